/- The law Reads, walked. -/
import Derived.Test.YtkghmgoefiepeaaDoorKinU
namespace Go.Proofs.YtkghmgoefiepeaaDoor.reads
open Go.ChangeShapes Go.WideShapes Go.ChangeAt Go.RowKit Kn Go.Proofs.YtkghmgoefiepeaaDoor.img
set_option linter.unusedSimpArgs false
set_option linter.unusedVariables false

theorem num_any (n : Int) (w : World) : Calls Tryd.prog 6 #[.int .i64 n] w fun e w' => e = .returned (.int .i64 n) ∧ w' = w := by
  go_enter Tryd.func6, Tryd.ntmps6
  go_wp2
  go_ret
  exact ⟨rfl, rfl⟩

set_option maxHeartbeats 1000000 in
set_option maxRecDepth 100000 in
theorem reads_walk (sel src : ByteArray) (n : Int) (w : World) (hs1 : sel.size ≤ 140737488355328) (hs2 : src.size ≤ 140737488355328)
    (hg0 : 0 < w.heap.size) (hg1 : 2 < w.heap.size) (hg2 : 1 < w.heap.size) (hE : HasEff w) (hT1 : HasPlains w) (hT2 : HasHeads w) :
    Calls Tryd.prog 3 #[.string sel, .string src, .int .i64 n] w fun e w' => e = .returned (.bool true) ∧ Below w.heap.size w w' := by
  have HG : Hid (HasEff w ∧ HasPlains w ∧ HasHeads w) := ⟨hE, hT1, hT2⟩
  have hm1 : sel.size ≤ maxLen := by unfold maxLen; omega
  have hm2 : src.size ≤ maxLen := by unfold maxLen; omega
  clear hE hT1 hT2
  go_enter Tryd.func3, Tryd.ntmps3
  go_wp2_with fail
  refine (knew_28 w).mono ?_
  rintro e w1 ⟨b, mb, sb, a, rfl, hk1, hb1⟩
  go_wp2_with fail
  refine (rnew_28 w1).mono ?_
  rintro e w2 ⟨rb, vc, rfl, hr2, hb2⟩
  have HK2 : Hid (K0 w2 w.heap.size b mb sb a) := hk1.below hb2
  have HR2 : Hid (RIm w2 w1.heap.size rb vc newCl) := hr2
  have hW2 : Below w.heap.size w w2 := hb1.trans (hb2.mono hb1.size)
  have HL : Hid (b < w1.heap.size ∧ mb < w1.heap.size ∧ sb < w1.heap.size ∧ w1.heap.size ≤ rb ∧ rb < w2.heap.size ∧ ∀ k, vc.ownBlock = some k → w1.heap.size ≤ k ∧ k < w2.heap.size) := by
    have hx1 : b < w1.heap.size ∧ mb < w1.heap.size ∧ sb < w1.heap.size ∧ w1.heap.size ≤ rb ∧ rb < w2.heap.size ∧ ∀ k, vc.ownBlock = some k → w1.heap.size ≤ k ∧ k < w2.heap.size := ⟨hk1.kb.tab.cel.lt, by obtain ⟨i, hm⟩ := hk1.map; exact hm.lt, hk1.kb.snd.map.lt, hr2.lo, hr2.lt, fun k hk => hr2.own.lt k hk⟩
    exact hx1
  have hz1 := hb1.size
  have hz2 := hb2.size
  clear hk1 hr2 hb1 hb2
  go_wp2_with fail
  refine (num_any 0 w2).mono ?_
  rintro e w3 ⟨rfl, rfl⟩
  by_cases hneg : n < 0
  · skip
    go_wp2_with fail
    refine (kC_neg n _ _ hneg).mono ?_
    rintro e w4 ⟨rfl, hb4⟩
    have HK4 : Hid (K0 w4 w.heap.size b mb sb a) := HK2.out.below hb4
    have HR4 : Hid (RIm w4 w1.heap.size rb vc newCl) := HR2.out.below hb4
    have hW4 : Below w.heap.size w w4 := hW2.trans (hb4.mono hW2.size)
    clear hb4
    go_wp2_with fail
    refine (rC_neg n _ _ _ _ hneg HR4.out).mono ?_
    rintro e w5 ⟨rfl, rfl⟩
    go_wp2_with fail
    refine (kM_none sel src _ _ _ _ _ _ HK4.out).mono ?_
    rintro e w6 ⟨rfl, rfl⟩
    go_wp2_with fail
    refine (rM_none sel src _ _ _ _ HR4.out).mono ?_
    rintro e w7 ⟨rfl, rfl⟩
    go_wp2_with fail
    refine (num_any 1 _).mono ?_
    rintro e w8 ⟨rfl, rfl⟩
    go_wp2_with fail
    refine (num_any 2 _).mono ?_
    rintro e w9 ⟨rfl, rfl⟩
    go_wp2
    go_ret
    exact ⟨rfl, hW4⟩
  by_cases hbig : 10 < n
  · skip
    go_wp2_with fail
    refine (kC_big n _ _ _ _ _ _ hbig HK2.out).mono ?_
    rintro e w4 ⟨rfl, hb4⟩
    have HK4 : Hid (K0 w4 w.heap.size b mb sb a) := HK2.out.below hb4
    have HR4 : Hid (RIm w4 w1.heap.size rb vc newCl) := HR2.out.below hb4
    have hW4 : Below w.heap.size w w4 := hW2.trans (hb4.mono hW2.size)
    clear hb4
    go_wp2_with fail
    refine (rC_big n _ _ _ _ hbig HR4.out).mono ?_
    rintro e w5 ⟨rfl, rfl⟩
    go_wp2_with fail
    refine (kM_none sel src _ _ _ _ _ _ HK4.out).mono ?_
    rintro e w6 ⟨rfl, rfl⟩
    go_wp2_with fail
    refine (rM_none sel src _ _ _ _ HR4.out).mono ?_
    rintro e w7 ⟨rfl, rfl⟩
    go_wp2_with fail
    refine (num_any 9 _).mono ?_
    rintro e w8 ⟨rfl, rfl⟩
    go_wp2_with fail
    refine (num_any 2 _).mono ?_
    rintro e w9 ⟨rfl, rfl⟩
    go_wp2
    go_ret
    exact ⟨rfl, hW4⟩
  obtain ⟨m, rfl⟩ := Int.eq_ofNat_of_zero_le (by omega : 0 ≤ n)
  have hm10 : m ≤ 10 := by omega
  have hlw := hW2.size
  go_wp2_with fail
  refine (kC_ok m w3 _ _ _ _ _ (by omega) (by omega) hlw HK2.out).mono ?_
  rintro e w4 ⟨rfl, c, cm, hk4, hsp4, hcl, hcml⟩
  obtain ⟨l1, l2, l2s, l3, l4, l5⟩ := HL.out
  have hlo := HK2.out.kb.lo
  have HK4 : Hid (K1 w4 w.heap.size b mb sb c cm m) := hk4
  have HR4 : Hid (RIm w4 w1.heap.size rb vc newCl) := HR2.out.spare hsp4 (by simp; omega) (fun k hk => by have := l5 k hk; simp; omega)
  have hW4 : Below w.heap.size w w4 := hW2.trans (hsp4.below hlw (by simp; exact hlo.2.1))
  have hc4 : c < w4.heap.size ∧ cm < w4.heap.size := ⟨hk4.cel.lt, hk4.mm.lt⟩
  have hz4 := hsp4.size
  clear hk4 hsp4
  go_wp2_with fail
  refine (rC_ok m w4 _ _ _ (by omega) (by omega) HR4.out).mono ?_
  rintro e w5 ⟨rfl, vc2, hr5, hsp5, hvc⟩
  have HR5 : Hid (RIm w5 w1.heap.size rb vc2 (withC m)) := hr5
  have hin : ∀ k, k ∈ rb :: vc.ownBlock.toList → w1.heap.size ≤ k ∧ k < w3.heap.size := by
    intro k hk
    rw [List.mem_cons] at hk
    rcases hk with rfl | hk
    · exact ⟨l3, l4⟩
    · simp at hk; exact l5 k hk
  have HK5 : Hid (K1 w5 w.heap.size b mb sb c cm m) := HK4.out.spare hsp5 (fun h => by have := hin _ h; omega) (fun h => by have := hin _ h; omega) (fun h => by have := hin _ h; omega) (fun h => by have := hin _ h; omega) (fun h => by have := hin _ h; omega)
  have hW5 : Below w.heap.size w w5 := hW4.trans (hsp5.below hW4.size (fun k hk => by have := hin k hk; omega))
  have hz5 := hsp5.size
  have HV : Hid (∀ k, k ∈ rb :: vc2.ownBlock.toList → w1.heap.size ≤ k ∧ k ∉ [cm, b, sb]) := by
    have hx1 : ∀ k, k ∈ rb :: vc2.ownBlock.toList → w1.heap.size ≤ k ∧ k ∉ [cm, b, sb] := by
      intro k hk
      rw [List.mem_cons] at hk
      rcases hk with rfl | hk
      · exact ⟨l3, by simp; omega⟩
      · simp at hk
        refine ⟨(hr5.own.lt k hk).1, ?_⟩
        rcases hvc with h | h
        · rw [h] at hk; have := l5 k hk; simp; omega
        · have := h k hk; simp; omega
    exact hx1
  clear hr5 hsp5 hvc hin
  go_wp2_with fail
  refine (kM_any m sel src w5 _ _ _ _ _ _ hm10 hs1 hs2 HK5.out (Nat.lt_of_lt_of_le hg0 hW5.size) (Nat.lt_of_lt_of_le hg1 hW5.size) (Nat.lt_of_lt_of_le hg2 hW5.size) (HG.out.1.below hg0 hW5) (HG.out.2.1.below hg1 hW5) (HG.out.2.2.below hg2 hW5)).mono ?_
  rintro e w6 ⟨er, at1, rfl, hmi, hsp6⟩
  have hcm : w.heap.size ≤ cm ∧ w.heap.size ≤ b ∧ w.heap.size ≤ sb := ⟨HK5.out.lo.2, HK5.out.kb.lo.1, HK5.out.kb.lo.2.2⟩
  have HR6 : Hid (RIm w6 w1.heap.size rb vc2 (withC m)) := HR5.out.spare hsp6 (HV.out rb (by simp)).2 (fun k hk => (HV.out k (by simp [hk])).2)
  have hW6 : Below w.heap.size w w6 := hW5.trans (hsp6.below hW5.size (by simp; exact hcm))
  have hz6 := hsp6.size
  clear hsp6
  go_wp2_with fail
  refine (rM_any m sel src w6 _ _ _ hm10 hm1 hm2 (by omega) HR6.out).mono ?_
  rintro e w7 ⟨er2, at2, rfl, hmi2, hsp7⟩
  obtain ⟨rfl, rfl⟩ := methodIs_one hmi hmi2
  have hW7 : Below w.heap.size w w7 := hW6.trans (hsp7.below hW6.size (fun k hk => by have := (HV.out k hk).1; omega))
  clear hsp7 hmi hmi2
  go_wp2_with fail
  refine (num_any 0 _).mono ?_
  rintro e w8 ⟨rfl, rfl⟩
  go_wp2_with fail
  refine (num_any er _).mono ?_
  rintro e w9 ⟨rfl, rfl⟩
  go_wp2
  go_ret
  exact ⟨rfl, hW7⟩

end Go.Proofs.YtkghmgoefiepeaaDoor.reads
