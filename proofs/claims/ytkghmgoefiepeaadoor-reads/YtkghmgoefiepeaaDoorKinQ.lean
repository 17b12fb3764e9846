/- kin: checkStack. -/
import Derived.Test.YtkghmgoefiepeaaDoorKinP
import Derived.Test.YtkghmgoefiepeaaDoorRefL
import Derived.Deep.WholeRow
namespace Go.Proofs.YtkghmgoefiepeaaDoor.reads
open Go.ChangeShapes Go.WideShapes Go.ChangeAt Go.RowKit Kn
set_option linter.unusedSimpArgs false
set_option linter.unusedVariables false

/-- A new walk's cells. -/
def newWalk (v : Value) : Array Value := #[v] ++ Array.replicate 40 (.int .u32 0) ++ Array.replicate 40 (.bool false) ++ #[.slice none 0 0]
theorem newWalk_eq (v : Value) : Tryd.zeroCells103.setIfInBounds 0 v = newWalk v := by kernel_rfl
theorem info_walk : (Tryd.prog.info? 103).map (·.size) = some 82 := by kernel_rfl
theorem newWalk_size (v : Value) : (newWalk v).size = 82 := by simp [newWalk]
theorem store_walk (w : World) (p : Option Addr) (n cap : Nat) : (storeCells ⟨w.heap.size, 0, none⟩ (Tryd.zeroCells103.toList.set 0 (.slice p n cap))).run Tryd.prog (w.alloc (.cells Tryd.zeroCells103 103)) = .ok () (w.alloc (.cells (newWalk (.slice p n cap)) 103)) := by
  have h := run_storeCells_new (P := Tryd.prog) w 103 Tryd.zeroCells103 (newWalk (.slice p n cap)) (by rw [newWalk_size]; exact info_walk) (by rw [newWalk_size]; kernel_rfl) (by kernel_rfl)
  rw [← newWalk_eq] at h ⊢
  simpa using h
theorem wk_new (w : World) (v : Value) : Wk (w.alloc (.cells (newWalk v) 103)) w.heap.size v (fun _ => 0) (fun _ => false) (.slice none 0 0) := by
  have hb := (MapKept.heap_alloc w (.cells (newWalk v) 103)).1
  refine ⟨by simp, ?_, fun i hi => ?_, fun i hi => ?_, ?_, fun i => ?_⟩
  · simp only [World.cell?, hb]; simp [newWalk]
  · simp only [World.cell?, hb]
    show (newWalk v)[1 + i]? = _
    unfold newWalk
    rw [Array.getElem?_append_left (by simp; omega), Array.getElem?_append_left (by simp; omega), Array.getElem?_append_right (by simp)]
    simp [hi]
  · simp only [World.cell?, hb]
    show (newWalk v)[41 + i]? = _
    unfold newWalk
    rw [Array.getElem?_append_left (by simp; omega), Array.getElem?_append_right (by simp)]
    have e : 41 + i - (#[v] ++ Array.replicate 40 (Value.int IntKind.u32 0)).size = i := by simp
    rw [e, Array.getElem?_replicate, if_pos hi]
  · simp only [World.cell?, hb]
    show (newWalk v)[81]? = _
    unfold newWalk
    rw [Array.getElem?_append_right (by simp)]
    simp
  · simp only [World.frozen?, hb]; simp

theorem wi_new (w : World) (ws : List (W × Nat)) (v : Value) : Wi w (w.alloc (.cells (newWalk v) 103)) ws v w.heap.size (fun _ => 0) (fun _ => false) (.slice none 0 0) [] (fun _ _ => False) := by
  refine ⟨wk_new w v, Nat.le_refl _, (Below.refl _ _).alloc (Nat.le_refl _) _, World.ownsRow_nil _ _ _ _, fun i _ => by simp, fun i h hm => ?_, fun i hi => (by cases hi), fun x hx => (by cases hx), fun i h hi hh => ?_⟩
  · unfold mks at hm
    split at hm
    · simp at hm
    · simpa using hm
  · right; right
    intro hm
    rw [mks_in hi] at hm
    simp at hm

theorem pairs_len (n : Nat) : (pairs n).length = (n + 1) * 17 := by
  unfold pairs
  rw [List.length_flatMap]
  simp [List.map_const']
theorem unm_le (n : Nat) (M : Nat → Nat → Bool) (h : n ≤ 40) : unm n M ≤ 697 := by
  have := List.countP_le_length (p := fun p : Nat × Nat => !M p.1 p.2) (l := pairs n)
  rw [pairs_len] at this
  unfold unm
  omega
theorem own_last {w : World} {B : Nat} {e : TypeId} {v : Value} {A : List (Nat × Nat)} {x : Nat × Nat} (h : w.ownsRow B e 2 v (A ++ [x]).length (acells (A ++ [x]))) : ∃ g c, v = .slice (some ⟨g, 0, none⟩) (A.length + 1) c ∧ A.length + 1 ≤ c ∧ c ≤ maxLen ∧ g < w.heap.size ∧ B ≤ g ∧ w.cell? ⟨g, A.length * 2, none⟩ = some (.int .i64 (x.1 : Nat)) ∧ w.cell? ⟨g, A.length * 2 + 1, none⟩ = some (.int .i64 (x.2 : Nat)) := by
  have hl : (A ++ [x]).length = A.length + 1 := by simp
  have hc := fun g hg => h.cells (g := g) hg
  rcases h.2 with ⟨_, h0⟩ | ⟨g, c, cur, hv, hb, hg, hn, hm, _⟩
  · omega
  · subst hv
    have key : ∀ j u, (acells (A ++ [x]))[j]? = some u → w.cell? ⟨g, j, none⟩ = some u := by
      intro j u hj
      have := hc g rfl j u hj
      have hadd : (⟨g, 0, none⟩ : Addr).add j = ⟨g, j, none⟩ := by unfold Addr.add; split <;> simp_all
      rw [hadd] at this
      exact this
    refine ⟨g, c, by rw [hl], by omega, hm, (Array.getElem?_eq_some_iff.1 hg).1, hb, key _ _ ?_, key _ _ ?_⟩
    · rw [acells_append, List.getElem?_append_right (by rw [acells_len]; omega), acells_len]; simp [acells]
    · rw [acells_append, List.getElem?_append_right (by rw [acells_len]; omega), acells_len]
      simp [acells]

theorem several_iff {ws : List (W × Nat)} {H : Nat → Nat} {k : Nat} (hk : k < ws.length) (hH : H k < 2 ^ 17) : 1 < cnt (mks ws H) k 17 ↔ H k &&& (H k - 1) ≠ 0 := by
  rw [cnt_two]
  have hb : ∀ h, (H k).testBit h = true → h ≤ 16 := fun h hh => by
    apply Classical.byContradiction
    intro hn
    have : H k < 2 ^ h := Nat.lt_of_lt_of_le hH (Nat.pow_le_pow_right (by omega) (by omega))
    rw [Nat.testBit_lt_two_pow this] at hh
    cases hh
  constructor
  · rintro ⟨h1, h2, hlt, _, m1, m2⟩ hz
    rw [mks_in hk] at m1 m2
    have := (two_bits 17 (H k) hH).1 hz h1 h2 m1 m2
    omega
  · intro hz
    have : ¬ ∀ h1 h2, (H k).testBit h1 = true → (H k).testBit h2 = true → h1 = h2 := fun h => hz ((two_bits 17 (H k) hH).2 h)
    obtain ⟨h1, hx⟩ := Classical.not_forall.1 this
    obtain ⟨h2, hx⟩ := Classical.not_forall.1 hx
    obtain ⟨b1, hx⟩ := Classical.not_imp.1 hx
    obtain ⟨b2, hne⟩ := Classical.not_imp.1 hx
    rcases Nat.lt_or_gt_of_ne hne with hlt | hlt
    · exact ⟨h1, h2, hlt, hb h2 b2, by rw [mks_in hk]; exact b1, by rw [mks_in hk]; exact b2⟩
    · exact ⟨h2, h1, hlt, hb h1 b1, by rw [mks_in hk]; exact b2, by rw [mks_in hk]; exact b1⟩

theorem wi_wrong {w0 w : World} {ws : List (W × Nat)} {vw va : Value} {b : Nat} {H : Nat → Nat} {Fd : Nat → Bool} (h : Wi w0 w ws vw b H Fd va [] (fun _ _ => False)) (h0 : mks ws H 0 0 = true) {k : Nat} (hk : k < ws.length) : Wrong ws k ↔ (H k &&& (H k - 1) ≠ 0 ∨ Fd k = true) := by
  have hm : Marked ws (mks ws H) Fd := ⟨h0, h.reach, h.bad⟩
  have hg : ∀ i j, i < ws.length → j ≤ 16 → Gone ws (mks ws H) Fd i j := fun i j hi hj => by
    rcases h.gone i j hi hj with hf | hm | hg
    · exact hf.elim
    · cases hm
    · exact hg
  rw [wrong_iff hm hg hk, several_iff hk (h.hH k hk), Or.comm]

set_option maxHeartbeats 1000000 in
set_option maxRecDepth 100000 in
theorem checkStack_any (ws : List (W × Nat)) (p : Option Addr) (g cap : Nat) (w : World) (hn : ws.length ≤ 40) (hw : KAt w p g ws) (hf : ∀ (i : Nat) (x : W × Nat), ws[i]? = some x → Fine x.1 ws.length) (hge : 0 < w.heap.size) (hE : HasEff w) :
    Calls Tryd.prog 21 #[.slice p ws.length cap] w fun e w' => ∃ r : Int, e = .returned (.int .i64 r) ∧ IsFirst (Wrong ws) ws.length r ∧ Below w.heap.size w w' := by
  have HW : Hid (KAt w p g ws) := hw
  have HF : Hid (∀ (i : Nat) (x : W × Nat), ws[i]? = some x → Fine x.1 ws.length) := hf
  have HE : Hid (HasEff w) := hE
  clear hw hf hE
  go_enter Tryd.func21, Tryd.ntmps21
  have hst := store_walk w p ws.length cap
  go_wp2_with fail
  clear hst
  have hw0 := wi_new w ws (.slice p ws.length cap)
  refine (arrive_any ws p cap w.heap.size 0 0 _ _ _ [] _ w _ hn (by omega) (by omega) (reach_start ws) (by simp) hw0).mono ?_
  rintro e W1 ⟨rfl, H1, va1, A1, hwi, hmk, _, hms, _, _⟩
  have hU : A1.length + 2 * unm ws.length (mks ws H1) ≤ 1394 := by
    have := unm_le ws.length (mks ws (fun _ => 0)) hn
    simp at hms
    omega
  have HI : Hid (Wi w W1 ws (.slice p ws.length cap) w.heap.size H1 (fun _ => false) va1 A1 (fun _ _ => False)) := hwi
  have HM : Hid (mks ws H1 0 0 = true) := hmk
  clear hwi hmk hms hw0
  go_wp2_with fail
  go_loopg [4] (A1.length + 2 * unm ws.length (mks ws H1)) (fun gk _ wr => ∃ (H : Nat → Nat) (Fd : Nat → Bool) (va : Value) (A : List (Nat × Nat)), Wi w wr ws (.slice p ws.length cap) w.heap.size H Fd va A (fun _ _ => False) ∧ mks ws H 0 0 = true ∧ gk = A.length + 2 * unm ws.length (mks ws H) ∧ gk ≤ 1394)
  case atStart => exact ⟨H1, _, va1, A1, HI.out, HM.out, rfl, hU⟩
  case round =>
    clear HI HM hU
    obtain ⟨H, Fd, va, A, hwi, hmk, rfl, hU⟩ := hrel
    have HI : Hid (Wi w wr ws (.slice p ws.length cap) w.heap.size H Fd va A (fun _ _ => False)) := hwi
    have HM : Hid (mks ws H 0 0 = true) := hmk
    clear hwi hmk
    have ca := HI.out.wk.ca
    have fa := HI.out.wk.free 81
    have hbl := HI.out.wk.lt
    rcases List.eq_nil_or_concat A with rfl | ⟨A', x, rfl⟩
    · obtain ⟨q, c, rfl⟩ := own_len HI.out.own
      have HWr : Hid (∀ k, k < ws.length → (Wrong ws k ↔ (H k &&& (H k - 1) ≠ 0 ∨ Fd k = true))) := by
        have hx1 : ∀ k, k < ws.length → (Wrong ws k ↔ (H k &&& (H k - 1) ≠ 0 ∨ Fd k = true)) := fun k hk => wi_wrong HI.out HM.out hk
        exact hx1
      have HH : Hid (∀ k, k < ws.length → H k < 2 ^ 17) := HI.out.hH
      go_wp2
      go_loopw [33] (fun i w2 => ∃ k : Nat, i = .int .i64 k ∧ k ≤ ws.length ∧ (∀ j, j < k → ¬ Wrong ws j) ∧ Wk w2 w.heap.size (.slice p ws.length cap) H Fd (.slice q 0 c) ∧ Below w.heap.size w w2) (fun i _ => ws.length - (intOf i).toNat)
      case atStart => exact ⟨0, rfl, by omega, fun j h => by omega, HI.out.wk, HI.out.below⟩
      case round =>
        clear ca fa
        obtain ⟨k, rfl, hk, hno, hwk, hbl2⟩ := hrel
        have HNo : Hid (∀ j, j < k → ¬ Wrong ws j) := hno
        have HWK : Hid (Wk wr w.heap.size (.slice p ws.length cap) H Fd (.slice q 0 c)) := hwk
        clear hno hwk
        by_cases hkn : k < ws.length
        · have c1 := HWK.out.ch k (by omega)
          have c2 := HWK.out.cf k (by omega)
          have hHk := HH.out k hkn
          have h40 : (k : Int) < 40 := by omega
          have tw := u32_two (H k) hHk
          have tw2 : bits .and .u32 (H k : Nat) (((H k : Int) - 1) % 4294967296) = ((H k &&& (H k - 1) : Nat) : Int) := by rw [IntKind.wrap_u32] at tw; exact tw
          have HK : Hid (Wrong ws k ↔ (H k &&& (H k - 1) ≠ 0 ∨ Fd k = true)) := HWr.out k hkn
          obtain ⟨z, hz⟩ : ∃ z, H k &&& (H k - 1) = z := ⟨_, rfl⟩
          rw [hz] at tw tw2 HK
          clear hz hHk
          have next : ∀ w', Wk w' w.heap.size (.slice p ws.length cap) H Fd (.slice q 0 c) → Below w.heap.size w w' → ¬ Wrong ws k → ∃ k' : Nat, Value.int IntKind.i64 ((k : Int) + 1) = .int .i64 (k' : Nat) ∧ k' ≤ ws.length ∧ (∀ j, j < k' → ¬ Wrong ws j) ∧ Wk w' w.heap.size (.slice p ws.length cap) H Fd (.slice q 0 c) ∧ Below w.heap.size w w' := by
            intro w' h1 h2 h3
            refine ⟨k + 1, by go_num, by omega, fun j hj => ?_, h1, h2⟩
            by_cases e : j = k
            · subst e; exact h3
            · exact HNo.out j (by omega)
          have HN : Hid (∀ w', Wk w' w.heap.size (.slice p ws.length cap) H Fd (.slice q 0 c) → Below w.heap.size w w' → ¬ Wrong ws k → ∃ k' : Nat, Value.int IntKind.i64 ((k : Int) + 1) = .int .i64 (k' : Nat) ∧ k' ≤ ws.length ∧ (∀ j, j < k' → ¬ Wrong ws j) ∧ Wk w' w.heap.size (.slice p ws.length cap) H Fd (.slice q 0 c) ∧ Below w.heap.size w w') := next
          clear next
          by_cases hz : z = 0
          · subst hz
            cases hF : Fd k
            · rw [hF] at c2
              go_wp2_with fail
              go_quiet (fail)
              go_wp2
              go_roundw
              case rel => exact HN.out _ (HWK.out.same rfl) (hbl2.drewN' _) (fun hwr => by rcases HK.out.1 hwr with h | h; exact h rfl; rw [hF] at h; cases h)
              case measure => simp [intOf] <;> omega
            · rw [hF] at c2
              go_wp2_with fail
              go_quiet (fail)
              go_wp2
              go_ret
              exact ⟨k, rfl, .inr ⟨k, hkn, rfl, HK.out.2 (.inr hF), HNo.out⟩, hbl2.drewN' _⟩
          · have tz : ((z : Int) != 0) = true := by simp; omega
            go_wp2_with fail
            go_quiet (fail)
            go_wp2
            go_ret
            exact ⟨k, rfl, .inr ⟨k, hkn, rfl, HK.out.2 (.inl hz), HNo.out⟩, hbl2.drewN' _⟩
        · obtain rfl : k = ws.length := by omega
          go_wp2
          go_ret
          exact ⟨-1, rfl, .inl ⟨rfl, HNo.out⟩, hbl2⟩
    · rw [List.concat_eq_append] at HI hU
      obtain ⟨g2, c2, rfl, hc2, hcm, hg2, hbg, k0, k1⟩ := own_last HI.out.own
      have hin := HI.out.inA x (by simp)
      have hne : ¬ g2 = w.heap.size := by omega
      unfold maxLen at hcm
      go_wp2_with fail
      have hp := (wi_pop HI.out rfl).mono ((Below.refl _ _).alloc (Nat.le_refl _) (.cells #[.int .i64 (x.1 : Nat), .int .i64 (x.2 : Nat)] 106))
      refine (step_any ws p g cap w.heap.size x.1 x.2 H Fd _ A' w _ hn hin.1 hin.2.1 hin.2.2 (by simp at hU; omega) HW.out HF.out hge HE.out hp).mono ?_
      rintro e W2 ⟨rfl, H2, Fd2, va2, A2, hwi2, hmono, hms⟩
      have HI2 : Hid (Wi w W2 ws (.slice p ws.length cap) w.heap.size H2 Fd2 va2 A2 (fun _ _ => False)) := hwi2
      have HM2 : Hid (mks ws H2 0 0 = true) := hmono _ _ HM.out
      clear hp hwi2 hmono ca fa k0 k1
      go_wp2
      go_roundg (A2.length + 2 * unm ws.length (mks ws H2))
      case measure => simp; omega
      case rel => exact ⟨H2, Fd2, va2, A2, HI2.out, HM2.out, rfl, by simp at hU; omega⟩

end Go.Proofs.YtkghmgoefiepeaaDoor.reads
