/- kin: Method, of the law's class. -/
import Derived.Test.YtaaidlcjlplbpaaDoorKinR
import Derived.Test.YtaaidlcjlplbpaaDoorRefM
namespace Go.Proofs.YtaaidlcjlplbpaaDoor.reads
open Go.ChangeShapes Go.WideShapes Go.ChangeAt Go.RowKit Kn
set_option linter.unusedSimpArgs false
set_option linter.unusedVariables false

set_option maxRecDepth 100000 in
theorem kM_none (sel src : ByteArray) (w : World) (B b mb a : Nat) (h : K0 w B b mb a) :
    Calls Tryd.prog 12 #[.pointer (some ⟨b, 0, none⟩), .string ⟨#[67]⟩, .string sel, .string src] w fun e w' => e = .returned (.tuple #[.int .i64 2, .int .i64 0]) ∧ w' = w := by
  have c0 := h.cb
  have lk := k0_C h
  clear h
  go_enter Tryd.func12, Tryd.ntmps12
  go_wp2
  go_ret2
  exact ⟨rfl, rfl⟩

theorem k1_C {w : World} {B b mb c cm : Nat} {n : Int} (h : K1 w B b mb c cm n) : (Instr.lookup 59 (.map (some mb)) (.string ⟨#[67]⟩) false).run Tryd.prog w = .ok (.pointer (some ⟨c, 0, none⟩)) w := by
  obtain ⟨a, i, hm⟩ := h.map
  have h1 := run_lookup hm Tryd.underlying59 Tryd.underlying9 (zero_class w) ⟨#[67]⟩
  rw [h1]
  have e1 : ((⟨#[67]⟩ : ByteArray) == nmAny) = false := (beq_ba_false _ _).2 (by simp [nmAny])
  have e2 : ((⟨#[67]⟩ : ByteArray) == nmInt) = false := (beq_ba_false _ _).2 (by simp [nmInt])
  have e3 : ((⟨#[67]⟩ : ByteArray) == ⟨#[67]⟩) = true := beq_ba_self _
  simp [List.lookup, e1, e2, e3]

theorem starts_at {w : World} {B : Nat} {e : TypeId} {v : Value} {ws : List (W × Nat)} (h : w.ownsRow B e 1 v ws.length (startsOf ws)) : ∃ p g cap, v = .slice p ws.length cap ∧ ∀ j x, ws[j]? = some x → p = some ⟨g, 0, none⟩ ∧ w.cell? ⟨g, j, none⟩ = some (.int .i64 (x.2 : Nat)) := by
  have hc := fun g hg => h.cells (g := g) hg
  rcases h.2 with ⟨rfl, h0⟩ | ⟨g, cap, cur, rfl, hb, hg, hn, _⟩
  · refine ⟨none, 0, 0, by rw [h0], fun j x hx => ?_⟩
    have := (List.getElem?_eq_some_iff.1 hx).1
    omega
  · refine ⟨some ⟨g, 0, none⟩, g, cap, rfl, fun j x hx => ⟨rfl, ?_⟩⟩
    have := hc g rfl j (.int .i64 (x.2 : Nat)) (by simp [startsOf, hx])
    have hadd : (⟨g, 0, none⟩ : Addr).add j = ⟨g, j, none⟩ := by unfold Addr.add; split <;> simp_all
    rw [hadd] at this
    exact this

theorem numIs_fits {ws : List (W × Nat)} {args slots : Nat} {e i : Int} (h : NumIs ws args slots e i) : (∃ j, j < ws.length ∧ i = (j : Int) ∧ (e = 1 ∨ e = 7) ∧ FitsIs ws args slots e i) ∨ ((∀ j, j < ws.length → ¬ NumBad ws args slots j) ∧ e = 0 ∧ i = 0) := by
  rcases h with ⟨j, hj, rfl, hb, hn, h1, h7⟩ | h
  · left
    refine ⟨j, hj, rfl, ?_, .inl ⟨j, hj, rfl, hb, hn, h1, h7⟩⟩
    by_cases ha : argBad ws args j
    · exact .inl (h1 ha)
    · exact .inr (h7 ha)
  · exact .inr h

set_option maxHeartbeats 2000000 in
set_option maxRecDepth 100000 in
theorem kM_any (n : Nat) (sel src : ByteArray) (w : World) (B b mb c cm : Nat) (hn : n ≤ 10) (hs1 : sel.size ≤ 140737488355328) (hs2 : src.size ≤ 140737488355328) (h : K1 w B b mb c cm n)
    (hg0 : 0 < w.heap.size) (hg1 : 2 < w.heap.size) (hg2 : 1 < w.heap.size) (hE : HasEff w) (hT1 : HasPlains w) (hT2 : HasHeads w) :
    Calls Tryd.prog 12 #[.pointer (some ⟨b, 0, none⟩), .string ⟨#[67]⟩, .string sel, .string src] w fun e w' => ∃ r a : Int, e = .returned (.tuple #[.int .i64 r, .int .i64 a]) ∧ MethodIs (bl sel) (bl src) n r a ∧ Spare w w' [cm] := by
  have HI : Hid (K1 w B b mb c cm n) := h
  have HG : Hid (HasEff w ∧ HasPlains w ∧ HasHeads w) := ⟨hE, hT1, hT2⟩
  have c0 := HI.out.cb
  have lk := k1_C HI.out
  clear h hE hT1 hT2
  go_enter Tryd.func12, Tryd.ntmps12
  go_wp2_with fail
  refine (isSelector_any sel w hs1).mono ?_
  rintro e w1 ⟨rfl, hb1⟩
  have HI1 : Hid (K1 w1 B b mb c cm n) := HI.out.below hb1
  have HS1 : Hid (Spare w w1 [cm]) := (Spare.of_below hb1).mono (by simp)
  clear c0 lk
  cases hsel : selector (bl sel)
  · go_wp2
    go_ret2
    exact ⟨1, 0, rfl, .inl ⟨hsel, rfl, rfl⟩, HS1.out⟩
  · by_cases hlong : 120 < src.size
    · go_wp2
      go_ret2
      exact ⟨5, 0, rfl, .inr (.inl ⟨hsel, by rw [bl_length]; exact hlong, rfl, rfl⟩), HS1.out⟩
    · go_wp2_with fail
      refine (clone_any src _ hs2).mono ?_
      rintro e w2 ⟨rfl, hb2⟩
      have hbW : Below w.heap.size w w2 := hb1.trans (hb2.mono hb1.size)
      go_wp2_with fail
      refine (readWords_any src w2 (by omega) (Nat.lt_of_lt_of_le hg1 hbW.size) (Nat.lt_of_lt_of_le hg2 hbW.size) ?_ ?_).mono ?_
      · exact HG.out.2.1.below hg1 hbW
      · exact HG.out.2.2.below hg2 hbW
      rintro e w3 ⟨vw, vs, rfl, hown, hb3⟩
      have hbW3 : Below w.heap.size w w3 := hbW.trans (hb3.mono hbW.size)
      have HI3 : Hid (K1 w3 B b mb c cm n) := HI.out.below hbW3
      have HS3 : Hid (Spare w w3 [cm]) := (Spare.of_below hbW3).mono (by simp)
      have hge3 : 0 < w3.heap.size := Nat.lt_of_lt_of_le hg0 hbW3.size
      have HE3 : Hid (HasEff w3) := HG.out.1.below hg0 hbW3
      clear hb1 hb2 hb3 hbW HI1 HS1
      rcases words_bad (bl src) with hw | ⟨j, hj, hw⟩
      · rw [hw]
        have hown' := hown hw
        have hwl := words_le (bl src)
        have HFW : Hid (∀ (i : Nat) (x : W × Nat), (wordsAll (bl src)).1[i]? = some x → Fine0 x.1) := words_fine (bl src)
        have HSL : Hid (src.size ≤ 120) := (by omega : src.size ≤ 120)
        have HWB : Hid ((wordsAll (bl src)).2 = -1) := hw
        obtain ⟨ws, hws⟩ : ∃ ws, (wordsAll (bl src)).1 = ws := ⟨_, rfl⟩
        have HWS : Hid ((wordsAll (bl src)).1 = ws) := hws
        rw [hws] at hown' hwl HFW
        clear hws hw hown hlong
        obtain ⟨p, g, cap, rfl, hat⟩ := kAt_owns hown'.1
        have hst := hown'.2
        have HST : Hid (w3.ownsRow _ 3 1 vs ws.length (startsOf ws)) := hst
        have HK : Hid (KAt w3 p g ws) := hat
        obtain ⟨ps, gs, cs, rfl, hsr⟩ := starts_at hst
        have HSR : Hid (∀ j x, ws[j]? = some x → ps = some ⟨gs, 0, none⟩ ∧ w3.cell? ⟨gs, j, none⟩ = some (.int .i64 (x.2 : Nat))) := hsr
        clear hsr
        clear hst hat hown'
        obtain ⟨q3, q8, q48, qa⟩ := sel_parts hsel
        obtain ⟨ar, har⟩ : ∃ ar, argsOf (bl sel) = ar := ⟨_, rfl⟩
        have HAR : Hid (argsOf (bl sel) = ar) := har
        rw [har] at qa
        have k2 := HI3.out.cs
        go_wp2_with fail
        refine wp_region_noPanic ?_
        refine wp_region_held_drew (S := (fun w' => w'.cell? ⟨c, 2, none⟩ = some (.int .i64 (n : Nat)))) (by kernel_rfl) (by go_keep) (fun hHeld => ?_)
        refine wpAnyH_take (i := 0) (oi := _) (v := ?_) rfl (by kernel_rfl) (by kernel_rfl) (by kernel_rfl) (fun _ _ _ h => h) (Or.inl ⟨by rfl, ?_⟩) (by assumption) ?_
        rotate_left
        · intro w hSw; (try dsimp only at hSw); go_simp <;> with_reducible rfl
        simp only [Act.put, List.getElem_toArray, List.getElem_cons_zero, List.getElem_cons_succ, List.setIfInBounds_toArray, List.set_cons_zero, List.set_cons_succ]
        refine wpAnyH_take (i := 1) (oi := _) (v := ?_) rfl (by kernel_rfl) (by kernel_rfl) (by kernel_rfl) (fun _ _ _ h => h) (Or.inl ⟨by rfl, ?_⟩) (by assumption) ?_
        rotate_left
        · intro w hSw; (try dsimp only at hSw); go_simp <;> with_reducible rfl
        simp only [Act.put, List.getElem_toArray, List.getElem_cons_zero, List.getElem_cons_succ, List.setIfInBounds_toArray, List.set_cons_zero, List.set_cons_succ]
        refine wpAnyH_take (i := 3) (oi := _) (v := ?_) rfl (by kernel_rfl) (by kernel_rfl) (by kernel_rfl) (fun _ _ _ h => h) (Or.inl ⟨by rfl, ?_⟩) (by assumption) ?_
        rotate_left
        · intro w hSw; (try dsimp only at hSw); go_simp <;> with_reducible rfl
        simp only [Act.put, List.getElem_toArray, List.getElem_cons_zero, List.getElem_cons_succ, List.setIfInBounds_toArray, List.set_cons_zero, List.set_cons_succ]
        refine wpAnyH_take (i := 4) (oi := _) (v := ?_) rfl (by kernel_rfl) (by kernel_rfl) (by kernel_rfl) (fun _ _ _ h => h) (Or.inl ⟨by rfl, ?_⟩) (by assumption) ?_
        rotate_left
        · intro w hSw; (try dsimp only at hSw); go_simp <;> with_reducible rfl
        simp only [Act.put, List.getElem_toArray, List.getElem_cons_zero, List.getElem_cons_succ, List.setIfInBounds_toArray, List.set_cons_zero, List.set_cons_succ]
        refine wpAnyH_take (i := 5) (oi := _) (v := ?_) rfl (by kernel_rfl) (by kernel_rfl) (by kernel_rfl) (fun _ _ _ h => h) (Or.inl ⟨by rfl, ?_⟩) (by assumption) ?_
        rotate_left
        · intro w hSw; (try dsimp only at hSw); go_simp <;> with_reducible rfl
        simp only [Act.put, List.getElem_toArray, List.getElem_cons_zero, List.getElem_cons_succ, List.setIfInBounds_toArray, List.set_cons_zero, List.set_cons_succ]
        refine wpAnyH_take (i := 6) (oi := _) (v := ?_) rfl (by kernel_rfl) (by kernel_rfl) (by kernel_rfl) (fun _ _ _ h => h) (Or.inl ⟨by rfl, ?_⟩) (by assumption) ?_
        rotate_left
        · intro w hSw; (try dsimp only at hSw); go_simp <;> with_reducible rfl
        simp only [Act.put, List.getElem_toArray, List.getElem_cons_zero, List.getElem_cons_succ, List.setIfInBounds_toArray, List.set_cons_zero, List.set_cons_succ]
        refine wpAnyH_ready (rs := [2]) (by kernel_rfl) (by simp) ?_
        refine AllReadyH.cons (o := _) rfl (fun K hK => ?_) AllReadyH.nil
        go_simp
        refine (argumentsOf_any sel _ hsel).mono ?_; rintro e w4 ⟨rfl, hb⟩; rw [har]; have hb4 : Below w3.heap.size w3 w4 := undrew hb; have HI4 : Hid (K1 w4 B b mb c cm n) := HI3.out.below hb4; clear k2 hb; have k2 := HI4.out.cs
        try go_wp2_with fail
        refine hK.out _ _ (by go_keep) (fun hHeld => ?_)
        clear hK K
        try simp only [Act.put, List.getElem_toArray, List.getElem_cons_zero, List.getElem_cons_succ, List.setIfInBounds_toArray, List.set_cons_zero, List.set_cons_succ]
        refine wpAnyH_ready (rs := [7]) (by kernel_rfl) (by simp) ?_
        refine AllReadyH.cons (o := _) rfl (fun K hK => ?_) AllReadyH.nil
        go_simp
        refine (checkNumbers_any ws p g cap ar n w4 hwl qa hn (HK.out.below (Nat.le_refl _) hb4) HFW.out (Nat.lt_of_lt_of_le hge3 hb4.size) (HE3.out.below hge3 hb4)).mono ?_; rintro e w5 ⟨er, i, rfl, hnum, hb⟩; have hb5 : Below w3.heap.size w3 w5 := hb4.trans (hb.mono hb4.size); have HI5 : Hid (K1 w5 B b mb c cm n) := HI3.out.below hb5; clear k2 hb; have k2 := HI5.out.cs
        try go_wp2_with fail
        refine hK.out _ _ (by go_keep) (fun hHeld => ?_)
        clear hK K
        try simp only [Act.put, List.getElem_toArray, List.getElem_cons_zero, List.getElem_cons_succ, List.setIfInBounds_toArray, List.set_cons_zero, List.set_cons_succ]
        refine wpAnyH_take (i := 8) (oi := _) (v := ?_) rfl (by kernel_rfl) (by kernel_rfl) (by kernel_rfl) (fun _ _ _ h => h) (Or.inl ⟨by rfl, ?_⟩) (by assumption) ?_
        rotate_left
        · intro w hSw; (try dsimp only at hSw); go_simp <;> with_reducible rfl
        simp only [Act.put, List.getElem_toArray, List.getElem_cons_zero, List.getElem_cons_succ, List.setIfInBounds_toArray, List.set_cons_zero, List.set_cons_succ]
        refine wpAnyH_take (i := 9) (oi := _) (v := ?_) rfl (by kernel_rfl) (by kernel_rfl) (by kernel_rfl) (fun _ _ _ h => h) (Or.inl ⟨by rfl, ?_⟩) (by assumption) ?_
        rotate_left
        · intro w hSw; (try dsimp only at hSw); go_simp <;> with_reducible rfl
        simp only [Act.put, List.getElem_toArray, List.getElem_cons_zero, List.getElem_cons_succ, List.setIfInBounds_toArray, List.set_cons_zero, List.set_cons_succ]
        refine wpAnyH_take (i := 10) (oi := _) (v := ?_) rfl (by kernel_rfl) (by kernel_rfl) (by kernel_rfl) (fun _ _ _ h => h) (Or.inl ⟨by rfl, ?_⟩) (by assumption) ?_
        rotate_left
        · intro w hSw; (try dsimp only at hSw); go_simp <;> with_reducible rfl
        simp only [Act.put, List.getElem_toArray, List.getElem_cons_zero, List.getElem_cons_succ, List.setIfInBounds_toArray, List.set_cons_zero, List.set_cons_succ]
        refine wpAnyH_take (i := 11) (oi := _) (v := ?_) rfl (by kernel_rfl) (by kernel_rfl) (by kernel_rfl) (fun _ _ _ h => h) (Or.inl ⟨by rfl, ?_⟩) (by assumption) ?_
        rotate_left
        · intro w hSw; (try dsimp only at hSw); go_simp <;> with_reducible rfl
        simp only [Act.put, List.getElem_toArray, List.getElem_cons_zero, List.getElem_cons_succ, List.setIfInBounds_toArray, List.set_cons_zero, List.set_cons_succ]
        refine wpAnyH_take (i := 12) (oi := _) (v := ?_) rfl (by kernel_rfl) (by kernel_rfl) (by kernel_rfl) (fun _ _ _ h => h) (Or.inl ⟨by rfl, ?_⟩) (by assumption) ?_
        rotate_left
        · intro w hSw; (try dsimp only at hSw); go_simp <;> with_reducible rfl
        simp only [Act.put, List.getElem_toArray, List.getElem_cons_zero, List.getElem_cons_succ, List.setIfInBounds_toArray, List.set_cons_zero, List.set_cons_succ]
        refine wpAnyH_done (by kernel_rfl) ?_ _
        refine NoPanic.normal ?_
        clear hHeld
        clear hHeld
        clear hHeld
        have HS5 : Hid (Spare w w5 [cm]) := (HS3.out.trans (Spare.of_below hb5)).mono (by simp)
        have HM : Hid (∀ e' i' er' a', FitsIs ws ar n er' i' → ((∃ j x, i' = ((j : Nat) : Int) ∧ ws[j]? = some x ∧ e' = er' ∧ a' = ((x.2 : Nat) : Int)) ∨ (i' = -1 ∧ e' = 0 ∧ a' = 0)) → MethodIs (bl sel) (bl src) n e' a') := by
          have hx1 : ∀ e' i' er' a', FitsIs ws ar n er' i' → ((∃ j x, i' = ((j : Nat) : Int) ∧ ws[j]? = some x ∧ e' = er' ∧ a' = ((x.2 : Nat) : Int)) ∨ (i' = -1 ∧ e' = 0 ∧ a' = 0)) → MethodIs (bl sel) (bl src) n e' a' := fun e' i' er' a' hf hh =>
            .inr (.inr (.inr ⟨hsel, by rw [bl_length]; exact HSL.out, HWB.out, er', i', by rw [HWS.out, HAR.out]; exact hf, by rw [HWS.out]; exact hh⟩))
          exact hx1
        rcases numIs_fits hnum with ⟨j, hj, rfl, he17, hfit⟩ | ⟨hno, rfl, rfl⟩
        · obtain ⟨x, hx⟩ : ∃ x, ws[j]? = some x := ⟨_, List.getElem?_eq_getElem hj⟩
          obtain ⟨rfl, hcs⟩ := HSR.out j x hx
          have hgs : gs < w3.heap.size := (HST.out.lt gs rfl).2
          have k5 := (hb5.cell (p := ⟨gs, j, none⟩) hgs).trans hcs
          have te : (er == 0) = false := beq_eq_false_iff_ne.2 (by omega)
          have tn : (er != 0) = true := by simp; omega
          have hji : (j : Int) < (ws.length : Int) := by omega
          have HFT : Hid (FitsIs ws ar n er (j : Int)) := hfit
          have HX : Hid (ws[j]? = some x) := hx
          clear hnum hfit hx hcs
          go_wp2_with fail
          go_quiet (fail)
          go_wp2
          go_ret2
          exact ⟨er, x.2, rfl, HM.out er j er x.2 HFT.out (.inl ⟨j, x, rfl, HX.out, rfl, rfl⟩), HS5.out.drewN _⟩
        · have HNo : Hid (∀ j, j < ws.length → ¬ NumBad ws ar n j) := hno
          clear hnum hno
          go_wp2_with fail
          refine (checkStack_any ws p g cap w5 hwl (HK.out.below (Nat.le_refl _) hb5) (fine_of HFW.out HNo.out) (Nat.lt_of_lt_of_le hge3 hb5.size) (HE3.out.below hge3 hb5)).mono ?_
          rintro e w6 ⟨r, rfl, hfirst, hb⟩
          have hb6 : Below w3.heap.size w3 w6 := hb5.trans (hb.mono hb5.size)
          have HI6 : Hid (K1 w6 B b mb c cm n) := HI3.out.below hb6
          have HS6 : Hid (Spare w w6 [cm]) := (HS3.out.trans (Spare.of_below hb6)).mono (by simp)
          have HFT : Hid (FitsIs ws ar n 6 r) := .inr ⟨HNo.out, rfl, hfirst⟩
          clear hb hfirst k2
          rcases fits_num HFT.out with rfl | ⟨j, hj, rfl⟩
          · have k3 := HI6.out.cc
            have hcl : c < w6.heap.size := HI6.out.lt.2
            have hcne : ¬ c = w6.heap.size := by omega
            go_wp2_with fail
            refine wp_region_noPanic ?_
            refine wp_region_held_drew (S := (fun w' => w'.cell? ⟨c, 3, none⟩ = some (.map (some cm)))) (by kernel_rfl) (by go_keep) (fun hHeld => ?_)
            refine wpAnyH_take (i := 0) (oi := _) (v := ?_) rfl (by kernel_rfl) (by kernel_rfl) (by kernel_rfl) (fun _ _ _ h => h) (Or.inl ⟨by rfl, ?_⟩) (by assumption) ?_
            rotate_left
            · intro w hSw; (try dsimp only at hSw); go_simp <;> with_reducible rfl
            simp only [Act.put, List.getElem_toArray, List.getElem_cons_zero, List.getElem_cons_succ, List.setIfInBounds_toArray, List.set_cons_zero, List.set_cons_succ]
            refine wpAnyH_take (i := 1) (oi := _) (v := ?_) rfl (by kernel_rfl) (by kernel_rfl) (by kernel_rfl) (fun _ _ _ h => h) (Or.inl ⟨by rfl, ?_⟩) (by assumption) ?_
            rotate_left
            · intro w hSw; (try dsimp only at hSw); go_simp <;> with_reducible rfl
            simp only [Act.put, List.getElem_toArray, List.getElem_cons_zero, List.getElem_cons_succ, List.setIfInBounds_toArray, List.set_cons_zero, List.set_cons_succ]
            refine wpAnyH_take (i := 2) (oi := _) (v := ?_) rfl (by kernel_rfl) (by kernel_rfl) (by kernel_rfl) (fun _ _ _ h => h) (Or.inl ⟨by rfl, ?_⟩) (by assumption) ?_
            rotate_left
            · intro w hSw; (try dsimp only at hSw); go_simp <;> with_reducible rfl
            simp only [Act.put, List.getElem_toArray, List.getElem_cons_zero, List.getElem_cons_succ, List.setIfInBounds_toArray, List.set_cons_zero, List.set_cons_succ]
            refine wpAnyH_take (i := 3) (oi := _) (v := ?_) rfl (by kernel_rfl) (by kernel_rfl) (by kernel_rfl) (fun _ _ _ h => h) (Or.inl ⟨by rfl, ?_⟩) (by assumption) ?_
            rotate_left
            · intro w hSw; (try dsimp only at hSw); go_simp <;> with_reducible rfl
            simp only [Act.put, List.getElem_toArray, List.getElem_cons_zero, List.getElem_cons_succ, List.setIfInBounds_toArray, List.set_cons_zero, List.set_cons_succ]
            refine wpAnyH_take (i := 4) (oi := _) (v := ?_) rfl (by kernel_rfl) (by kernel_rfl) (by kernel_rfl) (fun _ _ _ h => h) (Or.inl ⟨by rfl, ?_⟩) (by assumption) ?_
            rotate_left
            · intro w hSw; (try dsimp only at hSw); go_simp <;> with_reducible rfl
            simp only [Act.put, List.getElem_toArray, List.getElem_cons_zero, List.getElem_cons_succ, List.setIfInBounds_toArray, List.set_cons_zero, List.set_cons_succ]
            refine wpAnyH_take (i := 6) (oi := _) (v := ?_) rfl (by kernel_rfl) (by kernel_rfl) (by kernel_rfl) (fun _ _ _ h => h) (Or.inl ⟨by rfl, ?_⟩) (by assumption) ?_
            rotate_left
            · intro w hSw; (try dsimp only at hSw); go_simp <;> with_reducible rfl
            simp only [Act.put, List.getElem_toArray, List.getElem_cons_zero, List.getElem_cons_succ, List.setIfInBounds_toArray, List.set_cons_zero, List.set_cons_succ]
            refine wpAnyH_take (i := 7) (oi := _) (v := ?_) rfl (by kernel_rfl) (by kernel_rfl) (by kernel_rfl) (fun _ _ _ h => h) (Or.inl ⟨by rfl, ?_⟩) (by assumption) ?_
            rotate_left
            · intro w hSw; (try dsimp only at hSw); go_simp <;> with_reducible rfl
            simp only [Act.put, List.getElem_toArray, List.getElem_cons_zero, List.getElem_cons_succ, List.setIfInBounds_toArray, List.set_cons_zero, List.set_cons_succ]
            refine wpAnyH_ready (rs := [5, 8]) (by kernel_rfl) (by simp) ?_
            refine AllReadyH.cons (o := _) rfl (fun K hK => ?_) (AllReadyH.cons (o := _) rfl (fun K hK => ?_) AllReadyH.nil)
            · go_simp
              refine (clone_any sel _ hs1).mono ?_
              rintro e w7 ⟨rfl, hb⟩
              have hb7 : Below w6.heap.size w6 w7 := undrew hb
              have HI7 : Hid (K1 w7 B b mb c cm n) := HI6.out.below hb7
              clear k3 hb
              have k3 := HI7.out.cc
              have hcne7 : ¬ c = w7.heap.size := by have := HI7.out.lt.2; omega
              try go_wp2_with fail
              refine hK.out _ _ (by go_keep) (fun hHeld => ?_)
              clear hK K
              try simp only [Act.put, List.getElem_toArray, List.getElem_cons_zero, List.getElem_cons_succ, List.setIfInBounds_toArray, List.set_cons_zero, List.set_cons_succ]
              refine wpAnyH_ready (rs := [8]) (by kernel_rfl) (by simp) ?_
              refine AllReadyH.cons (o := _) rfl (fun K hK => ?_) AllReadyH.nil
              go_simp
              refine hK.out _ _ (by go_keep) (fun hHeld => ?_)
              clear hK K
              try simp only [Act.put, List.getElem_toArray, List.getElem_cons_zero, List.getElem_cons_succ, List.setIfInBounds_toArray, List.set_cons_zero, List.set_cons_succ]
              clear hHeld
              clear hHeld
              have HI8 : Hid (K1 (w7.alloc (.cells #[.slice p ws.length cap] 85)) B b mb c cm n) := HI6.out.below (hb7.alloc hb7.size _)
              have HS8 : Hid (Spare w (w7.alloc (.cells #[.slice p ws.length cap] 85)) [cm]) := (HS6.out.trans (Spare.of_below (hb7.alloc hb7.size _))).mono (by simp)
              clear k3 hcne7 HI7 hcne
              revert HI8 HS8
              generalize w7.alloc (.cells #[.slice p ws.length cap] 85) = w8
              intro HI8 HS8
              generalize w7.heap.size = pm
              obtain ⟨w9, hrun, hm9, hg9⟩ := Kn.run_update (P := Tryd.prog) (HI8.out.mm) Tryd.underlying71 Tryd.underlying9 sel (.pointer (some ⟨pm, 0, none⟩))
              have hc9 : w9.heap[c]? = w8.heap[c]? := hg9.block c HI8.out.lt.2 (by intro e; injection e with e; exact HI8.out.apart.2.2.2.2.2 e)
              have k9 : w9.cell? ⟨c, 3, none⟩ = some (.map (some cm)) := (World.cell?_of_block (a := ⟨c, 3, none⟩) hc9).trans HI8.out.cc
              have HG9 : Hid (w8.grownBy w9 (some cm)) := hg9
              clear hg9 hm9 hc9
              refine wpAnyH_ready (rs := [9]) (by kernel_rfl) (by simp) ?_
              refine AllReadyH.cons (o := _) rfl (fun K hK => ?_) AllReadyH.nil
              go_simp
              skip
              try go_wp2_with fail
              refine hK.out _ _ (by go_keep) (fun hHeld => ?_)
              clear hK K
              try simp only [Act.put, List.getElem_toArray, List.getElem_cons_zero, List.getElem_cons_succ, List.setIfInBounds_toArray, List.set_cons_zero, List.set_cons_succ]
              refine wpAnyH_done (by kernel_rfl) ?_ _
              refine NoPanic.normal ?_
              go_wp2
              go_ret2
              exact ⟨0, 0, rfl, HM.out 0 (-1) 6 0 HFT.out (.inr ⟨rfl, rfl, rfl⟩), HS8.out.then (Spare.of_grown HG9.out)⟩
            · go_simp
              try go_wp2_with fail
              refine hK.out _ _ (by go_keep) (fun hHeld => ?_)
              clear hK K
              try simp only [Act.put, List.getElem_toArray, List.getElem_cons_zero, List.getElem_cons_succ, List.setIfInBounds_toArray, List.set_cons_zero, List.set_cons_succ]
              clear hHeld
              have hb7 : Below w6.heap.size w6 (w6.alloc (.cells #[.slice p ws.length cap] 85)).drew := ((Below.refl _ w6).alloc (Nat.le_refl _) _).drew
              clear k3
              revert hb7
              generalize (w6.alloc (.cells #[.slice p ws.length cap] 85)).drew = w7
              intro hb7
              have HI7 : Hid (K1 w7 B b mb c cm n) := HI6.out.below hb7
              have HS7 : Hid (Spare w w7 [cm]) := (HS6.out.trans (Spare.of_below hb7)).mono (by simp)
              clear hcne hcl
              generalize w6.heap.size = pm
              have k3 := HI7.out.cc
              refine wpAnyH_ready (rs := [5]) (by kernel_rfl) (by simp) ?_
              refine AllReadyH.cons (o := _) rfl (fun K hK => ?_) AllReadyH.nil
              go_simp
              refine (clone_any sel _ hs1).mono ?_; rintro e w8 ⟨rfl, hb⟩; have HI8 : Hid (K1 w8 B b mb c cm n) := HI7.out.below hb; have HS8 : Hid (Spare w w8 [cm]) := (HS7.out.trans (Spare.of_below hb)).mono (by simp); clear k3 hb; have k3 := HI8.out.cc
              try go_wp2_with fail
              refine hK.out _ _ (by go_keep) (fun hHeld => ?_)
              clear hK K
              try simp only [Act.put, List.getElem_toArray, List.getElem_cons_zero, List.getElem_cons_succ, List.setIfInBounds_toArray, List.set_cons_zero, List.set_cons_succ]
              clear hHeld
              obtain ⟨w9, hrun, hm9, hg9⟩ := Kn.run_update (P := Tryd.prog) (HI8.out.mm) Tryd.underlying71 Tryd.underlying9 sel (.pointer (some ⟨pm, 0, none⟩))
              have hc9 : w9.heap[c]? = w8.heap[c]? := hg9.block c HI8.out.lt.2 (by intro e; injection e with e; exact HI8.out.apart.2.2.2.2.2 e)
              have k9 : w9.cell? ⟨c, 3, none⟩ = some (.map (some cm)) := (World.cell?_of_block (a := ⟨c, 3, none⟩) hc9).trans HI8.out.cc
              have HG9 : Hid (w8.grownBy w9 (some cm)) := hg9
              clear hg9 hm9 hc9
              refine wpAnyH_ready (rs := [9]) (by kernel_rfl) (by simp) ?_
              refine AllReadyH.cons (o := _) rfl (fun K hK => ?_) AllReadyH.nil
              go_simp
              skip
              try go_wp2_with fail
              refine hK.out _ _ (by go_keep) (fun hHeld => ?_)
              clear hK K
              try simp only [Act.put, List.getElem_toArray, List.getElem_cons_zero, List.getElem_cons_succ, List.setIfInBounds_toArray, List.set_cons_zero, List.set_cons_succ]
              refine wpAnyH_done (by kernel_rfl) ?_ _
              refine NoPanic.normal ?_
              go_wp2
              go_ret2
              exact ⟨0, 0, rfl, HM.out 0 (-1) 6 0 HFT.out (.inr ⟨rfl, rfl, rfl⟩), HS8.out.then (Spare.of_grown HG9.out)⟩
          · obtain ⟨x, hx⟩ : ∃ x, ws[j]? = some x := ⟨_, List.getElem?_eq_getElem hj⟩
            obtain ⟨rfl, hcs⟩ := HSR.out j x hx
            have hgs : gs < w3.heap.size := (HST.out.lt gs rfl).2
            have k6 := (hb6.cell (p := ⟨gs, j, none⟩) hgs).trans hcs
            have hji : (j : Int) < (ws.length : Int) := by omega
            have HX : Hid (ws[j]? = some x) := hx
            clear hx hcs
            go_wp2_with fail
            go_quiet (fail)
            go_wp2
            go_ret2
            exact ⟨6, x.2, rfl, HM.out 6 j 6 x.2 HFT.out (.inl ⟨j, x, rfl, HX.out, rfl, rfl⟩), HS6.out.drewN _⟩
      · rw [hw]
        clear hown
        go_wp2
        go_ret2
        exact ⟨5, j, rfl, .inr (.inr (.inl ⟨hsel, by rw [bl_length]; omega, by rw [hw]; omega, rfl, by rw [hw]⟩)), HS3.out⟩

end Go.Proofs.YtaaidlcjlplbpaaDoor.reads
