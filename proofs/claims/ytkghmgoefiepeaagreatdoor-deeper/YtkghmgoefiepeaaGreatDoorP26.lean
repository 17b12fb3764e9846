import Derived.Test.YtkghmgoefiepeaaGreatDoorP0
import Derived.Test.YtkghmgoefiepeaaGreatDoorP15
import Derived.Test.YtkghmgoefiepeaaGreatDoorP23
import Derived.Test.YtkghmgoefiepeaaGreatDoorP25
set_option linter.unusedSimpArgs false
set_option linter.unusedVariables false
set_option maxHeartbeats 4000000
set_option maxRecDepth 100000
namespace Go.Proofs.YtkghmgoefiepeaaGreatDoor.reads
open Go.ChangeShapes Go.WideShapes Go.ChangeAt Go.RowKit Kn Go.Proofs.YtkghmgoefiepeaaGreatDoor.img
variable {w : World}
theorem starts_at {B : Nat} {e : TypeId} {v : Value} {ws : List (W × Nat)} (h : w.ownsRow B e 1 v ws.length (startsOf ws)) : ∃ p g cap, v = .slice p ws.length cap ∧ ∀ j x, ws[j]? = some x → p = some ⟨g, 0, none⟩ ∧ w.cell? ⟨g, j, none⟩ = some (.int .i64 (x.2 : Nat)) := by
 have hc := fun g hg => h.cells (g := g) hg
 rcases h.2 with ⟨rfl, h0⟩ | ⟨g, cap, cur, rfl, hb, hg, hn, _⟩
 · refine ⟨none, 0, 0, by rw [h0], fun j x hx => ?_⟩
   have := (List.getElem?_eq_some_iff.1 hx).1
   omega
 · refine ⟨some ⟨g, 0, none⟩, g, cap, rfl, fun j x hx => ⟨rfl, ?_⟩⟩
   have := hc g rfl j (.int .i64 (x.2 : Nat)) (by simp [startsOf, hx])
   have hadd : (⟨g, 0, none⟩ : Addr).add j = ⟨g, j, none⟩ := by unfold Addr.add; split <;> simp_all
   rw [hadd] at this
   exact this
theorem numIs_fits {ws : List (W × Nat)} {args slots : Nat} {e i : Int} (h : NumIs ws args slots e i) : (∃ j, j < ws.length ∧ i = (j : Int) ∧ (e = 1 ∨ e = 7) ∧ FitsIs ws args slots e i) ∨ ((∀ j, j < ws.length → ¬ NumBad ws args slots j) ∧ e = 0 ∧ i = 0) := by
 rcases h with ⟨j, hj, rfl, hb, hn, h1, h7⟩ | h
 · left
   refine ⟨j, hj, rfl, ?_, .inl ⟨j, hj, rfl, hb, hn, h1, h7⟩⟩
   by_cases ha : argBad ws args j
   · exact .inl (h1 ha)
   · exact .inr (h7 ha)
 · exact .inr h
structure NewM (w w' : World) (m g cap : Nat) (p : Option Addr) (ws : List (W × Nat)) (pl : Nat → Nat) : Prop where
 below : Below w.heap.size w w'
 mm : w'.heap[m]? = some (.cells #[.slice p ws.length cap, .int .i64 0] 165)
 lo : w.heap.size ≤ m
 glo : 1 ≤ ws.length → w.heap.size ≤ g
 gm : 1 ≤ ws.length → g ≠ m
 at_ : MAt w' p g ws pl ws.length
 np : NewPl w w' ws pl ws.length
theorem meth_none (cn sel src : ByteArray) (b mb : Nat) (w : World) (c0 : w.cell? ⟨b, 0, none⟩ = some (.map (some mb))) (lk : (Instr.lookup 55 (.map (some mb)) (.string cn) false).run Tryz.prog w = .ok (.pointer none) w) :
 Calls Tryz.prog 17 #[.pointer (some ⟨b, 0, none⟩), .string cn, .string sel, .string src] w fun e w' => e = .returned (.tuple #[.int .i64 2, .int .i64 0]) ∧ w' = w := by
 go_enter Tryz.func17, Tryz.ntmps17
 go_wp2
 go_ret2
 exact ⟨rfl, rfl⟩
theorem meth_any (n : Nat) (cn sel src : ByteArray) (w : World) (b mb c : Nat) (R : World → Prop) (hn : n ≤ 10) (hs1 : sel.size ≤ 140737488355328) (hs2 : src.size ≤ 140737488355328)
 (c0 : w.cell? ⟨b, 0, none⟩ = some (.map (some mb))) (lk : (Instr.lookup 55 (.map (some mb)) (.string cn) false).run Tryz.prog w = .ok (.pointer (some ⟨c, 0, none⟩)) w) (hcs : w.cell? ⟨c, 3, none⟩ = some (.int .i64 (n : Nat)))
 (hg0 : 0 < w.heap.size) (hg1 : 2 < w.heap.size) (hg2 : 1 < w.heap.size) (hE : HasEff w) (hT1 : HasPlains w) (hT2 : HasHeads w)
 (give : ∀ (w' : World) (m g cap : Nat) (p : Option Addr) (ws : List (W × Nat)) (pl : Nat → Nat), (wordsAll (bl src)).1 = ws → MethodIs (bl sel) (bl src) n 0 0 → NewM w w' m g cap p ws pl →
  Calls Tryz.prog 44 #[.pointer (some ⟨b, 0, none⟩), .pointer (some ⟨c, 0, none⟩), .string sel, .pointer (some ⟨m, 0, none⟩)] w' fun e w'' => e = .returned (.tuple #[]) ∧ R w'') :
 Calls Tryz.prog 17 #[.pointer (some ⟨b, 0, none⟩), .string cn, .string sel, .string src] w fun e w' => ∃ r a : Int, e = .returned (.tuple #[.int .i64 r, .int .i64 a]) ∧ MethodIs (bl sel) (bl src) n r a ∧ ((r ≠ 0 ∧ Below w.heap.size w w') ∨ (r = 0 ∧ R w')) := by
 have HG : Hid (HasEff w ∧ HasPlains w ∧ HasHeads w) := ⟨hE, hT1, hT2⟩
 have hcl := World.block_lt_of_cell? w ⟨c, 3, none⟩ hcs
 clear hE hT1 hT2
 go_enter Tryz.func17, Tryz.ntmps17
 go_wp2_with fail
 refine (isSelector_any sel w hs1).mono ?_
 rintro e w1 ⟨rfl, hb1⟩
 clear c0 lk
 cases hsel : selector (bl sel)
 · go_wp2
   go_ret2
   exact ⟨1, 0, rfl, .inl ⟨hsel, rfl, rfl⟩, .inl ⟨by omega, hb1⟩⟩
 · by_cases hlong : 120 < src.size
   · go_wp2
     go_ret2
     exact ⟨5, 0, rfl, .inr (.inl ⟨hsel, by rw [bl_length]; exact hlong, rfl, rfl⟩), .inl ⟨by omega, hb1⟩⟩
   · go_wp2_with fail
     refine (clone_any src _ hs2).mono ?_
     rintro e w2 ⟨rfl, hb2⟩
     have hbW : Below w.heap.size w w2 := hb1.trans (hb2.mono hb1.size)
     go_wp2_with fail
     refine (readWords_any src w2 (by omega) (Nat.lt_of_lt_of_le hg1 hbW.size) (Nat.lt_of_lt_of_le hg2 hbW.size) ?_ ?_).mono ?_
     · exact HG.out.2.1.below hg1 hbW
     · exact HG.out.2.2.below hg2 hbW
     rintro e w3 ⟨vw, vs, rfl, hown, hb3⟩
     have hbW3 : Below w.heap.size w w3 := hbW.trans (hb3.mono hbW.size)
     have hge3 : 0 < w3.heap.size := Nat.lt_of_lt_of_le hg0 hbW3.size
     have HE3 : Hid (HasEff w3) := HG.out.1.below hg0 hbW3
     have hz2 : w.heap.size ≤ w2.heap.size := hbW.size
     clear hb2 hb3 hbW
     rcases words_bad (bl src) with hw | ⟨j, hj, hw⟩
     · rw [hw]
       have hown' := hown hw
       have hwl := words_le (bl src)
       have HFW : Hid (∀ (i : Nat) (x : W × Nat), (wordsAll (bl src)).1[i]? = some x → Fine0 x.1) := words_fine (bl src)
       have HSL : Hid (src.size ≤ 120) := (by omega : src.size ≤ 120)
       have HWB : Hid _ := hw
       obtain ⟨ws, hws⟩ : ∃ ws, (wordsAll (bl src)).1 = ws := ⟨_, rfl⟩
       have HWS : Hid _ := hws
       rw [hws] at hown' hwl HFW
       clear hws hw hown hlong
       obtain ⟨p, g, cap, rfl, hat, hgc⟩ := kAt_cel hown'.1
       have hst := hown'.2
       have HST : Hid (w3.ownsRow _ 3 1 vs ws.length (startsOf ws)) := hst
       have HK : Hid _ := hat
       have HGC : Hid (1 ≤ ws.length → Cel w3 g ∧ w.heap.size ≤ g) := by
        have hx1 : 1 ≤ ws.length → Cel w3 g ∧ w.heap.size ≤ g := fun h => ⟨(hgc h).1, Nat.le_trans hz2 (hgc h).2⟩
        exact hx1
       clear hgc
       obtain ⟨ps, gs, cs, rfl, hsr⟩ := starts_at hst
       have HSR : Hid _ := hsr
       clear hsr
       clear hst hat hown'
       obtain ⟨q3, q8, q48, qa⟩ := sel_parts hsel
       obtain ⟨ar, har⟩ : ∃ ar, argsOf (bl sel) = ar := ⟨_, rfl⟩
       have HAR : Hid _ := har
       rw [har] at qa
       have HB3 : Hid _ := hbW3
       have k2 := (hbW3.cell (p := ⟨c, 3, none⟩) hcl).trans hcs
       have hcl3 : c < w3.heap.size := Nat.lt_of_lt_of_le hcl hbW3.size
       have HK2 : Hid _ := k2
       clear hcs hbW3
       go_wp2_with fail
       refine wp_region_noPanic ?_
       refine wp_region_held_drew (S := (fun w' => w'.cell? ⟨c, 3, none⟩ = some (.int .i64 (n : Nat)))) (by kernel_rfl) (by go_keep) (fun hHeld => ?_)
       refine tkH 0 ?_
       refine tkH 1 ?_
       refine tkH 3 ?_
       refine tkH 4 ?_
       refine tkH 5 ?_
       refine tkL 6 ?_
       refine rdH 2 fun Kmac hKmac => ?_
       go_simp
       refine (argumentsOf_any sel _ hsel).mono ?_; rintro e w4 ⟨rfl, hb⟩; rw [har]; have hb4 : Below w3.heap.size w3 w4 := undrew hb; clear k2 hb; have k2 := (hb4.cell (p := ⟨c, 3, none⟩) hcl3).trans HK2.out
       try go_wp2_with fail
       refine hKmac.go fun hHeld => ?_
       clear hKmac Kmac
       try refine lyH ?_
       refine rdH 7 fun Kmac hKmac => ?_
       go_simp
       refine (checkNumbers_any ws p g cap ar n w4 hwl qa hn (HK.out.below (Nat.le_refl _) hb4) HFW.out (Nat.lt_of_lt_of_le hge3 hb4.size) (HE3.out.below hge3 hb4)).mono ?_; rintro e w5 ⟨er, i, rfl, hnum, hb⟩; have hb5 : Below w3.heap.size w3 w5 := hb4.trans (hb.mono hb4.size); clear k2 hb; have k2 := (hb5.cell (p := ⟨c, 3, none⟩) hcl3).trans HK2.out
       try go_wp2_with fail
       refine hKmac.go fun hHeld => ?_
       clear hKmac Kmac
       try refine lyH ?_
       refine tkH 8 ?_
       refine tkH 9 ?_
       refine tkH 10 ?_
       refine tkH 11 ?_
       refine tkL 12 ?_
       refine wpAnyH_done (by kernel_rfl) ?_ _
       refine NoPanic.normal ?_
       clear hHeld
       clear hHeld
       clear hHeld
       have HB5 : Hid (Below w.heap.size w w5) := HB3.out.trans (hb5.mono HB3.out.size)
       have HM : Hid (∀ e' i' er' a', FitsIs ws ar n er' i' → ((∃ j x, i' = ((j : Nat) : Int) ∧ ws[j]? = some x ∧ e' = er' ∧ a' = ((x.2 : Nat) : Int)) ∨ (i' = -1 ∧ e' = 0 ∧ a' = 0)) → MethodIs (bl sel) (bl src) n e' a') := by
        have hx1 : ∀ e' i' er' a', FitsIs ws ar n er' i' → ((∃ j x, i' = ((j : Nat) : Int) ∧ ws[j]? = some x ∧ e' = er' ∧ a' = ((x.2 : Nat) : Int)) ∨ (i' = -1 ∧ e' = 0 ∧ a' = 0)) → MethodIs (bl sel) (bl src) n e' a' := fun e' i' er' a' hf hh =>
         .inr (.inr (.inr ⟨hsel, by rw [bl_length]; exact HSL.out, HWB.out, er', i', by rw [HWS.out, HAR.out]; exact hf, by rw [HWS.out]; exact hh⟩))
        exact hx1
       rcases numIs_fits hnum with ⟨j, hj, rfl, he17, hfit⟩ | ⟨hno, rfl, rfl⟩
       · obtain ⟨x, hx⟩ : ∃ x, ws[j]? = some x := ⟨_, List.getElem?_eq_getElem hj⟩
         obtain ⟨rfl, hcs⟩ := HSR.out j x hx
         have hgs : gs < w3.heap.size := (HST.out.lt gs rfl).2
         have k5 := (hb5.cell (p := ⟨gs, j, none⟩) hgs).trans hcs
         have te : (er == 0) = false := beq_eq_false_iff_ne.2 (by omega)
         have tn : (er != 0) = true := by simp; omega
         have hji : (j : Int) < (ws.length : Int) := by omega
         have HFT : Hid (FitsIs ws ar n er (j : Int)) := hfit
         have HX : Hid _ := hx
         clear hnum hfit hx hcs
         go_wp2_with fail
         go_quiet (fail)
         go_wp2
         go_ret2
         exact ⟨er, x.2, rfl, HM.out er j er x.2 HFT.out (.inl ⟨j, x, rfl, HX.out, rfl, rfl⟩), .inl ⟨by omega, HB5.out.drewN' _⟩⟩
       · have HNo : Hid (∀ j, j < ws.length → ¬ NumBad ws ar n j) := hno
         clear hnum hno
         go_wp2_with fail
         refine (checkStack_any ws p g cap w5 hwl (HK.out.below (Nat.le_refl _) hb5) (fine_of HFW.out HNo.out) (Nat.lt_of_lt_of_le hge3 hb5.size) (HE3.out.below hge3 hb5)).mono ?_
         rintro e w6 ⟨r, rfl, hfirst, hb⟩
         have hb6 : Below w3.heap.size w3 w6 := hb5.trans (hb.mono hb5.size)
         have HB6 : Hid (Below w.heap.size w w6) := HB3.out.trans (hb6.mono HB3.out.size)
         have HFT : Hid (FitsIs ws ar n 6 r) := .inr ⟨HNo.out, rfl, hfirst⟩
         clear hb hfirst k2
         rcases fits_num HFT.out with rfl | ⟨j, hj, rfl⟩
         · go_wp2_with fail
           refine (clone_any sel _ hs1).mono ?_
           rintro e w7 ⟨rfl, hb7⟩
           have hb37 : Below w3.heap.size w3 w7 := hb6.trans (hb7.mono hb6.size)
           have HB7 : Hid (Below w.heap.size w w7) := HB3.out.trans (hb37.mono HB3.out.size)
           have HK7 : Hid (KAt w7 p g ws) := HK.out.below (Nat.le_refl _) hb37
           have HC7 : Hid (1 ≤ ws.length → Cel w7 g ∧ w.heap.size ≤ g) := by
            have hx1 : 1 ≤ ws.length → Cel w7 g ∧ w.heap.size ≤ g := fun h => ⟨(HGC.out h).1.same (hb37.block g (HGC.out h).1.lt), (HGC.out h).2⟩
            exact hx1
           have HE7 : Hid (HasEff w7) := HE3.out.below hge3 hb37
           have hge7 : 0 < w7.heap.size := Nat.lt_of_lt_of_le hge3 hb37.size
           clear hb7 hb37 hb6 hb5 hb4
           go_wp2_with fail
           refine (newMethod_any ws p g cap w7 hwl HK7.out (fun h => (HC7.out h).1) HFW.out hge7 (fun h e => by have := (HC7.out h).2; omega) HE7.out).mono ?_
           rintro e w8 ⟨m, pl, rfl, hm8, hml8, hat8, hnp8, hch8⟩
           have hz7 := HB7.out.size
           have HN : Hid (NewM w w8 m g cap p ws pl) := by
            have hx1 : NewM w w8 m g cap p ws pl := ⟨HB7.out.trans (hch8.below hz7 (fun k _ h => by rw [h.1]; exact (HC7.out h.2).2)), hm8, Nat.le_trans hz7 hml8, fun h => (HC7.out h).2, fun h e => by have := (HC7.out h).1.lt; omega, hat8, ⟨fun i x hi hx hs => ⟨(hnp8.mem i x hi hx hs).1, Nat.le_trans hz7 (hnp8.mem i x hi hx hs).2⟩, hnp8.inj⟩⟩
            exact hx1
           have HZ : Hid (MethodIs (bl sel) (bl src) n 0 0) := HM.out 0 (-1) 6 0 HFT.out (.inr ⟨rfl, rfl, rfl⟩)
           clear hm8 hml8 hat8 hnp8 hch8
           go_wp2_with fail
           refine (give w8 m g cap p ws pl HWS.out HZ.out HN.out).mono ?_
           rintro e w9 ⟨rfl, hR⟩
           go_wp2
           go_ret2
           exact ⟨0, 0, rfl, HZ.out, .inr ⟨rfl, hR⟩⟩
         · obtain ⟨x, hx⟩ : ∃ x, ws[j]? = some x := ⟨_, List.getElem?_eq_getElem hj⟩
           obtain ⟨rfl, hcs⟩ := HSR.out j x hx
           have hgs : gs < w3.heap.size := (HST.out.lt gs rfl).2
           have k6 := (hb6.cell (p := ⟨gs, j, none⟩) hgs).trans hcs
           have hji : (j : Int) < (ws.length : Int) := by omega
           have HX : Hid _ := hx
           clear hx hcs
           go_wp2_with fail
           go_quiet (fail)
           go_wp2
           go_ret2
           exact ⟨6, x.2, rfl, HM.out 6 j 6 x.2 HFT.out (.inl ⟨j, x, rfl, HX.out, rfl, rfl⟩), .inl ⟨by omega, HB6.out.drewN' _⟩⟩
     · rw [hw]
       clear hown
       go_wp2
       go_ret2
       exact ⟨5, j, rfl, .inr (.inr (.inl ⟨hsel, by rw [bl_length]; omega, by rw [hw]; omega, rfl, by rw [hw]⟩)), .inl ⟨by omega, hbW3⟩⟩
end Go.Proofs.YtkghmgoefiepeaaGreatDoor.reads
