/- kin: a class is given a method by a selector that it had none by. -/
import Derived.Test.YtkghmgoefiepeaaDoorHom
namespace Go.Proofs.YtkghmgoefiepeaaDoor.reads
open Go.ChangeShapes Go.WideShapes Go.ChangeAt Go.RowKit Kn Go.Proofs.YtkghmgoefiepeaaDoor.img
set_option linter.unusedSimpArgs false
set_option linter.unusedVariables false

theorem lookup_mth (w : World) (cm : Nat) (l : List (ByteArray × Value)) (h : SMap w cm l) (s : ByteArray) : (Instr.lookup 62 (.map (some cm)) (.string s) false).run Tryd.prog w = .ok ((l.lookup s).getD (.pointer none)) w :=
  run_lookup h.str Tryd.underlying62 Tryd.underlying9 (Tryd.zeroValue42 w) s

set_option maxHeartbeats 1000000 in
set_option maxRecDepth 100000 in
theorem give_new (b c cm m sb g cap : Nat) (p : Option Addr) (ws : List (W × Nat)) (pl : Nat → Nat) (lm l0 : List (ByteArray × Value)) (ps0 : Nat → List Nat) (h : Int) (sel : ByteArray) (w : World) (R : World → Prop) (hn : ws.length ≤ 40) (hh : Go.RowKit.wrap64 (h + 1) ≤ 1)
    (hc : w.cell? ⟨c, 4, none⟩ = some (.map (some cm))) (hcc : Cel w c) (hlm : SMap w cm lm) (hno : lm.lookup sel = none) (hcs : cm ≠ sb) (hci : ∀ s, l0.lookup s ≠ some (.map (some cm)))
    (hb : w.cell? ⟨b, 5, none⟩ = some (.map (some sb))) (hbc : Cel w b) (hm : w.heap[m]? = some (.cells #[.slice p ws.length cap, .int .i64 h] 112)) (hbm : b ≠ m) (hcm : c ≠ m) (hgm : 1 ≤ ws.length → g ≠ m)
    (hw : MAt w p g ws pl ws.length) (hpl : ∀ i x, ws[i]? = some x → sendsW x.1 = true → Cel w (pl i)) (hs : SndAt w sb l0 ps0)
    (chg : ∀ (w2 : World) (l : List (ByteArray × Value)) (ps : Nat → List Nat), SMap w2 cm (put lm sel (.pointer (some ⟨m, 0, none⟩))) → SndAt w2 sb l ps →
      (∀ s ib, l.lookup s = some (.map (some ib)) → l0.lookup s = some (.map (some ib)) ∨ w.heap.size ≤ ib) →
      (∀ s q, Reg l ps s q ↔ Reg l0 ps0 s q ∨ ∃ i x, ws[i]? = some x ∧ sendsW x.1 = true ∧ ofL x.1.sel = s ∧ q = pl i) →
      w2.heap[m]? = some (.cells #[.slice p ws.length cap, .int .i64 (Go.RowKit.wrap64 (h + 1))] 112) → Chg w w2 (fun k => k = cm ∨ k = m ∨ k = sb ∨ ∃ s, l0.lookup s = some (.map (some k))) →
      Calls Tryd.prog 42 #[.pointer (some ⟨b, 0, none⟩), .pointer (some ⟨c, 0, none⟩), .string sel] w2 fun e w' => e = .returned (.tuple #[]) ∧ R w') :
    Calls Tryd.prog 22 #[.pointer (some ⟨b, 0, none⟩), .pointer (some ⟨c, 0, none⟩), .string sel, .pointer (some ⟨m, 0, none⟩)] w fun e w' => e = .returned (.tuple #[]) ∧ R w' := by
  have lk := lookup_mth w cm lm hlm sel
  rw [hno] at lk
  simp only [Option.getD_none] at lk
  obtain ⟨w1, hrun, hm1, hg1, hsz1⟩ := run_put (P := Tryd.prog) hlm Tryd.underlying62 Tryd.underlying9 sel (.pointer (some ⟨m, 0, none⟩))
  have keep : ∀ k, Cel w k → w1.heap[k]? = w.heap[k]? := fun k hk => hg1.block k hk.lt (fun e => by injection e with e; exact cel_ne_map hk hlm e)
  have hmc : Cel w m := ⟨_, _, hm⟩
  have hb1 : w1.cell? ⟨b, 5, none⟩ = some (.map (some sb)) := (World.cell?_of_block (a := ⟨b, 5, none⟩) (keep b hbc)).trans hb
  have hs1 : SndAt w1 sb l0 ps0 := hs.same (hg1.block sb hs.map.lt (fun e => by injection e with e; exact hcs e.symm)) (fun s ib hsib => by
    obtain ⟨jb, e1, e2, _⟩ := hs.inn s _ hsib
    injection e1 with e1; injection e1 with e1
    subst e1
    exact hg1.block ib e2.lt (fun e => by injection e with e; exact hci s (by rw [← e]; exact hsib))) (fun q hq => hq.same (keep q hq))
  have hw1 : MAt w1 p g ws pl ws.length := by
    by_cases h1 : 1 ≤ ws.length
    · exact hw.same (keep g (hw.cel h1))
    · have hno : ∀ (i : Nat) (x : W × Nat), ws[i]? ≠ some x := fun i x hx => by have := (List.getElem?_eq_some_iff.1 hx).1; omega
      exact ⟨fun h => absurd h h1, fun h => absurd h h1, fun i x hx => absurd hx (hno i x), fun i x hx => absurd hx (hno i x), fun i x hx => absurd hx (hno i x), fun i x hx => absurd hx (hno i x), fun i x hx => absurd hx (hno i x), fun i x hx => absurd hx (hno i x)⟩
  have hadd := addHome_first b m sb g cap p ws pl l0 ps0 h w1 hn hh hb1 (hbc.same (keep b hbc)) ((keep m hmc).trans hm) hbm hgm hw1 (fun i x hx hsx => (hpl i x hx hsx).same (keep _ (hpl i x hx hsx))) hs1
  have HX : Hid (SMap w1 cm (put lm sel (.pointer (some ⟨m, 0, none⟩))) ∧ w.grownBy w1 (some cm) ∧ SndAt w sb l0 ps0 ∧ Cel w m) := ⟨hm1, hg1, hs, hmc⟩
  have hmcm : m ≠ cm := cel_ne_map hmc hlm
  have HS : Hid (w1.heap.size = w.heap.size) := hsz1
  clear hm1 hg1 hlm hs hs1 hw1 hw hpl hb1 hb hm keep hmc hsz1
  go_enter Tryd.func22, Tryd.ntmps22
  go_wp2_with fail
  refine hadd.mono ?_
  rintro e w2 ⟨rfl, l, ps, hsn, hnew, hreg, hm2, hch⟩
  obtain ⟨hm1, hg1, hs, hmc⟩ := HX.out
  have hsz := HS.out
  have hcm2 : SMap w2 cm (put lm sel (.pointer (some ⟨m, 0, none⟩))) := hm1.same (hch.block cm hm1.lt (fun e => by
    rcases e with e | e | ⟨s, e⟩
    · exact hmcm e.symm
    · exact hcs e
    · exact hci s e))
  have hcall := chg w2 l ps hcm2 hsn (fun s ib hsib => by rcases hnew s ib hsib with h | h; exact .inl h; exact .inr (by omega)) hreg hm2 (((Chg.of_grown hg1).mono (fun k _ e => .inl e)).then hch (fun k _ e => .inr e))
  clear hm1 hg1 hs hmc hcm2 hnew hreg hm2 hch hsn
  go_wp2_with fail
  refine hcall.mono ?_
  rintro e w3 ⟨rfl, hR⟩
  go_wp2
  go_end0
  exact ⟨rfl, hR⟩

end Go.Proofs.YtkghmgoefiepeaaDoor.reads
