/- What the laid tables hold, cell by cell. -/
import Derived.Test.YtkghmgoefiepeaaDoorKinV
import Derived.Test.YtkghmgoefiepeaaDoorRows
import Derived.ProofKit
import Derived.LaidMore
import Derived.OpenShut
import Derived.Stop.Joined
namespace Go.Proofs.YtkghmgoefiepeaaDoor.reads
open Go.ChangeShapes Go.WideShapes Go.ChangeAt Go.RowKit Kn
set_option linter.unusedSimpArgs false
set_option linter.unusedVariables false

def litV : DataW Unit → Value
  | .lit (.int k n) => .int k n
  | .lit (.string l) => .string ⟨l.toArray⟩
  | .lit (.bool b) => .bool b
  | _ => .pointer none

variable {P : Program} {w : World} {base : Nat} {spare : Nat → Bool} {held : Bool} {fuel : Nat} {t : TypeId} {cs : List Value} {enc : TypeId × Value → Unit} {x : DataW Unit × List MemPlace}
theorem lit_string (ht : P.underlying t = some .string) (h : DataW.trod enc P w base spare held fuel t cs = some x) : cs = [litV x.1] := by
  obtain ⟨s, rfl, rfl, _⟩ := DataW.trod_string ht h
  simp [litV]
theorem lit_int {k : IntKind} (ht : P.underlying t = some (.int k)) (h : DataW.trod enc P w base spare held fuel t cs = some x) : cs = [litV x.1] := by
  obtain ⟨n, rfl, rfl, _⟩ := DataW.trod_int ht h
  rfl
theorem lit_bool (ht : P.underlying t = some .bool) (h : DataW.trod enc P w base spare held fuel t cs = some x) : cs = [litV x.1] := by
  obtain ⟨b, rfl, rfl⟩ := DataW.trod_bool ht h
  rfl

theorem cells_string : Tryd.prog.cellsOf 9 = 1 := by kernel_rfl
theorem cells_int : Tryd.prog.cellsOf 3 = 1 := by kernel_rfl
theorem cells_bool : Tryd.prog.cellsOf 4 = 1 := by kernel_rfl
theorem cells_kind : Tryd.prog.cellsOf 89 = 1 := by kernel_rfl
theorem cells_spelling : Tryd.prog.cellsOf 143 = 2 := by kernel_rfl
theorem cells_effect : Tryd.prog.cellsOf 96 = 5 := by kernel_rfl

set_option maxRecDepth 100000 in
theorem spell_row {l : List Value} {y : DataW Unit × List MemPlace} (h : DataW.trod enc Tryd.prog w base spare held fuel 143 l = some y) : ∃ d0 d1, y.1 = .agg [d0, d1] ∧ l = [litV d0, litV d1] := by
  obtain ⟨xs, m, rfl, rfl, hlen, hn, hel⟩ := DataW.trod_struct Tryd.underlying143 h
  rw [cells_spelling] at hlen
  match l, hlen with
  | [c0, c1], _ =>
    match xs, hn with
    | [x0, x1], _ =>
      have h0 : DataW.trod enc Tryd.prog w base spare held m 9 (([c0, c1].drop 0).take (Tryd.prog.cellsOf 9)) = some x0 := hel 0 _ rfl
      have h1 : DataW.trod enc Tryd.prog w base spare held m 89 (([c0, c1].drop 1).take (Tryd.prog.cellsOf 89)) = some x1 := hel 1 _ rfl
      rw [cells_string] at h0
      rw [cells_kind] at h1
      have e0 := lit_string Tryd.underlying9 h0
      have e1 := lit_int Tryd.underlying89 h1
      simp at e0 e1
      exact ⟨x0.1, x1.1, rfl, by rw [e0, e1]⟩

set_option maxRecDepth 100000 in
theorem effect_row {l : List Value} {y : DataW Unit × List MemPlace} (h : DataW.trod enc Tryd.prog w base spare held fuel 96 l = some y) : ∃ d0 d1 d2 d3 d4, y.1 = .agg [d0, d1, d2, d3, d4] ∧ l = [litV d0, litV d1, litV d2, litV d3, litV d4] := by
  obtain ⟨xs, m, rfl, rfl, hlen, hn, hel⟩ := DataW.trod_struct Tryd.underlying96 h
  rw [cells_effect] at hlen
  match l, hlen with
  | [c0, c1, c2, c3, c4], _ =>
    match xs, hn with
    | [x0, x1, x2, x3, x4], _ =>
      have h0 : DataW.trod enc Tryd.prog w base spare held m 3 (([c0, c1, c2, c3, c4].drop 0).take (Tryd.prog.cellsOf 3)) = some x0 := hel 0 _ rfl
      have h1 : DataW.trod enc Tryd.prog w base spare held m 3 (([c0, c1, c2, c3, c4].drop 1).take (Tryd.prog.cellsOf 3)) = some x1 := hel 1 _ rfl
      have h2 : DataW.trod enc Tryd.prog w base spare held m 4 (([c0, c1, c2, c3, c4].drop 2).take (Tryd.prog.cellsOf 4)) = some x2 := hel 2 _ rfl
      have h3 : DataW.trod enc Tryd.prog w base spare held m 4 (([c0, c1, c2, c3, c4].drop 3).take (Tryd.prog.cellsOf 4)) = some x3 := hel 3 _ rfl
      have h4 : DataW.trod enc Tryd.prog w base spare held m 4 (([c0, c1, c2, c3, c4].drop 4).take (Tryd.prog.cellsOf 4)) = some x4 := hel 4 _ rfl
      rw [cells_int] at h0 h1
      rw [cells_bool] at h2 h3 h4
      have e0 := lit_int Tryd.underlying3 h0
      have e1 := lit_int Tryd.underlying3 h1
      have e2 := lit_bool Tryd.underlying4 h2
      have e3 := lit_bool Tryd.underlying4 h3
      have e4 := lit_bool Tryd.underlying4 h4
      simp at e0 e1 e2 e3 e4
      exact ⟨x0.1, x1.1, x2.1, x3.1, x4.1, rfl, by rw [e0, e1, e2, e3, e4]⟩

theorem at_piece {cs l : List Value} {o k j : Nat} (h : (cs.drop o).take k = l) (hj : j < k) : cs[o + j]? = l[j]? := by
  rw [← h, List.getElem?_take_of_lt hj, List.getElem?_drop]

theorem spell_cells {n : Nat} {T : TypeId} {ds : List (DataW Unit)} {q : List MemPlace} (ht : Tryd.prog.underlying T = some (.array n 143)) (h : DataW.trod enc Tryd.prog w base spare held fuel T cs = some (.agg ds, q)) (hn : ds.length = n) :
    ∀ i d0 d1, ds[i]? = some (.agg [d0, d1]) → cs[i * 2]? = some (litV d0) ∧ cs[i * 2 + 1]? = some (litV d1) := by
  obtain ⟨xs, m, rfl, hx, hlen, hxn, hel⟩ := DataW.trod_array ht h
  intro i d0 d1 hi
  simp only [Prod.mk.injEq, DataW.agg.injEq] at hx
  rw [hx.1, List.getElem?_map] at hi
  have hlt : i < n := by
    cases hxi : xs[i]? with
    | none => rw [hxi] at hi; cases hi
    | some y => have := (List.getElem?_eq_some_iff.1 hxi).1; omega
  have hr := hel i hlt
  cases hxi : xs[i]? with
  | none => rw [hxi] at hi; cases hi
  | some y =>
    rw [hxi] at hi hr
    simp at hi
    rw [cells_spelling] at hr
    obtain ⟨e0, e1, hy, hl⟩ := spell_row hr
    rw [hi] at hy
    injection hy with hy
    injection hy with a1 hy
    injection hy with a2 _
    subst a1 a2
    have p0 := at_piece hl (j := 0) (by omega)
    have p1 := at_piece hl (j := 1) (by omega)
    exact ⟨by simpa using p0, by simpa using p1⟩

theorem effect_cells {n : Nat} {T : TypeId} {ds : List (DataW Unit)} {q : List MemPlace} (ht : Tryd.prog.underlying T = some (.array n 96)) (h : DataW.trod enc Tryd.prog w base spare held fuel T cs = some (.agg ds, q)) (hn : ds.length = n) :
    ∀ i d0 d1 d2 d3 d4, ds[i]? = some (.agg [d0, d1, d2, d3, d4]) → cs[i * 5]? = some (litV d0) ∧ cs[i * 5 + 1]? = some (litV d1) ∧ cs[i * 5 + 2]? = some (litV d2) ∧ cs[i * 5 + 3]? = some (litV d3) ∧ cs[i * 5 + 4]? = some (litV d4) := by
  obtain ⟨xs, m, rfl, hx, hlen, hxn, hel⟩ := DataW.trod_array ht h
  intro i d0 d1 d2 d3 d4 hi
  simp only [Prod.mk.injEq, DataW.agg.injEq] at hx
  rw [hx.1, List.getElem?_map] at hi
  have hlt : i < n := by
    cases hxi : xs[i]? with
    | none => rw [hxi] at hi; cases hi
    | some y => have := (List.getElem?_eq_some_iff.1 hxi).1; omega
  have hr := hel i hlt
  cases hxi : xs[i]? with
  | none => rw [hxi] at hi; cases hi
  | some y =>
    rw [hxi] at hi hr
    simp at hi
    rw [cells_effect] at hr
    obtain ⟨e0, e1, e2, e3, e4, hy, hl⟩ := effect_row hr
    rw [hi] at hy
    injection hy with hy
    injection hy with a0 hy
    injection hy with a1 hy
    injection hy with a2 hy
    injection hy with a3 hy
    injection hy with a4 _
    subst a0 a1 a2 a3 a4
    have p0 := at_piece hl (j := 0) (by omega)
    have p1 := at_piece hl (j := 1) (by omega)
    have p2 := at_piece hl (j := 2) (by omega)
    have p3 := at_piece hl (j := 3) (by omega)
    have p4 := at_piece hl (j := 4) (by omega)
    exact ⟨by simpa using p0, by simpa using p1, by simpa using p2, by simpa using p3, by simpa using p4⟩

theorem gPlains : Tryd.prog.globalNamed "kin/kin.plainWords" = some 2 := by kernel_rfl
theorem gHeads : Tryd.prog.globalNamed "kin/kin.classHeads" = some 1 := by kernel_rfl
theorem gEffects : Tryd.prog.globalNamed "kin/kin.effects" = some 0 := by kernel_rfl
theorem tPlains : (Tryd.prog.globals[2]?).map (·.type) = some 145 := by kernel_rfl
theorem tHeads : (Tryd.prog.globals[1]?).map (·.type) = some 144 := by kernel_rfl
theorem tEffects : (Tryd.prog.globals[0]?).map (·.type) = some 97 := by kernel_rfl

def effData (x : Nat × Nat × Bool × Bool × Bool) : DataW Unit := .agg [.lit (.int .i64 (x.1 : Nat)), .lit (.int .i64 (x.2.1 : Nat)), .lit (.bool x.2.2.1), .lit (.bool x.2.2.2.1), .lit (.bool x.2.2.2.2)]
theorem laid_effects : (Rows.laid_kin_kin_effects : DataW Unit) = .agg (effTab.map effData) := rfl

theorem cell_lt {W : World} {g o : Nat} {v : Value} (h : W.cell? ⟨g, o, none⟩ = some v) : g < W.heap.size := by
  apply Classical.byContradiction
  intro hn
  have : W.heap[g]? = none := Array.getElem?_eq_none_iff.2 (by omega)
  simp [World.cell?, this] at h

theorem of_laid {W : World} (h : laidMetH Tryd.prog Rows.readsRow.laid W) : (0 < W.heap.size ∧ 2 < W.heap.size ∧ 1 < W.heap.size) ∧ HasEff W ∧ HasPlains W ∧ HasHeads W := by
  rw [MakeChecks.laidMetH_plain _ _ _ (by kernel_rfl)] at h
  obtain ⟨ps, ⟨g0, t0, cs0, f0, p0, q0, hg0, ht0, hv0, hd0, ⟨g1, t1, cs1, f1, p1, q1, hg1, ht1, hv1, hd1, ⟨g2, t2, cs2, f2, p2, q2, hg2, ht2, hv2, hd2, _, _⟩, _⟩, _⟩, _, _⟩ := h
  obtain rfl := Option.some.inj (gPlains.symm.trans hg0)
  obtain rfl := Option.some.inj (gHeads.symm.trans hg1)
  obtain rfl := Option.some.inj (gEffects.symm.trans hg2)
  obtain rfl := Option.some.inj (tPlains.symm.trans ht0)
  obtain rfl := Option.some.inj (tHeads.symm.trans ht1)
  obtain rfl := Option.some.inj (tEffects.symm.trans ht2)
  have P0 := spell_cells Tryd.underlying145 hd0 rfl
  have P1 := spell_cells Tryd.underlying144 hd1 rfl
  have P2 := effect_cells Tryd.underlying97 (by rw [laid_effects] at hd2; exact hd2) (by simp [effTab])
  have C0 : HasPlains W := by
    intro i v hv
    rw [World.var?_cell hg0 hv0 i, ← Array.getElem?_toList]
    exact (match i, hv with
      | 0, hv => by simp [PlainsCells] at hv; subst hv; simpa [litV] using (P0 0 _ _ rfl).1
      | 1, hv => by simp [PlainsCells] at hv; subst hv; simpa [litV] using (P0 0 _ _ rfl).2
      | 2, hv => by simp [PlainsCells] at hv; subst hv; simpa [litV] using (P0 1 _ _ rfl).1
      | 3, hv => by simp [PlainsCells] at hv; subst hv; simpa [litV] using (P0 1 _ _ rfl).2
      | 4, hv => by simp [PlainsCells] at hv; subst hv; simpa [litV] using (P0 2 _ _ rfl).1
      | 5, hv => by simp [PlainsCells] at hv; subst hv; simpa [litV] using (P0 2 _ _ rfl).2
      | 6, hv => by simp [PlainsCells] at hv; subst hv; simpa [litV] using (P0 3 _ _ rfl).1
      | 7, hv => by simp [PlainsCells] at hv; subst hv; simpa [litV] using (P0 3 _ _ rfl).2
      | 8, hv => by simp [PlainsCells] at hv; subst hv; simpa [litV] using (P0 4 _ _ rfl).1
      | 9, hv => by simp [PlainsCells] at hv; subst hv; simpa [litV] using (P0 4 _ _ rfl).2
      | 10, hv => by simp [PlainsCells] at hv; subst hv; simpa [litV] using (P0 5 _ _ rfl).1
      | 11, hv => by simp [PlainsCells] at hv; subst hv; simpa [litV] using (P0 5 _ _ rfl).2
      | 12, hv => by simp [PlainsCells] at hv; subst hv; simpa [litV] using (P0 6 _ _ rfl).1
      | 13, hv => by simp [PlainsCells] at hv; subst hv; simpa [litV] using (P0 6 _ _ rfl).2
      | 14, hv => by simp [PlainsCells] at hv; subst hv; simpa [litV] using (P0 7 _ _ rfl).1
      | 15, hv => by simp [PlainsCells] at hv; subst hv; simpa [litV] using (P0 7 _ _ rfl).2
      | 16, hv => by simp [PlainsCells] at hv; subst hv; simpa [litV] using (P0 8 _ _ rfl).1
      | 17, hv => by simp [PlainsCells] at hv; subst hv; simpa [litV] using (P0 8 _ _ rfl).2
      | i + 18, hv => by simp [PlainsCells] at hv)
  have C1 : HasHeads W := by
    intro i v hv
    rw [World.var?_cell hg1 hv1 i, ← Array.getElem?_toList]
    exact (match i, hv with
      | 0, hv => by simp [HeadsCells] at hv; subst hv; simpa [litV] using (P1 0 _ _ rfl).1
      | 1, hv => by simp [HeadsCells] at hv; subst hv; simpa [litV] using (P1 0 _ _ rfl).2
      | 2, hv => by simp [HeadsCells] at hv; subst hv; simpa [litV] using (P1 1 _ _ rfl).1
      | 3, hv => by simp [HeadsCells] at hv; subst hv; simpa [litV] using (P1 1 _ _ rfl).2
      | 4, hv => by simp [HeadsCells] at hv; subst hv; simpa [litV] using (P1 2 _ _ rfl).1
      | 5, hv => by simp [HeadsCells] at hv; subst hv; simpa [litV] using (P1 2 _ _ rfl).2
      | 6, hv => by simp [HeadsCells] at hv; subst hv; simpa [litV] using (P1 3 _ _ rfl).1
      | 7, hv => by simp [HeadsCells] at hv; subst hv; simpa [litV] using (P1 3 _ _ rfl).2
      | 8, hv => by simp [HeadsCells] at hv; subst hv; simpa [litV] using (P1 4 _ _ rfl).1
      | 9, hv => by simp [HeadsCells] at hv; subst hv; simpa [litV] using (P1 4 _ _ rfl).2
      | i + 10, hv => by simp [HeadsCells] at hv)
  have C2 : HasEff W := by
    intro k t l sd jp st hk
    have hr : (effTab.map effData)[k]? = some (effData (t, l, sd, jp, st)) := by rw [List.getElem?_map, hk]; rfl
    obtain ⟨r0, r1, r2, r3, r4⟩ := P2 k _ _ _ _ _ hr
    refine ⟨?_, ?_, ?_, ?_, ?_⟩
    all_goals (rw [World.var?_cell hg2 hv2, ← Array.getElem?_toList]; first | exact r0 | exact r1 | exact r2 | exact r3 | exact r4)
  exact ⟨⟨cell_lt (C2 0 0 0 false false false rfl).c0, cell_lt (C0 0 _ rfl), cell_lt (C1 0 _ rfl)⟩, C2, C0, C1⟩

end Go.Proofs.YtkghmgoefiepeaaDoor.reads
