import Derived.Test.YtkghmgoefiepeaaGreatDoorRows
import Derived.ProofKit
import Derived.LaidMore
import Derived.OpenShut
import Derived.Stop.Joined
import Derived.Test.YtkghmgoefiepeaaGreatDoorCards
import Derived.Test.YtkghmgoefiepeaaGreatDoorTie
import Derived.SizedLaws
import Derived.SevenTiedAt
import Derived.Test.YtkghmgoefiepeaaGreatDoorP0
import Derived.Test.YtkghmgoefiepeaaGreatDoorP20
import Derived.Test.YtkghmgoefiepeaaGreatDoorP27
import Derived.Test.YtkghmgoefiepeaaGreatDoorP28
import Derived.Test.YtkghmgoefiepeaaGreatDoorP29
import Derived.Test.YtkghmgoefiepeaaGreatDoorP30
import Derived.Test.YtkghmgoefiepeaaGreatDoorP41
import Derived.Test.YtkghmgoefiepeaaGreatDoorP50
set_option linter.unusedSimpArgs false
set_option linter.unusedVariables false
set_option maxHeartbeats 4000000
set_option maxRecDepth 100000
namespace Go.Proofs.YtkghmgoefiepeaaGreatDoor.reads
open Go.ChangeShapes Go.WideShapes Go.ChangeAt Go.RowKit Kn
def litV : DataW Unit → Value
 | .lit (.int k n) => .int k n
 | .lit (.string l) => .string ⟨l.toArray⟩
 | .lit (.bool b) => .bool b
 | _ => .pointer none
variable {P : Program} {w : World} {base : Nat} {spare : Nat → Bool} {held : Bool} {fuel : Nat} {t : TypeId} {cs : List Value} {enc : TypeId × Value → Unit} {x : DataW Unit × List MemPlace}
theorem lit_string (ht : P.underlying t = some .string) (h : DataW.trod enc P w base spare held fuel t cs = some x) : cs = [litV x.1] := by
 obtain ⟨s, rfl, rfl, _⟩ := DataW.trod_string ht h
 simp [litV]
theorem lit_int {k : IntKind} (ht : P.underlying t = some (.int k)) (h : DataW.trod enc P w base spare held fuel t cs = some x) : cs = [litV x.1] := by
 obtain ⟨n, rfl, rfl, _⟩ := DataW.trod_int ht h
 rfl
theorem lit_bool (ht : P.underlying t = some .bool) (h : DataW.trod enc P w base spare held fuel t cs = some x) : cs = [litV x.1] := by
 obtain ⟨b, rfl, rfl⟩ := DataW.trod_bool ht h
 rfl
theorem cells_string : Tryz.prog.cellsOf 9 = 1 := by kernel_rfl
theorem cells_int : Tryz.prog.cellsOf 3 = 1 := by kernel_rfl
theorem cells_bool : Tryz.prog.cellsOf 4 = 1 := by kernel_rfl
theorem cells_kind : Tryz.prog.cellsOf 143 = 1 := by kernel_rfl
theorem cells_spelling : Tryz.prog.cellsOf 220 = 2 := by kernel_rfl
theorem cells_effect : Tryz.prog.cellsOf 150 = 5 := by kernel_rfl
theorem spell_row {l : List Value} {y : DataW Unit × List MemPlace} (h : DataW.trod enc Tryz.prog w base spare held fuel 220 l = some y) : ∃ d0 d1, y.1 = .agg [d0, d1] ∧ l = [litV d0, litV d1] := by
 obtain ⟨xs, m, rfl, rfl, hlen, hn, hel⟩ := DataW.trod_struct Tryz.underlying220 h
 rw [cells_spelling] at hlen
 match l, hlen with
 | [c0, c1], _ =>
  match xs, hn with
  | [x0, x1], _ =>
   have h0 : DataW.trod enc Tryz.prog w base spare held m 9 (([c0, c1].drop 0).take (Tryz.prog.cellsOf 9)) = some x0 := hel 0 _ rfl
   have h1 : DataW.trod enc Tryz.prog w base spare held m 143 (([c0, c1].drop 1).take (Tryz.prog.cellsOf 143)) = some x1 := hel 1 _ rfl
   rw [cells_string] at h0
   rw [cells_kind] at h1
   have e0 := lit_string Tryz.underlying9 h0
   have e1 := lit_int Tryz.underlying143 h1
   simp at e0 e1
   exact ⟨x0.1, x1.1, rfl, by rw [e0, e1]⟩
theorem effect_row {l : List Value} {y : DataW Unit × List MemPlace} (h : DataW.trod enc Tryz.prog w base spare held fuel 150 l = some y) : ∃ d0 d1 d2 d3 d4, y.1 = .agg [d0, d1, d2, d3, d4] ∧ l = [litV d0, litV d1, litV d2, litV d3, litV d4] := by
 obtain ⟨xs, m, rfl, rfl, hlen, hn, hel⟩ := DataW.trod_struct Tryz.underlying150 h
 rw [cells_effect] at hlen
 match l, hlen with
 | [c0, c1, c2, c3, c4], _ =>
  match xs, hn with
  | [x0, x1, x2, x3, x4], _ =>
   have h0 : DataW.trod enc Tryz.prog w base spare held m 3 (([c0, c1, c2, c3, c4].drop 0).take (Tryz.prog.cellsOf 3)) = some x0 := hel 0 _ rfl
   have h1 : DataW.trod enc Tryz.prog w base spare held m 3 (([c0, c1, c2, c3, c4].drop 1).take (Tryz.prog.cellsOf 3)) = some x1 := hel 1 _ rfl
   have h2 : DataW.trod enc Tryz.prog w base spare held m 4 (([c0, c1, c2, c3, c4].drop 2).take (Tryz.prog.cellsOf 4)) = some x2 := hel 2 _ rfl
   have h3 : DataW.trod enc Tryz.prog w base spare held m 4 (([c0, c1, c2, c3, c4].drop 3).take (Tryz.prog.cellsOf 4)) = some x3 := hel 3 _ rfl
   have h4 : DataW.trod enc Tryz.prog w base spare held m 4 (([c0, c1, c2, c3, c4].drop 4).take (Tryz.prog.cellsOf 4)) = some x4 := hel 4 _ rfl
   rw [cells_int] at h0 h1
   rw [cells_bool] at h2 h3 h4
   have e0 := lit_int Tryz.underlying3 h0
   have e1 := lit_int Tryz.underlying3 h1
   have e2 := lit_bool Tryz.underlying4 h2
   have e3 := lit_bool Tryz.underlying4 h3
   have e4 := lit_bool Tryz.underlying4 h4
   simp at e0 e1 e2 e3 e4
   exact ⟨x0.1, x1.1, x2.1, x3.1, x4.1, rfl, by rw [e0, e1, e2, e3, e4]⟩
theorem at_piece {cs l : List Value} {o k j : Nat} (h : (cs.drop o).take k = l) (hj : j < k) : cs[o + j]? = l[j]? := by
 rw [← h, List.getElem?_take_of_lt hj, List.getElem?_drop]
theorem spell_cells {n : Nat} {T : TypeId} {ds : List (DataW Unit)} {q : List MemPlace} (ht : Tryz.prog.underlying T = some (.array n 220)) (h : DataW.trod enc Tryz.prog w base spare held fuel T cs = some (.agg ds, q)) (hn : ds.length = n) :
 ∀ i d0 d1, ds[i]? = some (.agg [d0, d1]) → cs[i * 2]? = some (litV d0) ∧ cs[i * 2 + 1]? = some (litV d1) := by
 obtain ⟨xs, m, rfl, hx, hlen, hxn, hel⟩ := DataW.trod_array ht h
 intro i d0 d1 hi
 simp only [Prod.mk.injEq, DataW.agg.injEq] at hx
 rw [hx.1, List.getElem?_map] at hi
 have hlt : i < n := by
  cases hxi : xs[i]? with
  | none => rw [hxi] at hi; cases hi
  | some y => have := (List.getElem?_eq_some_iff.1 hxi).1; omega
 have hr := hel i hlt
 cases hxi : xs[i]? with
 | none => rw [hxi] at hi; cases hi
 | some y =>
  rw [hxi] at hi hr
  simp at hi
  rw [cells_spelling] at hr
  obtain ⟨e0, e1, hy, hl⟩ := spell_row hr
  rw [hi] at hy
  injection hy with hy
  injection hy with a1 hy
  injection hy with a2 _
  subst a1 a2
  have p0 := at_piece hl (j := 0) (by omega)
  have p1 := at_piece hl (j := 1) (by omega)
  exact ⟨by simpa using p0, by simpa using p1⟩
theorem effect_cells {n : Nat} {T : TypeId} {ds : List (DataW Unit)} {q : List MemPlace} (ht : Tryz.prog.underlying T = some (.array n 150)) (h : DataW.trod enc Tryz.prog w base spare held fuel T cs = some (.agg ds, q)) (hn : ds.length = n) :
 ∀ i d0 d1 d2 d3 d4, ds[i]? = some (.agg [d0, d1, d2, d3, d4]) → cs[i * 5]? = some (litV d0) ∧ cs[i * 5 + 1]? = some (litV d1) ∧ cs[i * 5 + 2]? = some (litV d2) ∧ cs[i * 5 + 3]? = some (litV d3) ∧ cs[i * 5 + 4]? = some (litV d4) := by
 obtain ⟨xs, m, rfl, hx, hlen, hxn, hel⟩ := DataW.trod_array ht h
 intro i d0 d1 d2 d3 d4 hi
 simp only [Prod.mk.injEq, DataW.agg.injEq] at hx
 rw [hx.1, List.getElem?_map] at hi
 have hlt : i < n := by
  cases hxi : xs[i]? with
  | none => rw [hxi] at hi; cases hi
  | some y => have := (List.getElem?_eq_some_iff.1 hxi).1; omega
 have hr := hel i hlt
 cases hxi : xs[i]? with
 | none => rw [hxi] at hi; cases hi
 | some y =>
  rw [hxi] at hi hr
  simp at hi
  rw [cells_effect] at hr
  obtain ⟨e0, e1, e2, e3, e4, hy, hl⟩ := effect_row hr
  rw [hi] at hy
  injection hy with hy
  injection hy with a0 hy
  injection hy with a1 hy
  injection hy with a2 hy
  injection hy with a3 hy
  injection hy with a4 _
  subst a0 a1 a2 a3 a4
  have p0 := at_piece hl (j := 0) (by omega)
  have p1 := at_piece hl (j := 1) (by omega)
  have p2 := at_piece hl (j := 2) (by omega)
  have p3 := at_piece hl (j := 3) (by omega)
  have p4 := at_piece hl (j := 4) (by omega)
  exact ⟨by simpa using p0, by simpa using p1, by simpa using p2, by simpa using p3, by simpa using p4⟩
theorem gPlains : Tryz.prog.globalNamed "kin/kin.plainWords" = some 2 := by kernel_rfl
theorem gHeads : Tryz.prog.globalNamed "kin/kin.classHeads" = some 1 := by kernel_rfl
theorem gEffects : Tryz.prog.globalNamed "kin/kin.effects" = some 0 := by kernel_rfl
theorem tPlains : (Tryz.prog.globals[2]?).map (·.type) = some 222 := by kernel_rfl
theorem tHeads : (Tryz.prog.globals[1]?).map (·.type) = some 221 := by kernel_rfl
theorem tEffects : (Tryz.prog.globals[0]?).map (·.type) = some 151 := by kernel_rfl
def effData (x : Nat × Nat × Bool × Bool × Bool) : DataW Unit := .agg [.lit (.int .i64 (x.1 : Nat)), .lit (.int .i64 (x.2.1 : Nat)), .lit (.bool x.2.2.1), .lit (.bool x.2.2.2.1), .lit (.bool x.2.2.2.2)]
theorem laid_effects : (Rows.laid_kin_kin_effects : DataW Unit) = .agg (effTab.map effData) := rfl
theorem cell_lt {W : World} {g o : Nat} {v : Value} (h : W.cell? ⟨g, o, none⟩ = some v) : g < W.heap.size := by
 apply Classical.byContradiction
 intro hn
 have : W.heap[g]? = none := Array.getElem?_eq_none_iff.2 (by omega)
 simp [World.cell?, this] at h
theorem of_laid {W : World} (h : laidMetH Tryz.prog Rows.deeperRow.laid W) : (0 < W.heap.size ∧ 2 < W.heap.size ∧ 1 < W.heap.size) ∧ HasEff W ∧ HasPlains W ∧ HasHeads W := by
 rw [MakeChecks.laidMetH_plain _ _ _ (by kernel_rfl)] at h
 obtain ⟨ps, ⟨g0, t0, cs0, f0, p0, q0, hg0, ht0, hv0, hd0, ⟨g1, t1, cs1, f1, p1, q1, hg1, ht1, hv1, hd1, ⟨g2, t2, cs2, f2, p2, q2, hg2, ht2, hv2, hd2, _, _⟩, _⟩, _⟩, _, _⟩ := h
 obtain rfl := Option.some.inj (gPlains.symm.trans hg0)
 obtain rfl := Option.some.inj (gHeads.symm.trans hg1)
 obtain rfl := Option.some.inj (gEffects.symm.trans hg2)
 obtain rfl := Option.some.inj (tPlains.symm.trans ht0)
 obtain rfl := Option.some.inj (tHeads.symm.trans ht1)
 obtain rfl := Option.some.inj (tEffects.symm.trans ht2)
 have P0 := spell_cells Tryz.underlying222 hd0 rfl
 have P1 := spell_cells Tryz.underlying221 hd1 rfl
 have P2 := effect_cells Tryz.underlying151 (by rw [laid_effects] at hd2; exact hd2) (by simp [effTab])
 have C0 : HasPlains W := by
  intro i v hv
  rw [World.var?_cell hg0 hv0 i, ← Array.getElem?_toList]
  exact (match i, hv with
   | 0, hv => by simp [PlainsCells] at hv; subst hv; simpa [litV] using (P0 0 _ _ rfl).1
   | 1, hv => by simp [PlainsCells] at hv; subst hv; simpa [litV] using (P0 0 _ _ rfl).2
   | 2, hv => by simp [PlainsCells] at hv; subst hv; simpa [litV] using (P0 1 _ _ rfl).1
   | 3, hv => by simp [PlainsCells] at hv; subst hv; simpa [litV] using (P0 1 _ _ rfl).2
   | 4, hv => by simp [PlainsCells] at hv; subst hv; simpa [litV] using (P0 2 _ _ rfl).1
   | 5, hv => by simp [PlainsCells] at hv; subst hv; simpa [litV] using (P0 2 _ _ rfl).2
   | 6, hv => by simp [PlainsCells] at hv; subst hv; simpa [litV] using (P0 3 _ _ rfl).1
   | 7, hv => by simp [PlainsCells] at hv; subst hv; simpa [litV] using (P0 3 _ _ rfl).2
   | 8, hv => by simp [PlainsCells] at hv; subst hv; simpa [litV] using (P0 4 _ _ rfl).1
   | 9, hv => by simp [PlainsCells] at hv; subst hv; simpa [litV] using (P0 4 _ _ rfl).2
   | 10, hv => by simp [PlainsCells] at hv; subst hv; simpa [litV] using (P0 5 _ _ rfl).1
   | 11, hv => by simp [PlainsCells] at hv; subst hv; simpa [litV] using (P0 5 _ _ rfl).2
   | 12, hv => by simp [PlainsCells] at hv; subst hv; simpa [litV] using (P0 6 _ _ rfl).1
   | 13, hv => by simp [PlainsCells] at hv; subst hv; simpa [litV] using (P0 6 _ _ rfl).2
   | 14, hv => by simp [PlainsCells] at hv; subst hv; simpa [litV] using (P0 7 _ _ rfl).1
   | 15, hv => by simp [PlainsCells] at hv; subst hv; simpa [litV] using (P0 7 _ _ rfl).2
   | 16, hv => by simp [PlainsCells] at hv; subst hv; simpa [litV] using (P0 8 _ _ rfl).1
   | 17, hv => by simp [PlainsCells] at hv; subst hv; simpa [litV] using (P0 8 _ _ rfl).2
   | i + 18, hv => by simp [PlainsCells] at hv)
 have C1 : HasHeads W := by
  intro i v hv
  rw [World.var?_cell hg1 hv1 i, ← Array.getElem?_toList]
  exact (match i, hv with
   | 0, hv => by simp [HeadsCells] at hv; subst hv; simpa [litV] using (P1 0 _ _ rfl).1
   | 1, hv => by simp [HeadsCells] at hv; subst hv; simpa [litV] using (P1 0 _ _ rfl).2
   | 2, hv => by simp [HeadsCells] at hv; subst hv; simpa [litV] using (P1 1 _ _ rfl).1
   | 3, hv => by simp [HeadsCells] at hv; subst hv; simpa [litV] using (P1 1 _ _ rfl).2
   | 4, hv => by simp [HeadsCells] at hv; subst hv; simpa [litV] using (P1 2 _ _ rfl).1
   | 5, hv => by simp [HeadsCells] at hv; subst hv; simpa [litV] using (P1 2 _ _ rfl).2
   | 6, hv => by simp [HeadsCells] at hv; subst hv; simpa [litV] using (P1 3 _ _ rfl).1
   | 7, hv => by simp [HeadsCells] at hv; subst hv; simpa [litV] using (P1 3 _ _ rfl).2
   | 8, hv => by simp [HeadsCells] at hv; subst hv; simpa [litV] using (P1 4 _ _ rfl).1
   | 9, hv => by simp [HeadsCells] at hv; subst hv; simpa [litV] using (P1 4 _ _ rfl).2
   | i + 10, hv => by simp [HeadsCells] at hv)
 have C2 : HasEff W := by
  intro k t l sd jp st hk
  have hr : (effTab.map effData)[k]? = some (effData (t, l, sd, jp, st)) := by rw [List.getElem?_map, hk]; rfl
  obtain ⟨r0, r1, r2, r3, r4⟩ := P2 k _ _ _ _ _ hr
  refine ⟨?_, ?_, ?_, ?_, ?_⟩
  all_goals (rw [World.var?_cell hg2 hv2, ← Array.getElem?_toList]; first | exact r0 | exact r1 | exact r2 | exact r3 | exact r4)
 exact ⟨⟨cell_lt (C2 0 0 0 false false false rfl).c0, cell_lt (C0 0 _ rfl), cell_lt (C1 0 _ rfl)⟩, C2, C0, C1⟩
end Go.Proofs.YtkghmgoefiepeaaGreatDoor.reads
namespace Go.Proofs.YtkghmgoefiepeaaGreatDoor.reads
open Go.ChangeShapes Go.WideShapes Go.ChangeAt Go.RowKit Kn Go.Proofs.YtkghmgoefiepeaaGreatDoor.img
structure At (w0 : World) (b : Nat) (w : World) (m : Im) (K : Kd) : Prop where
 kim : KIm w m K
 lo : ∀ k, Foot m K k → w0.heap.size ≤ k
 bel : Below w0.heap.size w0 w
 b_ : K.b = b
theorem At.step {w0 w w' : World} {b : Nat} {m m' : Im} {K K' : Kd} (h : At w0 b w m K) (s : Step w w' m K m' K') : At w0 b w' m' K' :=
 ⟨s.kim, fun k e => by
  rcases s.foot k e with e | e
  · exact h.lo k e
  · have := h.bel.size; omega, h.bel.trans (s.chg.below h.bel.size (fun k _ e => h.lo k e)), s.b.trans h.b_⟩
theorem At.below {w0 w w' : World} {b : Nat} {m : Im} {K : Kd} (h : At w0 b w m K) (hb : Below w.heap.size w w') : At w0 b w' m K := h.step (Step.below h.kim hb)
structure Bk (w : World) (m : Im) (K : Kd) (k : Nat) (cs : Array Value) (t : TypeId) : Prop where
 blk : w.heap[k]? = some (.cells cs t)
 off : ¬ Foot m K k
theorem Bk.lt {w : World} {m : Im} {K : Kd} {k : Nat} {cs : Array Value} {t : TypeId} (h : Bk w m K k cs t) : k < w.heap.size := (Array.getElem?_eq_some_iff.1 h.blk).1
theorem Bk.step {w w' : World} {m m' : Im} {K K' : Kd} {k : Nat} {cs : Array Value} {t : TypeId} (h : Bk w m K k cs t) (s : Step w w' m K m' K') : Bk w' m' K' k cs t :=
 ⟨(s.chg.block k h.lt h.off).trans h.blk, fun e => by
   rcases s.foot k e with e | e
   · exact h.off e
   · have := h.lt; omega⟩
theorem Bk.below {w w' : World} {m : Im} {K : Kd} {k : Nat} {cs : Array Value} {t : TypeId} (h : Bk w m K k cs t) (hb : Below w.heap.size w w') : Bk w' m K k cs t := ⟨(hb.block k h.lt).trans h.blk, h.off⟩
theorem Bk.new {w : World} {m : Im} {K : Kd} (h : KIm w m K) (cs : Array Value) (t : TypeId) : Bk (w.alloc (.cells cs t)) m K w.heap.size cs t :=
 ⟨(MapKept.heap_alloc w _).1, fun e => by have := h.lt e; omega⟩
theorem Bk.cell {w : World} {m : Im} {K : Kd} {k : Nat} {cs : Array Value} {t : TypeId} (h : Bk w m K k cs t) (o : Nat) {v : Value} (hv : cs[o]? = some v) : w.cell? ⟨k, o, none⟩ = some v := by
 simp only [World.cell?, h.blk]
 exact hv
theorem below1 (w : World) (o : Obj) : Below w.heap.size w (w.alloc o) := (Below.refl _ w).alloc (Nat.le_refl _) _
theorem num_any (n : Int) (w : World) : Calls Tryz.prog 9 #[.int .i64 n] w fun e w' => e = .returned (.int .i64 n) ∧ w' = w := by
 go_enter Tryz.func9, Tryz.ntmps9
 go_wp2
 go_ret
 exact ⟨rfl, rfl⟩
theorem argsAt_one {w : World} (v : Vl) : ArgsAt (w.alloc (.cells #[.bool v.obj, .int .i64 v.n] 33)) (.slice (some ⟨w.heap.size, 0, none⟩) 1 1) [v] w.heap.size := by
 refine ⟨_, _, rfl, fun _ => ⟨_, rfl, rfl, fun j u hu => ?_⟩⟩
 have hb := (MapKept.heap_alloc w (.cells #[.bool v.obj, .int .i64 v.n] 33)).1
 rw [add_plain, Nat.zero_add]
 simp only [World.cell?, hb]
 match j, hu with
 | 0, hu => exact hu
 | 1, hu => exact hu
variable {w0 w : World} {b : Nat} {m : Im} {K : Kd}
theorem At.class_ (h : At w0 b w m K) (s t : ByteArray) (n : Int) (hs : s.size ≤ 140737488355328) :
 Calls Tryz.prog 15 #[.pointer (some ⟨b, 0, none⟩), .string s, .string t, .int .i64 n] w fun e w' => e = .returned (.int .i64 (m.class_ s t n).1) ∧ ∃ K', Step w w' m K (m.class_ s t n).2 K' := by
 obtain rfl := h.b_
 exact class_any h.kim s t n hs
theorem At.method (h : At w0 b w m K) (cn sel src : ByteArray) (hs1 : sel.size ≤ 140737488355328) (hs2 : src.size ≤ 140737488355328) :
 Calls Tryz.prog 17 #[.pointer (some ⟨b, 0, none⟩), .string cn, .string sel, .string src] w fun e w' => ∃ (r a : Int) (m' : Im) (K' : Kd), e = .returned (.tuple #[.int .i64 r, .int .i64 a]) ∧ MethRes m cn sel src r a m' ∧ Step w w' m K m' K' := by
 obtain rfl := h.b_
 exact method_any h.kim cn sel src hs1 hs2
theorem At.drop (h : At w0 b w m K) (cn sel : ByteArray) :
 Calls Tryz.prog 19 #[.pointer (some ⟨b, 0, none⟩), .string cn, .string sel] w fun e w' => e = .returned (.int .i64 (m.drop cn sel).1) ∧ ∃ K', Step w w' m K (m.drop cn sel).2 K' := by
 obtain rfl := h.b_
 exact drop_any h.kim cn sel
theorem At.make (h : At w0 b w m K) (cn : ByteArray) :
 Calls Tryz.prog 16 #[.pointer (some ⟨b, 0, none⟩), .string cn] w fun e w' => e = .returned (.tuple #[(m.make cn).1.val, .int .i64 (m.make cn).2.1]) ∧ ∃ K', Step w w' m K (m.make cn).2.2 K' := by
 obtain rfl := h.b_
 exact make_any h.kim cn
theorem At.send (h : At w0 b w m K) (to : Vl) (hto : isI64 to.n) (sel : ByteArray) (hs : sel.size ≤ 140737488355328) {ap : Option Addr} {cap : Nat} {args : List Vl} {ab : Nat} (hav : ArgsAt w (.slice ap args.length cap) args ab) (hab : args ≠ [] → ab < w.heap.size ∧ ¬ Foot m K ab) (hargs : ∀ v ∈ args, isI64 v.n) (fuel : Int) :
 Calls Tryz.prog 18 #[.pointer (some ⟨b, 0, none⟩), to.val, .string sel, .slice ap args.length cap, .int .i64 fuel] w (SOut w m K (m.sendOut to sel args fuel)) := by
 obtain rfl := h.b_
 exact sendO_any h.kim to hto sel hs hav hab hargs fuel
theorem At.send1 (h : At w0 b w m K) (to : Vl) (hto : isI64 to.n) (sel : ByteArray) (hs : sel.size ≤ 140737488355328) (v : Vl) (hv : isI64 v.n) (fuel : Int) {r : Vl × Int × Int × Im} (hr : m.sendOut to sel [v] fuel = r) :
 Calls Tryz.prog 18 #[.pointer (some ⟨b, 0, none⟩), to.val, .string sel, .slice (some ⟨w.heap.size, 0, none⟩) 1 1, .int .i64 fuel] (w.alloc (.cells #[.bool v.obj, .int .i64 v.n] 33)) fun e w' => ∃ K', e = .returned (.tuple #[r.1.val, .int .i64 r.2.1, .int .i64 r.2.2.1]) ∧ Step w w' m K r.2.2.2 K' := by
 have hb := below1 w (.cells #[.bool v.obj, .int .i64 v.n] 33)
 refine ((h.below hb).send to hto sel hs (args := [v]) (argsAt_one v) (fun _ => ⟨by simp, fun e => by have := h.kim.lt e; omega⟩) (fun u hu => by simp at hu; rw [hu]; exact hv) fuel).mono ?_
 rw [hr]
 rintro e w' ⟨K', rfl, hst⟩
 exact ⟨K', rfl, (Step.below h.kim hb).trans hst⟩
end Go.Proofs.YtkghmgoefiepeaaGreatDoor.reads
namespace Go.Proofs.YtkghmgoefiepeaaGreatDoor.reads
open Go.ChangeShapes Go.WideShapes Go.ChangeAt Go.RowKit Kn Go.Proofs.YtkghmgoefiepeaaGreatDoor.img
theorem rnew_ok (a0 a1 : Int) (w : World) (h : GoodNew a0 a1) :
 Calls Tryz.prog 8 #[.int .i64 a0, .int .i64 a1] w fun e w' => (∃ p, e = .returned (.tuple #[.pointer (some p), .int .i64 0])) ∧ Below w.heap.size w w' := by
 obtain ⟨h0, h1, h2, h3, h4⟩ := h
 go_enter Tryz.func8, Tryz.ntmps8
 go_wp2
 go_ret2
 exact ⟨⟨_, rfl⟩, ((Below.refl _ _).alloc (Nat.le_refl _) _).alloc (by simp) _⟩
theorem rnew_no (a0 a1 : Int) (w : World) (h : ¬ GoodNew a0 a1) :
 Calls Tryz.prog 8 #[.int .i64 a0, .int .i64 a1] w fun e w' => e = .returned (.tuple #[.pointer none, .int .i64 1]) ∧ w' = w := by
 by_cases h0 : 0 ≤ a0
 · by_cases h1 : a0 ≤ 6
   · by_cases h2 : 1 ≤ a1
     · by_cases h3 : a1 ≤ 64
       · have h4 : (bits BinOp.and IntKind.i64 a1 (a1 - 1) == 0) = false := by
          simpa [GoodNew, h0, h1, h2, h3] using h
         clear h
         go_enter Tryz.func8, Tryz.ntmps8
         go_wp2
         all_goals (go_ret2; exact ⟨rfl, rfl⟩)
       all_goals
        clear h
        go_enter Tryz.func8, Tryz.ntmps8
        go_wp2
        all_goals (go_ret2; exact ⟨rfl, rfl⟩)
     all_goals
      clear h
      go_enter Tryz.func8, Tryz.ntmps8
      go_wp2
      all_goals (go_ret2; exact ⟨rfl, rfl⟩)
   all_goals
    clear h
    go_enter Tryz.func8, Tryz.ntmps8
    go_wp2
    all_goals (go_ret2; exact ⟨rfl, rfl⟩)
 all_goals
  clear h
  go_enter Tryz.func8, Tryz.ntmps8
  go_wp2
  all_goals (go_ret2; exact ⟨rfl, rfl⟩)
theorem good11 : GoodNew 1 1 := ⟨by omega, by omega, by omega, by omega, by kernel_rfl⟩
theorem alive_any (w : World) (hg : Glo w) : Calls Tryz.prog 12 #[] w fun e w' => e = .returned (.bool true) ∧ Below w.heap.size w w' := by
 go_enter Tryz.func12, Tryz.ntmps12
 go_wp2_with fail
 refine (new_any 1 1 w hg good11).mono ?_
 rintro e w1 ⟨K, rfl, hk, hfo, hb⟩
 obtain ⟨b, hbe⟩ : ∃ b, K.b = b := ⟨_, rfl⟩
 rw [hbe]
 have H1 : Hid (At w b w1 im0 K) := ⟨hk, hfo, hb, hbe⟩
 clear hk hfo hb hbe
 go_wp2_with fail
 refine (num_any 0 _).mono ?_
 rintro e w2 ⟨rfl, rfl⟩
 go_wp2_with fail
 refine (H1.out.method nAny tTwo srcTwo (by decide) (by decide)).mono ?_
 rintro e w3 ⟨r, a, m', K3, rfl, hm, hst⟩
 obtain ⟨rfl, rfl, rfl⟩ := line_res (c := 0) (H := fun j => [0, 1, 2, 1].getD j 0) hm (by kernel_rfl) two_is.1 two_is.2.1 two_is.2.2 two_line
 have H3 : Hid (At w b w3 imTwo K3) := H1.out.step hst
 clear hm hst
 go_wp2_with fail
 refine (H3.out.send1 ⟨false, 5⟩ ⟨by decide, by decide⟩ tTwo (by decide) ⟨false, 21⟩ ⟨by decide, by decide⟩ 9 rfl).mono ?_
 rintro e w4 ⟨K4, rfl, hst⟩
 have H4 : Hid (Below w.heap.size w w4) := (H3.out.step hst).bel
 clear hst
 rw [two_send.1, two_send.2.1, two_send.2.2]
 unfold Vl.val
 go_wp2_with fail
 refine (num_any 0 _).mono ?_
 rintro e w5 ⟨rfl, rfl⟩
 go_wp2_with fail
 refine (num_any 0 _).mono ?_
 rintro e w6 ⟨rfl, rfl⟩
 go_wp2
 go_ret
 exact ⟨rfl, H4.out.trans ((below1 _ _).mono H4.out.size)⟩
theorem deeper_walk (p t a b wh : Int) (ha : isI64 a) (hb : isI64 b) (w : World) (hg : Glo w) :
 Calls Tryz.prog 6 #[.int .i64 p, .int .i64 t, .int .i64 a, .int .i64 b, .int .i64 wh] w fun e w' => e = .returned (.bool true) ∧ Below w.heap.size w w' := by
 have HI : Hid (isI64 a ∧ isI64 b) := ⟨ha, hb⟩
 clear ha hb
 by_cases hgood : GoodNew p t
 · have HG : Hid (GoodNew p t) := hgood
   clear hgood
   go_enter Tryz.func6, Tryz.ntmps6
   go_wp2_with fail
   refine (alive_any w hg).mono ?_
   rintro e w1 ⟨rfl, hb1⟩
   have HB1 : Hid _ := hb1
   clear hb1
   go_wp2_with fail
   refine (rnew_ok p t w1 HG.out).mono ?_
   rintro e w2 ⟨⟨rp, rfl⟩, hb2⟩
   have HB2 : Hid (Below w.heap.size w w2) := HB1.out.trans (hb2.mono HB1.out.size)
   have hg2 : Glo w2 := hg.same HB2.out.size (fun k hk => HB2.out.block k (hg.lt hk))
   clear hb2
   go_wp2_with fail
   refine (new_any p t w2 hg2 HG.out).mono ?_
   rintro e w3 ⟨K, rfl, hk, hfo, hb3⟩
   obtain ⟨ib, hbe⟩ : ∃ b, K.b = b := ⟨_, rfl⟩
   rw [hbe]
   have H3 : Hid (At w2 ib w3 im0 K) := ⟨hk, hfo, hb3, hbe⟩
   clear hk hfo hb3 hbe hg hg2
   go_wp2_with fail
   refine (num_any 0 _).mono ?_
   rintro e w3' ⟨rfl, rfl⟩
   go_wp2_with fail
   refine (H3.out.class_ nA nAny 1 (by decide)).mono ?_
   rintro e w4 ⟨rfl, K4, hst⟩
   have H4 : Hid (At w2 ib w4 imD1 K4) := H3.out.step hst
   clear hst
   go_wp2_with fail
   refine (H4.out.class_ nB nA 0 (by decide)).mono ?_
   rintro e w5 ⟨rfl, K5, hst⟩
   have H5 : Hid (At w2 ib w5 imD2 K5) := H4.out.step hst
   clear hst
   go_wp2_with fail
   refine (H5.out.class_ nC nB 0 (by decide)).mono ?_
   rintro e w6 ⟨rfl, K6, hst⟩
   have H6 : Hid (At w2 ib w6 imD3 K6) := H5.out.step hst
   clear hst
   go_wp2_with fail
   refine (H6.out.make nC).mono ?_
   rintro e w7 ⟨rfl, K7, hst⟩
   have H7 : Hid (At w2 ib w7 imD4 K7) := H6.out.step hst
   clear hst
   rw [deep_make.1, deep_make.2]
   unfold Vl.val
   go_wp2_with fail
   obtain ⟨W8, hW8⟩ : ∃ W, W = w7.alloc (.cells #[.bool true, .int .i64 0] 33) := ⟨_, rfl⟩
   obtain ⟨vb, hvb⟩ : ∃ vb, vb = w7.heap.size := ⟨_, rfl⟩
   rw [← hW8, ← hvb]
   have H8 : Hid (At w2 ib W8 imD4 K7 ∧ Bk W8 imD4 K7 vb #[.bool true, .int .i64 0] 33) := by
    rw [hW8, hvb]
    exact (⟨H7.out.below (below1 _ _), Bk.new H7.out.kim _ _⟩ : _ ∧ _)
   clear hW8 hvb
   refine (H8.out.1.method nA tTell srcTell (by decide) (by decide)).mono ?_
   rintro e w9 ⟨r9, a9, m9, K9, rfl, hm, hst⟩
   obtain rfl := deep_tell hm
   have H9 : Hid (At w2 ib w9 imD5 K9 ∧ Bk w9 imD5 K9 vb #[.bool true, .int .i64 0] 33) := ⟨H8.out.1.step hst, H8.out.2.step hst⟩
   clear hm hst
   go_wp2_with fail
   refine (H9.out.1.method nC tAsk srcAsk (by decide) (by decide)).mono ?_
   rintro e w10 ⟨r10, a10, m10, K10, rfl, hm, hst⟩
   obtain rfl := deep_ask hm
   have H10 : Hid (At w2 ib w10 imD6 K10 ∧ Bk w10 imD6 K10 vb #[.bool true, .int .i64 0] 33) := ⟨H9.out.1.step hst, H9.out.2.step hst⟩
   clear hm hst
   have v0 := H10.out.2.cell 0 rfl
   have v1 := H10.out.2.cell 1 rfl
   have lv := H10.out.2.lt
   go_wp2_with fail
   refine (H10.out.1.send1 ⟨true, 0⟩ ⟨by decide, by decide⟩ tAsk (by decide) ⟨false, a⟩ HI.out.1 99 (deep_one a)).mono ?_
   rintro e w11 ⟨K11, rfl, hst⟩
   have H11 : Hid (At w2 ib w11 imD7 K11 ∧ Bk w11 imD7 K11 vb #[.bool true, .int .i64 0] 33) := ⟨H10.out.1.step hst, H10.out.2.step hst⟩
   clear hst v0 v1 lv
   unfold Vl.val
   cases hwh : (bits BinOp.and IntKind.i64 wh 1 == 1)
   case' true =>
    go_wp2_with fail
    obtain ⟨wb, hwb⟩ : ∃ wb, wb = true := ⟨_, rfl⟩
    obtain ⟨nm, hnm⟩ : ∃ nm, nm = nmW wb := ⟨_, rfl⟩
    rw [show (⟨#[67]⟩ : ByteArray) = nm by rw [hnm, hwb]; rfl]
   case' false =>
    go_wp2_with fail
    obtain ⟨wb, hwb⟩ : ∃ wb, wb = false := ⟨_, rfl⟩
    obtain ⟨nm, hnm⟩ : ∃ nm, nm = nmW wb := ⟨_, rfl⟩
    rw [show (⟨#[66]⟩ : ByteArray) = nm by rw [hnm, hwb]; rfl]
   all_goals
    clear hwh hwb
    have HNM : Hid _ := hnm
    clear hnm
    obtain ⟨W12, hW12⟩ : ∃ W, W = w11.alloc (.cells #[.bool false, .int .i64 a] 33) := ⟨_, rfl⟩
    obtain ⟨ob, hob⟩ : ∃ ob, ob = w11.heap.size := ⟨_, rfl⟩
    rw [← hW12, ← hob]
    have H12 : Hid (At w2 ib W12 imD7 K11 ∧ Bk W12 imD7 K11 vb #[.bool true, .int .i64 0] 33 ∧ Bk W12 imD7 K11 ob #[.bool false, .int .i64 a] 33) := by
     rw [hW12, hob]
     exact (⟨H11.out.1.below (below1 _ _), H11.out.2.below (below1 _ _), Bk.new H11.out.1.kim _ _⟩ : _ ∧ _ ∧ _)
    clear hW12 hob
    refine (H12.out.1.method nm tTell srcMore (by decide) (by decide)).mono ?_
    rintro e w13 ⟨r13, a13, m13, K13, rfl, hm, hst⟩
    rw [HNM.out] at hm
    obtain rfl := deep_more wb hm
    have H13 : Hid (At w2 ib w13 (imD8 wb) K13 ∧ Bk w13 (imD8 wb) K13 vb #[.bool true, .int .i64 0] 33 ∧ Bk w13 (imD8 wb) K13 ob #[.bool false, .int .i64 a] 33) := ⟨H12.out.1.step hst, H12.out.2.1.step hst, H12.out.2.2.step hst⟩
    clear hm hst
    have v0 := H13.out.2.1.cell 0 rfl
    have v1 := H13.out.2.1.cell 1 rfl
    have lv := H13.out.2.1.lt
    go_wp2_with fail
    refine (H13.out.1.send1 ⟨true, 0⟩ ⟨by decide, by decide⟩ tAsk (by decide) ⟨false, b⟩ HI.out.2 99 (deep_two wb b)).mono ?_
    rintro e w14 ⟨K14, rfl, hst⟩
    have H14 : Hid (At w2 ib w14 (imD9 wb) K14 ∧ Bk w14 (imD9 wb) K14 vb #[.bool true, .int .i64 0] 33 ∧ Bk w14 (imD9 wb) K14 ob #[.bool false, .int .i64 a] 33) := ⟨H13.out.1.step hst, H13.out.2.1.step hst, H13.out.2.2.step hst⟩
    clear hst v0 v1 lv
    unfold Vl.val
    obtain ⟨bb, hbb⟩ : ∃ bb, bb = Kn.wrap64 (b + 1) := ⟨_, rfl⟩
    rw [← hbb]
    have HBB : Hid _ := hbb
    clear hbb
    go_wp2_with fail
    obtain ⟨W15, hW15⟩ : ∃ W, W = w14.alloc (.cells #[.bool false, .int .i64 bb] 33) := ⟨_, rfl⟩
    obtain ⟨tb, htb⟩ : ∃ tb, tb = w14.heap.size := ⟨_, rfl⟩
    rw [← hW15, ← htb]
    have H15 : Hid (At w2 ib W15 (imD9 wb) K14 ∧ Bk W15 (imD9 wb) K14 vb #[.bool true, .int .i64 0] 33 ∧ Bk W15 (imD9 wb) K14 ob #[.bool false, .int .i64 a] 33 ∧ Bk W15 (imD9 wb) K14 tb #[.bool false, .int .i64 bb] 33) := by
     rw [hW15, htb]
     exact (⟨H14.out.1.below (below1 _ _), H14.out.2.1.below (below1 _ _), H14.out.2.2.below (below1 _ _), Bk.new H14.out.1.kim _ _⟩ : _ ∧ _ ∧ _ ∧ _)
    clear hW15 htb
    refine (H15.out.1.drop nm tTell).mono ?_
    rintro e w16 ⟨rfl, K16, hst⟩
    rw [HNM.out] at hst
    have H16 : Hid (At w2 ib w16 (imD10 wb) K16 ∧ Bk w16 (imD10 wb) K16 vb #[.bool true, .int .i64 0] 33 ∧ Bk w16 (imD10 wb) K16 ob #[.bool false, .int .i64 a] 33 ∧ Bk w16 (imD10 wb) K16 tb #[.bool false, .int .i64 bb] 33) := ⟨H15.out.1.step hst, H15.out.2.1.step hst, H15.out.2.2.1.step hst, H15.out.2.2.2.step hst⟩
    clear hst
    have v0 := H16.out.2.1.cell 0 rfl
    have v1 := H16.out.2.1.cell 1 rfl
    have lv := H16.out.2.1.lt
    go_wp2_with fail
    refine (H16.out.1.send1 ⟨true, 0⟩ ⟨by decide, by decide⟩ tAsk (by decide) ⟨false, a⟩ HI.out.1 99 (deep_three wb a)).mono ?_
    rintro e w17 ⟨K17, rfl, hst⟩
    have H17 : Hid (At w2 ib w17 (imD11 wb) K17 ∧ Bk w17 (imD11 wb) K17 vb #[.bool true, .int .i64 0] 33 ∧ Bk w17 (imD11 wb) K17 ob #[.bool false, .int .i64 a] 33 ∧ Bk w17 (imD11 wb) K17 tb #[.bool false, .int .i64 bb] 33) := ⟨H16.out.1.step hst, H16.out.2.1.step hst, H16.out.2.2.1.step hst, H16.out.2.2.2.step hst⟩
    clear hst v0 v1 lv
    unfold Vl.val
    go_wp2_with fail
    obtain ⟨W18, hW18⟩ : ∃ W, W = w17.alloc (.cells #[.bool false, .int .i64 a] 33) := ⟨_, rfl⟩
    obtain ⟨hb, hhb⟩ : ∃ hb, hb = w17.heap.size := ⟨_, rfl⟩
    rw [← hW18, ← hhb]
    have H18 : Hid (At w2 ib W18 (imD11 wb) K17 ∧ Bk W18 (imD11 wb) K17 vb #[.bool true, .int .i64 0] 33 ∧ Bk W18 (imD11 wb) K17 ob #[.bool false, .int .i64 a] 33 ∧ Bk W18 (imD11 wb) K17 tb #[.bool false, .int .i64 bb] 33 ∧ Bk W18 (imD11 wb) K17 hb #[.bool false, .int .i64 a] 33) := by
     rw [hW18, hhb]
     exact (⟨H17.out.1.below (below1 _ _), H17.out.2.1.below (below1 _ _), H17.out.2.2.1.below (below1 _ _), H17.out.2.2.2.below (below1 _ _), Bk.new H17.out.1.kim _ _⟩ : _ ∧ _ ∧ _ ∧ _ ∧ _)
    clear hW18 hhb
    refine (H18.out.1.drop nA tTell).mono ?_
    rintro e w19 ⟨rfl, K19, hst⟩
    have H19 : Hid (At w2 ib w19 (imD12 wb) K19 ∧ Bk w19 (imD12 wb) K19 vb #[.bool true, .int .i64 0] 33 ∧ Bk w19 (imD12 wb) K19 ob #[.bool false, .int .i64 a] 33 ∧ Bk w19 (imD12 wb) K19 tb #[.bool false, .int .i64 bb] 33 ∧ Bk w19 (imD12 wb) K19 hb #[.bool false, .int .i64 a] 33) := ⟨H18.out.1.step hst, H18.out.2.1.step hst, H18.out.2.2.1.step hst, H18.out.2.2.2.1.step hst, H18.out.2.2.2.2.step hst⟩
    clear hst
    have v0 := H19.out.2.1.cell 0 rfl
    have v1 := H19.out.2.1.cell 1 rfl
    have lv := H19.out.2.1.lt
    go_wp2_with fail
    obtain ⟨r4, hr4⟩ : ∃ r, (imD12 wb).sendOut ⟨true, 0⟩ tAsk [⟨false, a⟩] 99 = r := ⟨_, rfl⟩
    refine (H19.out.1.send1 ⟨true, 0⟩ ⟨by decide, by decide⟩ tAsk (by decide) ⟨false, a⟩ HI.out.1 99 hr4).mono ?_
    rintro e w20 ⟨K20, rfl, hst⟩
    have hf := deep_four wb a
    rw [hr4] at hf
    obtain ⟨⟨r4o, r4n⟩, n4, e4, m4⟩ := r4
    obtain ⟨rfl, rfl⟩ := hf
    have H20 : Hid (At w2 ib w20 m4 K20 ∧ Bk w20 m4 K20 ob #[.bool false, .int .i64 a] 33 ∧ Bk w20 m4 K20 tb #[.bool false, .int .i64 bb] 33 ∧ Bk w20 m4 K20 hb #[.bool false, .int .i64 a] 33) := ⟨H19.out.1.step hst, H19.out.2.2.1.step hst, H19.out.2.2.2.1.step hst, H19.out.2.2.2.2.step hst⟩
    clear hst v0 v1 lv hr4
    unfold Vl.val
    have o0 := H20.out.2.1.cell 0 rfl
    have o1 := H20.out.2.1.cell 1 rfl
    have lo := H20.out.2.1.lt
    have t0 := H20.out.2.2.1.cell 0 rfl
    have t1 := H20.out.2.2.1.cell 1 rfl
    have lt := H20.out.2.2.1.lt
    have h0 := H20.out.2.2.2.cell 0 rfl
    have h1 := H20.out.2.2.2.cell 1 rfl
    have lh := H20.out.2.2.2.lt
    obtain rfl : bb = Go.RowKit.wrap64 (b + 1) := HBB.out.trans (by unfold Kn.wrap64 Go.RowKit.wrap64; simp [IntKind.wrap_i64])
    clear HBB
    go_wp2_with fail
    refine (num_any 0 _).mono ?_
    rintro e w21 ⟨rfl, rfl⟩
    go_wp2_with fail
    refine (num_any 0 _).mono ?_
    rintro e w22 ⟨rfl, rfl⟩
    go_wp2
    go_ret
    exact ⟨rfl, HB2.out.trans ((H20.out.1.bel.mono HB2.out.size).trans ((below1 _ _).mono (Nat.le_trans HB2.out.size H20.out.1.bel.size)))⟩
 · have HG : Hid (¬ GoodNew p t) := hgood
   clear hgood
   go_enter Tryz.func6, Tryz.ntmps6
   go_wp2_with fail
   refine (alive_any w hg).mono ?_
   rintro e w1 ⟨rfl, hb1⟩
   have HB1 : Hid _ := hb1
   clear hb1
   go_wp2_with fail
   refine (rnew_no p t w1 HG.out).mono ?_
   rintro e w2 ⟨rfl, rfl⟩
   go_wp2_with fail
   refine (new_no p t w2 HG.out).mono ?_
   rintro e w3 ⟨rfl, rfl⟩
   go_wp2_with fail
   refine (num_any 1 _).mono ?_
   rintro e w4 ⟨rfl, rfl⟩
   go_wp2
   go_ret
   exact ⟨rfl, HB1.out⟩
end Go.Proofs.YtkghmgoefiepeaaGreatDoor.reads
namespace Go.Proofs.YtkghmgoefiepeaaGreatDoor.reads
open Go.ChangeShapes Go.WideShapes Go.ChangeAt Go.RowKit Kn
theorem own : ownKnob Tryz.prog.godebug = none := by kernel_rfl
theorem glo_of {W : World} (h : laidMetH Tryz.prog Rows.deeperRow.laid W) : Glo W := by
 obtain ⟨⟨l0, l1, l2⟩, hE, hP, hH⟩ := of_laid h
 exact ⟨l0, l1, l2, hE, hP, hH⟩
theorem i64_of {a : Int} (h : (Lit.int IntKind.i64 a).wf = true) : isI64 a := by
 simp only [Lit.wf, Bool.and_eq_true, decide_eq_true_eq] at h
 exact ⟨h.1, h.2⟩
theorem door_met (os : Os) (args : Array Value) : laidMetH Tryz.prog Rows.deeperRow.laid ((World.doorLaid Tryz.prog 400 os).forCall (fun _ _ => 0) ⟨#[], args, []⟩).memory :=
 laidMetH_of_parts3 (fuel := 8) (laidMet_of_run' 8 (by kernel_rfl) (by kernel_rfl)) (by kernel_rfl) (by kernel_rfl)
theorem lifted (os : Os) (started : os.Started) (H : Type) (enc : TypeId × Value → H) :
 ReturnsInHanded {} Tryz.checked os 6 .any (fun w args => (Rows.deeperSpec.pre enc Tryz.prog Tryz.f6 [] false w args ∧ laidMetH Tryz.prog Rows.deeperRow.laid w) ∧ sizedMet enc Tryz.prog Tryz.f6 (OpenSpec.ofChange Rows.deeperSpec) false w args)
  (Rows.deeperSpec.post enc Tryz.prog Tryz.f6 false true false false) := by
 refine returnsInHanded_of_change_and (C := Tryz.checked) (X := fun w _ => laidMetH Tryz.prog Rows.deeperRow.laid w) (fun _ _ _ hh h => h.of_heap hh) own started (by kernel_rfl) Tryz.func6
  (ChangeSpec.witness_shaped (enc := enc) (C := Tryz.checked) (os := os) (X := fun w _ => laidMetH Tryz.prog Rows.deeperRow.laid w) false (World.doorLaid Tryz.prog 400 os) #[.int .i64 0, .int .i64 0, .int .i64 0, .int .i64 0, .int .i64 0] 8 rfl (World.shaped_of_RefB (by kernel_rfl) (by kernel_rfl)) (by kernel_rfl) (by kernel_rfl) (by kernel_rfl) (door_met os _)) ?_
 intro W base args ds gs before hval0 hW _ hsz hL _
 have hval : ∀ (j : Nat) t v, Tryz.f6.params[j]? = some t → args[j]? = some v → Value.okWide Tryz.prog W .any base t v := hval0
 have hW' := hW
 obtain ⟨p, q, hA0, hV, rfl, hfz, hnd⟩ := hW
 have hA : DataW.TrodAll enc Tryz.prog W 0 (fun _ => true) true Tryz.f6.params.toList args.toList ds p := hA0
 rw [Tryz.params6] at hA hval
 obtain ⟨v0, vs0, d0, ds0, p0, q0, hargs, rfl, rfl, h0, r0⟩ := trodAll_cons hA
 obtain ⟨v1, vs1, d1, ds1, p1, q1, rfl, rfl, rfl, h1, r1⟩ := trodAll_cons r0
 obtain ⟨v2, vs2, d2, ds2, p2, q2, rfl, rfl, rfl, h2, r2⟩ := trodAll_cons r1
 obtain ⟨v3, vs3, d3, ds3, p3, q3, rfl, rfl, rfl, h3, r3⟩ := trodAll_cons r2
 obtain ⟨v4, vs4, d4, ds4, p4, q4, rfl, rfl, rfl, h4, r4⟩ := trodAll_cons r3
 obtain ⟨rfl, rfl, rfl⟩ := trodAll_nil r4
 obtain rfl : args = #[v0, v1, v2, v3, v4] := by cases args; simp_all
 obtain ⟨rfl, rfl⟩ := trodVars_none hV
 obtain ⟨a0, rfl, rfl, rfl, w0⟩ := open_int Tryz.underlying3 (hval 0 3 v0 rfl rfl) h0
 obtain ⟨a1, rfl, rfl, rfl, w1⟩ := open_int Tryz.underlying3 (hval 1 3 v1 rfl rfl) h1
 obtain ⟨a2, rfl, rfl, rfl, w2⟩ := open_int Tryz.underlying3 (hval 2 3 v2 rfl rfl) h2
 obtain ⟨a3, rfl, rfl, rfl, w3⟩ := open_int Tryz.underlying3 (hval 3 3 v3 rfl rfl) h3
 obtain ⟨a4, rfl, rfl, rfl, w4⟩ := open_int Tryz.underlying3 (hval 4 3 v4 rfl rfl) h4
 clear hA0 hval0
 simp only [List.append_nil] at hW'
 refine (deeper_walk a0 a1 a2 a3 a4 (i64_of w2) (i64_of w3) W (glo_of hL)).mono fun e W' ⟨he, hg⟩ => ?_
 subst he
 exact ⟨_, rfl, Kn.post_below (pa := []) (pv := []) hW' (fun _ _ _ => (trodAll_cons_mk (shut_bool Tryz.underlying4 _) trodAll_mk0)) (fun sp _ => (trodAll_cons_mk (shut_int Tryz.underlying3 w0) (trodAll_cons_mk (shut_int Tryz.underlying3 w1) (trodAll_cons_mk (shut_int Tryz.underlying3 w2) (trodAll_cons_mk (shut_int Tryz.underlying3 w3) (trodAll_cons_mk (shut_int Tryz.underlying3 w4) trodAll_mk0)))))) (fun _ _ => rfl) rfl
  hg (ok_one (by kernel_rfl) rfl (okWide_bool_mk Tryz.underlying4 _))⟩
theorem over : Rows.DeeperSaid :=
 OpenClaim.holds_of_wide 6 Tryz.f6 rfl rfl rfl rfl rfl rfl rfl ⟨rfl, rfl, rfl, rfl, rfl⟩ rfl rfl rfl rfl rfl (by kernel_rfl) Tryz.func6 (by kernel_rfl)
  (of_decide_eq_true (by kernel_rfl)) (by unfold Func.isWrapper; first | (rw [if_pos (by decide +kernel)]; kernel_rfl) | (rw [if_neg (by decide +kernel)]; exact ⟨rfl, rfl⟩))
  (fun os started H enc _ => lifted os started H enc)
theorem proved : Rows.DeeperCardSaid :=
 Claim7.holds_tied_plain_at .later [] [.data, .data, .data] true (true, "0d59a4a332c927354d073a6beeb0066784f55666aeb5ae984c1f23e05fcc868e") true
  over (fun _ h => by cases h) (by kernel_rfl) (fun _ h => by cases h) deeper_row_tie rfl ⟨rfl, rfl⟩ (by kernel_rfl) rfl
  (fun f fn hf hfn => by
   obtain rfl : f = 6 := Option.some.inj ((show Tryz.prog.funcNamed "kin/kinlaw.Deeper" = some 6 by kernel_rfl).symm.trans hf) |>.symm
   obtain rfl : fn = Tryz.f6 := (Option.some.inj (Tryz.func6.symm.trans hfn)).symm
   exact ⟨by kernel_rfl, fun j t ht => by
    rw [Tryz.params6] at ht
    have hm : t ∈ [3, 3, 3, 3, 3] := by simpa using Array.mem_of_getElem? ht
    have hall : ([3, 3, 3, 3, 3].all fun u => !Tryz.prog.wantsStandIn u) = true := by kernel_rfl
    exact (show Tryz.prog.wantsStandIn t = false by simpa using List.all_eq_true.1 hall t hm)⟩)
  (by kernel_rfl)
#print axioms proved
end Go.Proofs.YtkghmgoefiepeaaGreatDoor.reads
