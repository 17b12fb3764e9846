import Derived.Test.YtkghmgoefiepeaaDoorRefI
import Derived.Test.YtkghmgoefiepeaaDoorSpecA
import Derived.Deep.LoopGhost
/- kinref.heights: the memory that it makes. -/
namespace Go.Proofs.YtkghmgoefiepeaaDoor.reads
open Go.ChangeShapes Go.WideShapes Go.ChangeAt Go.RowKit Kn
set_option linter.unusedSimpArgs false
set_option linter.unusedVariables false

theorem info_bools : (Tryd.prog.info? 139).map (fun i => (i.zero, i.size, i.bytes)) = some (some (.slice none 0 0), 1, 24) := by kernel_rfl
theorem info_bool : (Tryd.prog.info? 4).map (fun i => (i.zero, i.size, i.bytes)) = some (some (.bool false), 1, 1) := by kernel_rfl

theorem made_one (z : Value) (n : Nat) : madeCells #[z] n = Array.replicate n z := by
  apply Array.ext
  · simp [madeCells]
  · intro i h1 h2
    simp [madeCells, Nat.mod_one]

theorem mk_rows (n : Nat) (hn : n ≤ 40) (w : World) : (Instr.makeSlice 138 (.int .i64 ((n : Int) + 1)) (.int .i64 ((n : Int) + 1))).run Tryd.prog w = .ok (.slice (some ⟨w.heap.size, 0, none⟩) (n + 1) (n + 1)) (w.alloc (.cells (Array.replicate (n + 1) (.slice none 0 0)) 139)) := by
  obtain ⟨i0, hi, hz0, hz1, hz2⟩ := info_parts info_bools
  have h := run_make (P := Tryd.prog) w 138 139 i0 _ Tryd.underlying138 hi hz0 .i64 .i64 ((n : Int) + 1) ((n : Int) + 1) (by omega) (by omega) (by rw [hz2]; omega) (by omega)
  rw [h, show ((n : Int) + 1).toNat = n + 1 from by omega, hz1]
  show Result.ok _ (w.alloc (.cells (madeCells #[.slice none 0 0] ((n + 1) * 1)) _)) = _
  rw [made_one, Nat.mul_one]

theorem mk_row (n : Nat) (hn : n ≤ 40) (w : World) : (Instr.makeSlice 139 (.int .i64 ((n : Int) + 1)) (.int .i64 ((n : Int) + 1))).run Tryd.prog w = .ok (.slice (some ⟨w.heap.size, 0, none⟩) (n + 1) (n + 1)) (w.alloc (.cells (Array.replicate (n + 1) (.bool false)) 4)) := by
  obtain ⟨i0, hi, hz0, hz1, hz2⟩ := info_parts info_bool
  have h := run_make (P := Tryd.prog) w 139 4 i0 _ Tryd.underlying139 hi hz0 .i64 .i64 ((n : Int) + 1) ((n : Int) + 1) (by omega) (by omega) (by rw [hz2]; omega) (by omega)
  rw [h, show ((n : Int) + 1).toNat = n + 1 from by omega, hz1]
  show Result.ok _ (w.alloc (.cells (madeCells #[.bool false] ((n + 1) * 1)) _)) = _
  rw [made_one, Nat.mul_one]

theorem mk_row17 (w : World) : (Instr.makeSlice 139 (.int .i64 17) (.int .i64 17)).run Tryd.prog w = .ok (.slice (some ⟨w.heap.size, 0, none⟩) 17 17) (w.alloc (.cells (Array.replicate 17 (.bool false)) 4)) := mk_row 16 (by omega) w

theorem cs_same {w : World} {a : Addr} {v u : Value} (h : w.cell? a = some u) : (w.setCell a v).cell? a = some v := World.cell?_setCell_same _ _ _ h
theorem cs_other {w : World} {a b : Addr} {v : Value} (h : a ≠ b) : (w.setCell a v).cell? b = w.cell? b := World.cell?_setCell_other _ _ _ _ h

/-- The marks: a row of rows. -/
structure Grid (w : World) (R n : Nat) (M : Nat → Nat → Bool) : Prop where
  size : R + n + 2 ≤ w.heap.size
  row : ∀ i, i ≤ n → w.cell? ⟨R, i, none⟩ = some (.slice (some ⟨R + 1 + i, 0, none⟩) 17 17)
  cell : ∀ i h, i ≤ n → h ≤ 16 → w.cell? ⟨R + 1 + i, h, none⟩ = some (.bool (M i h))
  free : ∀ i h, i ≤ n → w.frozen? ⟨R + 1 + i, h, none⟩ = false

/-- The row of what is bad. -/
structure BadRow (w : World) (D n : Nat) (Bd : Nat → Bool) : Prop where
  size : D < w.heap.size
  cell : ∀ i, i ≤ n → w.cell? ⟨D, i, none⟩ = some (.bool (Bd i))
  free : ∀ i, w.frozen? ⟨D, i, none⟩ = false

theorem Grid.below {w w' : World} {R n : Nat} {M : Nat → Nat → Bool} (h : Grid w R n M) (hb : Below w.heap.size w w') : Grid w' R n M :=
  ⟨Nat.le_trans h.size hb.size, fun i hi => (hb.cell (p := ⟨R, i, none⟩) (by have := h.size; show R < _; omega)).trans (h.row i hi),
   fun i k hi hk => (hb.cell (p := ⟨R + 1 + i, k, none⟩) (by have := h.size; show R + 1 + i < _; omega)).trans (h.cell i k hi hk),
   fun i k hi => (hb.frozen (p := ⟨R + 1 + i, k, none⟩) (by have := h.size; show R + 1 + i < _; omega)).trans (h.free i k hi)⟩
theorem BadRow.below {w w' : World} {D n : Nat} {Bd : Nat → Bool} (h : BadRow w D n Bd) (hb : Below w.heap.size w w') : BadRow w' D n Bd :=
  ⟨Nat.lt_of_lt_of_le h.size hb.size, fun i hi => (hb.cell (p := ⟨D, i, none⟩) h.size).trans (h.cell i hi), fun i => (hb.frozen (p := ⟨D, i, none⟩) h.size).trans (h.free i)⟩

theorem Grid.mark {w : World} {R n : Nat} {M : Nat → Nat → Bool} (h : Grid w R n M) {a b : Nat} (ha : a ≤ n) (hb : b ≤ 16) : Grid (w.setCell ⟨R + 1 + a, b, none⟩ (.bool true)) R n (Kn.mark M a b) := by
  refine ⟨by have := h.size; simpa [World.setCell] using this, fun i hi => ?_, fun i k hi hk => ?_, fun i k hi => (World.frozen?_setCell _ _ _ _).trans (h.free i k hi)⟩
  · rw [World.cell?_setCell_far _ _ _ _ (by show R + 1 + a ≠ R; omega)]; exact h.row i hi
  · by_cases e : i = a ∧ k = b
    · obtain ⟨rfl, rfl⟩ := e
      rw [cs_same (h.cell i k hi hk), Kn.mark_self]
    · rw [cs_other (by intro e'; injection e' with e1 e2; exact e ⟨by omega, e2.symm⟩), h.cell i k hi hk]
      have : Kn.mark M a b i k = M i k := by unfold Kn.mark; rw [show (decide (i = a) && decide (k = b)) = false from by simpa using fun e1 e2 => e ⟨e1, e2⟩, Bool.false_or]
      rw [this]
theorem Grid.far {w : World} {R n : Nat} {M : Nat → Nat → Bool} (h : Grid w R n M) {a : Addr} {v : Value} (h1 : a.block = R + n + 2) : Grid (w.setCell a v) R n M := by
  refine ⟨by have := h.size; simpa [World.setCell] using this, fun i hi => ?_, fun i k hi hk => ?_, fun i k hi => (World.frozen?_setCell _ _ _ _).trans (h.free i k hi)⟩
  · rw [World.cell?_setCell_far _ _ _ _ (by rw [h1]; show R + n + 2 ≠ R; omega)]; exact h.row i hi
  · rw [World.cell?_setCell_far _ _ _ _ (by rw [h1]; show R + n + 2 ≠ R + 1 + i; omega)]; exact h.cell i k hi hk
theorem BadRow.far {w : World} {D n : Nat} {Bd : Nat → Bool} (h : BadRow w D n Bd) {a : Addr} {v : Value} (h1 : a.block ≠ D) : BadRow (w.setCell a v) D n Bd :=
  ⟨by have := h.size; simpa [World.setCell] using this, fun i hi => by rw [World.cell?_setCell_far _ _ _ _ h1]; exact h.cell i hi, fun i => (World.frozen?_setCell _ _ _ _).trans (h.free i)⟩
def markB (Bd : Nat → Bool) (a : Nat) : Nat → Bool := fun i => decide (i = a) || Bd i
theorem BadRow.mark {w : World} {D n : Nat} {Bd : Nat → Bool} (h : BadRow w D n Bd) {a : Nat} (ha : a ≤ n) : BadRow (w.setCell ⟨D, a, none⟩ (.bool true)) D n (markB Bd a) := by
  refine ⟨by have := h.size; simpa [World.setCell] using this, fun i hi => ?_, fun i => (World.frozen?_setCell _ _ _ _).trans (h.free i)⟩
  by_cases e : i = a
  · subst e
    rw [cs_same (h.cell i hi)]; simp [markB]
  · rw [cs_other (by intro e'; injection e' with e1 e2; exact e e2.symm), h.cell i hi]
    simp [markB, e]

/-- The rows so far. -/
structure Rows (w : World) (R n k : Nat) : Prop where
  size : w.heap.size = R + 1 + k
  done : ∀ j, j < k → w.cell? ⟨R, j, none⟩ = some (.slice (some ⟨R + 1 + j, 0, none⟩) 17 17)
  rest : ∀ j, k ≤ j → j ≤ n → w.cell? ⟨R, j, none⟩ = some (.slice none 0 0)
  free : ∀ j, w.frozen? ⟨R, j, none⟩ = false
  blk : ∀ j, j < k → w.heap[R + 1 + j]? = some (.cells (Array.replicate 17 (.bool false)) 4)

theorem rows_start (w : World) (n : Nat) : Rows (w.alloc (.cells (Array.replicate (n + 1) (.slice none 0 0)) 139)) w.heap.size n 0 := by
  have hb := (MapKept.heap_alloc w (.cells (Array.replicate (n + 1) (.slice none 0 0)) 139)).1
  refine ⟨by simp, fun j hj => by omega, fun j _ hj => ?_, fun j => ?_, fun j hj => by omega⟩
  · simp only [World.cell?, hb]
    simp [show j < n + 1 from by omega]
  · simp only [World.frozen?, hb]; simp

theorem rows_next {w : World} {R n k : Nat} (h : Rows w R n k) (hk : k ≤ n) : Rows ((w.alloc (.cells (Array.replicate 17 (.bool false)) 4)).setCell ⟨R, k, none⟩ (.slice (some ⟨R + 1 + k, 0, none⟩) 17 17)) R n (k + 1) := by
  have hs := h.size
  have hlt : R < w.heap.size := by omega
  have hc : ∀ j, (w.alloc (.cells (Array.replicate 17 (.bool false)) 4)).cell? ⟨R, j, none⟩ = w.cell? ⟨R, j, none⟩ := fun j => World.cell?_of_block (Below.heap_alloc w _ R hlt)
  refine ⟨by simp [World.setCell]; omega, fun j hj => ?_, fun j hj hj' => ?_, fun j => ?_, fun j hj => ?_⟩
  · by_cases e : j = k
    · subst e
      rw [cs_same (by rw [hc]; exact h.rest j (Nat.le_refl _) hk)]
    · rw [cs_other (by intro e'; injection e' with e1 e2; exact e e2.symm), hc]
      exact h.done j (by omega)
  · rw [cs_other (by intro e'; injection e' with e1 e2; omega), hc]
    exact h.rest j (by omega) hj'
  · rw [World.frozen?_setCell, World.frozen?_of_block (Below.heap_alloc w _ R hlt)]
    exact h.free j
  · rw [Below.heap_setCell _ _ _ _ (by show R + 1 + j ≠ R; omega)]
    by_cases e : j = k
    · subst e
      rw [← hs]; exact (MapKept.heap_alloc w _).1
    · rw [Below.heap_alloc w _ _ (by omega)]
      exact h.blk j (by omega)

theorem rows_grid {w : World} {R n : Nat} (h : Rows w R n (n + 1)) : Grid w R n (fun _ _ => false) := by
  refine ⟨by have := h.size; omega, fun i hi => h.done i (by omega), fun i k hi hk => ?_, fun i k hi => ?_⟩
  · simp only [World.cell?, h.blk i (by omega)]
    simp [show k < 17 from by omega]
  · simp only [World.frozen?, h.blk i (by omega)]; simp

theorem badRow_made (w : World) (n : Nat) : BadRow (w.alloc (.cells (Array.replicate (n + 1) (.bool false)) 4)) w.heap.size n (fun _ => false) := by
  have hb := (MapKept.heap_alloc w (.cells (Array.replicate (n + 1) (.bool false)) 4)).1
  refine ⟨by simp, fun i hi => ?_, fun i => ?_⟩
  · simp only [World.cell?, hb]
    simp [show i < n + 1 from by omega]
  · simp only [World.frozen?, hb]; simp

end Go.Proofs.YtkghmgoefiepeaaDoor.reads

/- kinref.heights: a state of its loops, and how it turns. -/
namespace Go.Proofs.YtkghmgoefiepeaaDoor.reads
open Go.ChangeShapes Go.WideShapes Go.ChangeAt Go.RowKit Kn
set_option linter.unusedSimpArgs false
set_option linter.unusedVariables false

/-- w0: the world in which the call began; b: has a mark come in this turn? u: how many were not marked when it began; D: what has been gone through in it. -/
structure St (w0 w : World) (ws : List (W × Nat)) (u : Nat) (b : Bool) (M : Nat → Nat → Bool) (Bd : Nat → Bool) (D : Nat → Nat → Prop) : Prop where
  grid : Grid w w0.heap.size ws.length M
  bad : BadRow w (w0.heap.size + ws.length + 2) ws.length Bd
  marked : Marked ws M Bd
  gone : b = true ∨ ∀ i h, D i h → Gone ws M Bd i h
  le : unm ws.length M ≤ u
  lt : b = true → unm ws.length M < u
  below : Below w0.heap.size w0 w

variable {w0 w w' : World} {ws : List (W × Nat)} {u : Nat} {b : Bool} {M : Nat → Nat → Bool} {Bd : Nat → Bool} {D D' : Nat → Nat → Prop}

theorem St.mono (h : St w0 w ws u b M Bd D) (hb : Below w.heap.size w w') : St w0 w' ws u b M Bd D :=
  ⟨h.grid.below hb, h.bad.below hb, h.marked, h.gone, h.le, h.lt, h.below.trans (hb.mono h.below.size)⟩
theorem St.weak (h : St w0 w ws u b M Bd D) (hD : ∀ i k, D' i k → b = true ∨ D i k ∨ Gone ws M Bd i k) : St w0 w ws u b M Bd D' :=
  ⟨h.grid, h.bad, h.marked, by
    rcases h.gone with e | e
    · exact .inl e
    · cases hb : b
      · right
        intro i k hd
        rcases hD i k hd with h' | h' | h'
        · rw [hb] at h'; cases h'
        · exact e i k h'
        · exact h'
      · exact .inl rfl, h.le, h.lt, h.below⟩
theorem St.restart (h : St w0 w ws u b M Bd D) : St w0 w ws (unm ws.length M) false M Bd (fun _ _ => False) :=
  ⟨h.grid, h.bad, h.marked, .inr fun _ _ hf => hf.elim, Nat.le_refl _, fun e => (by cases e), h.below⟩

theorem St.setMark (h : St w0 w ws u b M Bd D) {a k : Nat} (ha : a ≤ ws.length) (hk : k ≤ 16) (hm : M a k = false) (hr : Kn.Reach ws a k) : St w0 (w.setCell ⟨w0.heap.size + 1 + a, k, none⟩ (.bool true)) ws u true (Kn.mark M a k) Bd D' := by
  refine ⟨h.grid.mark ha hk, h.bad.far (by show w0.heap.size + 1 + a ≠ _; omega), ⟨mark_of _ _ h.marked.1, fun i j hj => ?_, h.marked.2.2⟩, .inl rfl, ?_, fun _ => ?_, h.below.setCell (by show w0.heap.size ≤ w0.heap.size + 1 + a; omega) _⟩
  · rcases mark_iff.1 hj with ⟨rfl, rfl⟩ | hj
    · exact hr
    · exact h.marked.2.1 i j hj
  · have := unm_mark ha hk hm; have := h.le; omega
  · have := unm_mark ha hk hm; have := h.le; omega

theorem gone_bad {i j a : Nat} (h : Gone ws M Bd i j) : Gone ws M (markB Bd a) i j := fun hm => ⟨(h hm).1, fun ho => by simp [markB, (h hm).2 ho]⟩

theorem St.setBad (h : St w0 w ws u b M Bd D) {a k : Nat} (ha : a < ws.length) (hm : M a k = true) (ho : ¬ okAt ws a k) : St w0 (w.setCell ⟨w0.heap.size + ws.length + 2, a, none⟩ (.bool true)) ws u b M (markB Bd a) (fun i j => D i j ∨ (i = a ∧ j = k)) := by
  refine ⟨h.grid.far rfl, h.bad.mark (by omega), ⟨h.marked.1, h.marked.2.1, fun i hi => ?_⟩, ?_, h.le, h.lt, h.below.setCell (by show w0.heap.size ≤ w0.heap.size + ws.length + 2; omega) _⟩
  · by_cases e : i = a
    · subst e; exact ⟨k, h.marked.2.1 i k hm, ho⟩
    · simp [markB, e] at hi; exact h.marked.2.2 i hi
  · rcases h.gone with e | e
    · exact .inl e
    · right
      rintro i j (hd | ⟨rfl, rfl⟩)
      · exact gone_bad (e i j hd)
      · exact fun _ => ⟨fun h' => absurd h' ho, fun _ => by simp [markB]⟩

/-- Where the words lie. -/
structure WAt (w : World) (p : Option Addr) (g : Nat) (ws : List (W × Nat)) : Prop where
  head : 1 ≤ ws.length → p = some ⟨g, 0, none⟩
  lt : 1 ≤ ws.length → g < w.heap.size
  c0 : ∀ i x, ws[i]? = some x → w.cell? ⟨g, i * 6, none⟩ = some (.int .u8 x.1.k)
  c1 : ∀ i x, ws[i]? = some x → w.cell? ⟨g, i * 6 + 1, none⟩ = some (.int .i64 x.1.n)
  c2 : ∀ i x, ws[i]? = some x → w.cell? ⟨g, i * 6 + 2, none⟩ = some (.string (ofL x.1.sel))
  c3 : ∀ i x, ws[i]? = some x → w.cell? ⟨g, i * 6 + 3, none⟩ = some (.string (ofL x.1.a))
  c4 : ∀ i x, ws[i]? = some x → w.cell? ⟨g, i * 6 + 4, none⟩ = some (.string (ofL x.1.b))
  c5 : ∀ i x, ws[i]? = some x → w.cell? ⟨g, i * 6 + 5, none⟩ = some (.int .i64 (x.2 : Nat))

theorem WAt.below {p : Option Addr} {g : Nat} (h : WAt w p g ws) {B : Nat} (hB : w.heap.size ≤ B) (hb : Below B w w') : WAt w' p g ws := by
  have hc : ∀ i x o, ws[i]? = some x → w'.cell? ⟨g, o, none⟩ = w.cell? ⟨g, o, none⟩ := fun i x o hx => hb.cell (p := ⟨g, o, none⟩) (by
    have : 1 ≤ ws.length := by have := (List.getElem?_eq_some_iff.1 hx).1; omega
    have := h.lt this
    show g < B; omega)
  exact ⟨h.head, fun e => Nat.lt_of_lt_of_le (h.lt e) hb.size, fun i x hx => (hc i x _ hx).trans (h.c0 i x hx), fun i x hx => (hc i x _ hx).trans (h.c1 i x hx), fun i x hx => (hc i x _ hx).trans (h.c2 i x hx),
    fun i x hx => (hc i x _ hx).trans (h.c3 i x hx), fun i x hx => (hc i x _ hx).trans (h.c4 i x hx), fun i x hx => (hc i x _ hx).trans (h.c5 i x hx)⟩

theorem cellsWs_get : ∀ (l : List (W × Nat)) (i : Nat) (x : W × Nat) (c : Nat), l[i]? = some x → c < 6 → (cellsWs l)[i * 6 + c]? = (cellsW x)[c]?
  | [], i, x, c, h, _ => by simp at h
  | y :: r, 0, x, c, h, hc => by
    simp at h; subst h
    rw [Nat.zero_mul, Nat.zero_add]
    show (cellsW y ++ cellsWs r)[c]? = _
    exact List.getElem?_append_left (by simpa [cellsW] using hc)
  | y :: r, i + 1, x, c, h, hc => by
    have ih := cellsWs_get r i x c (by simpa using h) hc
    show (cellsW y ++ cellsWs r)[(i + 1) * 6 + c]? = _
    rw [List.getElem?_append_right (by simp [cellsW]; omega)]
    rw [show (i + 1) * 6 + c - (cellsW y).length = i * 6 + c from by simp [cellsW]; omega]
    exact ih

theorem wAt_owns {B : Nat} {e : TypeId} {v : Value} (h : w.ownsRow B e 6 v ws.length (cellsWs ws)) : ∃ p g cap, v = .slice p ws.length cap ∧ WAt w p g ws := by
  have hc := fun g hg => h.cells (g := g) hg
  rcases h.2 with ⟨rfl, h0⟩ | ⟨g, cap, cur, rfl, hb, hg, hn, _⟩
  · refine ⟨none, 0, 0, by rw [h0], ⟨fun e => by omega, fun e => by omega, ?_, ?_, ?_, ?_, ?_, ?_⟩⟩
    all_goals
      intro i x hx
      have := (List.getElem?_eq_some_iff.1 hx).1
      omega
  · have key : ∀ i x c u, ws[i]? = some x → c < 6 → (cellsW x)[c]? = some u → w.cell? ⟨g, i * 6 + c, none⟩ = some u := by
      intro i x c u hx hcc hu
      have := hc g rfl (i * 6 + c) u (by rw [cellsWs_get ws i x c hx hcc]; exact hu)
      have hadd : (⟨g, 0, none⟩ : Addr).add (i * 6 + c) = ⟨g, i * 6 + c, none⟩ := by unfold Addr.add; split <;> simp_all
      rw [hadd] at this
      exact this
    exact ⟨some ⟨g, 0, none⟩, g, cap, rfl, ⟨fun _ => rfl, fun _ => (Array.getElem?_eq_some_iff.1 hg).1, fun i x hx => key i x 0 _ hx (by omega) rfl, fun i x hx => key i x 1 _ hx (by omega) rfl, fun i x hx => key i x 2 _ hx (by omega) rfl,
      fun i x hx => key i x 3 _ hx (by omega) rfl, fun i x hx => key i x 4 _ hx (by omega) rfl, fun i x hx => key i x 5 _ hx (by omega) rfl⟩⟩

/-- What is known of a word's numbers. -/
structure Fine (x : W) (n : Nat) : Prop where
  kind : x.k ∈ kinds
  lo : -10000 < x.n
  hi : x.n < 10000
  send : x.k = 115 ∨ x.k = 94 → 0 ≤ x.n ∧ x.n ≤ 3
  goto : x.k = 62 ∨ x.k = 63 → 0 ≤ x.n ∧ x.n ≤ n

theorem fine_takes {x : W} {n : Nat} (h : Fine x n) : 0 ≤ (takesOf x.k x.n).1 ∧ (takesOf x.k x.n).1 ≤ 4 ∧ 0 ≤ (takesOf x.k x.n).2 ∧ (takesOf x.k x.n).2 ≤ 2 := by
  have hs := h.send
  unfold takesOf
  split
  · simp
  · split
    · simp
    · split
      · simp
      · split
        · simp
        · split
          · rename_i e
            have := hs (.inl e)
            simp; omega
          · split
            · rename_i e
              have := hs (.inr e)
              simp; omega
            · split <;> simp

theorem fine_goes {x : W} {n i : Nat} (h : Fine x n) (hi : i < n) : ∀ t ∈ goesOf x.k x.n i, 0 ≤ t ∧ t ≤ n := by
  have hg := h.goto
  unfold goesOf
  intro t ht
  split at ht
  · cases ht
  · split at ht
    · simp at ht; subst ht; exact hg (by omega)
    · split at ht
      · simp at ht
        rcases ht with rfl | rfl
        · omega
        · exact hg (by omega)
      · simp at ht; subst ht; omega

end Go.Proofs.YtkghmgoefiepeaaDoor.reads
