/- kin: what a kind of word does: the table; takes, namesSlot. -/
import Derived.Test.YtkghmgoefiepeaaDoorKinK
namespace Go.Proofs.YtkghmgoefiepeaaDoor.reads
open Go.ChangeShapes Go.WideShapes Go.ChangeAt Go.RowKit Kn
set_option linter.unusedSimpArgs false
set_option linter.unusedVariables false

theorem _root_.Go.RowKit.Below.drewN' {B : Nat} {a w : World} (h : Below B a w) (n : Nat) : Below B a (w.drewN n) := ⟨h.os, h.tape, h.output, h.size, h.block⟩

/-- The rows of the table: takes, lays, sends, jumps, stays. -/
def effTab : List (Nat × Nat × Bool × Bool × Bool) :=
  [(0, 0, false, false, false), (0, 1, false, false, false), (0, 1, false, false, false), (0, 1, false, false, false), (0, 1, false, false, false), (1, 0, false, false, false),
   (2, 1, false, false, false), (2, 1, false, false, false), (2, 1, false, false, false), (2, 1, false, false, false), (2, 1, false, false, false), (1, 0, false, false, false), (1, 2, false, false, false),
   (0, 0, false, true, true), (1, 0, false, true, false), (1, 1, true, false, false), (0, 1, true, false, false), (0, 1, false, false, false), (1, 1, false, false, false), (0, 0, false, false, false),
   (0, 0, false, false, false), (0, 0, false, false, false), (1, 0, false, false, true)]
structure EffAt (w : World) (k t l : Nat) (sd jp st : Bool) : Prop where
  c0 : w.cell? ⟨0, k * 5, none⟩ = some (.int .i64 t)
  c1 : w.cell? ⟨0, k * 5 + 1, none⟩ = some (.int .i64 l)
  c2 : w.cell? ⟨0, k * 5 + 2, none⟩ = some (.bool sd)
  c3 : w.cell? ⟨0, k * 5 + 3, none⟩ = some (.bool jp)
  c4 : w.cell? ⟨0, k * 5 + 4, none⟩ = some (.bool st)
def HasEff (w : World) : Prop := ∀ k t l sd jp st, effTab[k]? = some (t, l, sd, jp, st) → EffAt w k t l sd jp st
theorem HasEff.below {w w' : World} (h : HasEff w) {B : Nat} (hB : 0 < B) (hb : Below B w w') : HasEff w' := fun k t l sd jp st hk =>
  have hx := h k t l sd jp st hk
  ⟨(hb.cell (p := ⟨0, _, none⟩) hB).trans hx.c0, (hb.cell (p := ⟨0, _, none⟩) hB).trans hx.c1, (hb.cell (p := ⟨0, _, none⟩) hB).trans hx.c2,
   (hb.cell (p := ⟨0, _, none⟩) hB).trans hx.c3, (hb.cell (p := ⟨0, _, none⟩) hB).trans hx.c4⟩

def slotB (k : Nat) : Bool := decide (k = 4) || decide (k = 5)
set_option maxHeartbeats 1000000 in
theorem namesSlot_any (k : Nat) (n : Int) (t2 t3 t4 : ByteArray) (w : World) {q : Option Addr} :
    Calls Tryd.prog 36 #[.agg #[.int .i64 k, .int .i64 n, .string t2, .string t3, .string t4, .pointer q]] w fun e w' => e = .returned (.bool (slotB k)) ∧ Below w.heap.size w w' := by
  by_cases h4 : k = 4
  · subst h4
    go_enter Tryd.func36, Tryd.ntmps36
    go_wp2
    go_ret
    exact ⟨rfl, (Below.refl _ _).alloc (Nat.le_refl _) _⟩
  · have t4' : ((k : Int) == 4) = false := by simp; omega
    by_cases h5 : k = 5
    · subst h5
      clear h4 t4'
      go_enter Tryd.func36, Tryd.ntmps36
      go_wp2
      go_ret
      exact ⟨rfl, (Below.refl _ _).alloc (Nat.le_refl _) _⟩
    · have t5' : ((k : Int) == 5) = false := by simp; omega
      have HS : Hid (slotB k = false) := by
        have hx : slotB k = false := by simp [slotB, h4, h5]
        exact hx
      clear h4 h5
      go_enter Tryd.func36, Tryd.ntmps36
      go_wp2
      go_ret
      exact ⟨by rw [HS.out]; rfl, (Below.refl _ _).alloc (Nat.le_refl _) _⟩

/-- How many values a word of a row takes. -/
def effTakes (t : Nat) (sd : Bool) (n : Int) : Int := if sd then t + n else t
set_option maxHeartbeats 1000000 in
theorem ktakes_any (k t l : Nat) (sd jp st : Bool) (n : Int) (t2 t3 t4 : ByteArray) (w : World) (hk : k < 23) (ht : t ≤ 2) (hn1 : -10000 < n) (hn2 : n < 10000) (hg : 0 < w.heap.size) (h : EffAt w k t l sd jp st) :
    Calls Tryd.prog 52 #[.agg #[.int .i64 k, .int .i64 n, .string t2, .string t3, .string t4, .pointer none]] w fun e w' => e = .returned (.int .i64 (effTakes t sd n)) ∧ Below w.heap.size w w' := by
  have c0 := h.c0
  have c2 := h.c2
  clear h
  cases sd
  · go_enter Tryd.func52, Tryd.ntmps52
    go_wp2
    go_ret
    exact ⟨rfl, (Below.refl _ _).alloc (Nat.le_refl _) _⟩
  · go_enter Tryd.func52, Tryd.ntmps52
    go_wp2
    go_quiet (fail)
    go_wp2
    go_ret
    exact ⟨rfl, ((Below.refl _ _).alloc (Nat.le_refl _) _).drewN' _⟩

end Go.Proofs.YtkghmgoefiepeaaDoor.reads
