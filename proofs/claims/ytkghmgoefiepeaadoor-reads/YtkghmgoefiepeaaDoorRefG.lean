/- kinref.Read: one word. -/
import Derived.Test.YtkghmgoefiepeaaDoorRefF
namespace Go.Proofs.YtkghmgoefiepeaaDoor.reads
open Go.ChangeShapes Go.WideShapes Go.ChangeAt Go.RowKit Kn
set_option linter.unusedSimpArgs false
set_option linter.unusedVariables false
attribute [local go_sem ↓] Go.wp_at_zero Go.wp_at_succ

def IsRd (s : ByteArray) (e : Ending) : Prop := ∃ x : W, e = .returned (.tuple #[encW x 0, .bool (rd (bl s)).isSome]) ∧ ∀ y, rd (bl s) = some y → x = y

theorem isRd_mk {s : ByteArray} {e : Ending} (x : W) (b : Bool) (h : rd (bl s) = if b = true then some x else none) (he : e = .returned (.tuple #[encW x 0, .bool b])) : IsRd s e := by
  refine ⟨x, ?_, ?_⟩
  · rw [he, h]; cases b <;> rfl
  · intro y hy; rw [h] at hy; cases b
    · cases hy
    · injection hy

theorem below6 {B : Nat} {w w1 : World} (h : Below B w w1) {b : Nat} (hb : B ≤ b) (v0 v1 v2 v3 v4 v5 : Value) :
    Below B w ((((((w1.setCell ⟨b, 0, none⟩ v0).setCell ⟨b, 1, none⟩ v1).setCell ⟨b, 2, none⟩ v2).setCell ⟨b, 3, none⟩ v3).setCell ⟨b, 4, none⟩ v4).setCell ⟨b, 5, none⟩ v5) :=
  (((((h.setCell hb _).setCell hb _).setCell hb _).setCell hb _).setCell hb _).setCell hb _

theorem size6 {w1 : World} {b : Nat} (v0 v1 v2 v3 v4 v5 : Value) :
    ((((((w1.setCell ⟨b, 0, none⟩ v0).setCell ⟨b, 1, none⟩ v1).setCell ⟨b, 2, none⟩ v2).setCell ⟨b, 3, none⟩ v3).setCell ⟨b, 4, none⟩ v4).setCell ⟨b, 5, none⟩ v5).heap.size = w1.heap.size := by
  simp [World.setCell]

theorem block6 {w1 : World} {b c : Nat} (hbc : c ≠ b) (v0 v1 v2 v3 v4 v5 : Value) :
    ((((((w1.setCell ⟨b, 0, none⟩ v0).setCell ⟨b, 1, none⟩ v1).setCell ⟨b, 2, none⟩ v2).setCell ⟨b, 3, none⟩ v3).setCell ⟨b, 4, none⟩ v4).setCell ⟨b, 5, none⟩ v5).heap[c]? = w1.heap[c]? := by
  rw [Below.heap_setCell _ _ _ _ hbc, Below.heap_setCell _ _ _ _ hbc, Below.heap_setCell _ _ _ _ hbc, Below.heap_setCell _ _ _ _ hbc, Below.heap_setCell _ _ _ _ hbc, Below.heap_setCell _ _ _ _ hbc]

end Go.Proofs.YtkghmgoefiepeaaDoor.reads
