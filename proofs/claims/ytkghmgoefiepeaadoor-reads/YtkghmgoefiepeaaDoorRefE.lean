/- kinref.named: the words that name two classes, or a class and a selector. -/
import Derived.Test.YtkghmgoefiepeaaDoorRefD
import Derived.StillTailTactics
namespace Go.Proofs.YtkghmgoefiepeaaDoor.reads
open Go.ChangeShapes Go.WideShapes Go.ChangeAt Go.RowKit Kn
set_option linter.unusedSimpArgs false
set_option linter.unusedVariables false
attribute [local go_sem ↓] Go.wp_at_zero Go.wp_at_succ

theorem own_shape {w : World} {B : Nat} {e : TypeId} {v : Value} {ys : List ByteArray} (h : w.ownsRow B e 1 v ys.length (ys.map Value.string)) (hne : ys ≠ []) :
    ∃ g cap, v = .slice (some ⟨g, 0, none⟩) ys.length cap ∧ B ≤ g ∧ ys.length ≤ cap ∧ ∀ j y, ys[j]? = some y → w.cell? ⟨g, j, none⟩ = some (.string y) := by
  have hc := fun g hg => h.cells (g := g) hg
  rcases h.2 with ⟨rfl, h0⟩ | ⟨g, cap, cur, rfl, hb, hg, hn, _⟩
  · exact absurd (List.eq_nil_of_length_eq_zero h0) hne
  · refine ⟨g, cap, rfl, hb, hn, fun j y hy => ?_⟩
    have := hc g rfl j (.string y) (by rw [List.getElem?_map, hy]; rfl)
    have hadd : (⟨g, 0, none⟩ : Addr).add j = ⟨g, j, none⟩ := by unfold Addr.add; split <;> simp_all
    rw [hadd] at this
    exact this

theorem pre_excl {a b : UInt8} {r q l : List UInt8} (h : List.isPrefixOf (a :: r) l = true) (hne : a ≠ b) : List.isPrefixOf (b :: q) l = false := by
  cases l with
  | nil => rfl
  | cons c t =>
    simp only [List.isPrefixOf, Bool.and_eq_true, beq_iff_eq] at h
    have : (b == c) = false := by rw [← h.1]; exact beq_eq_false_iff_ne.2 (Ne.symm hne)
    simp [List.isPrefixOf, this]

theorem rdNamed_rest (l : List UInt8) (g1 : List.isPrefixOf [110, 101, 119, 58] l = false) (g2 : List.isPrefixOf [98, 101, 58] l = false) (h5 : ¬ l.length < 5) :
    rdNamed l = namedRest l (splitDots (l.drop 5)) := by
  unfold rdNamed
  rw [if_neg (by rw [g1]; simp), if_neg (by rw [g2]; simp), if_neg h5]

set_option maxHeartbeats 1000000 in
theorem named_short (s : ByteArray) (w : World) (hs : s.size < 5) (g1 : List.isPrefixOf [110, 101, 119, 58] (bl s) = false) (g2 : List.isPrefixOf [98, 101, 58] (bl s) = false) :
    Calls Tryd.prog 58 #[.string s] w fun e w' => Named s e ∧ Below w.heap.size w w' := by
  have HR : Hid (rdNamed (bl s) = none) := by
    have hx : rdNamed (bl s) = none := by
      unfold rdNamed
      rw [if_neg (by rw [g1]; simp), if_neg (by rw [g2]; simp), if_pos (by rw [bl_length]; exact hs)]
    exact hx
  have G1 : Hid (List.isPrefixOf [110, 101, 119, 58] (bl s) = false) := g1
  have G2 : Hid (List.isPrefixOf [98, 101, 58] (bl s) = false) := g2
  clear g1 g2
  go_enter Tryd.func58, Tryd.ntmps58
  go_wp2_with fail
  refine (begins_c s [110, 101, 119, 58] false _ (by omega) (by simp) G1.out).mono ?_
  rintro e w1 ⟨rfl, rfl⟩
  go_wp2_with fail
  refine (begins_c s [98, 101, 58] false _ (by omega) (by simp) G2.out).mono ?_
  rintro e w1 ⟨rfl, rfl⟩
  go_wp2
  refine bodyPost_ret (v := .tuple #[.agg #[.int .u8 0, .int .i64 0, .string ⟨#[]⟩, .string ⟨#[]⟩, .string ⟨#[]⟩, .int .i64 0], .bool false]) (by simp [results, Tryd.results58, go_sem]) rfl ⟨named_mk w0 false (by rw [HR.out]; rfl) rfl, ?_⟩
  repeat (first | exact Below.refl _ _ | refine Below.drew ?_ | refine Below.alloc ?_ (Nat.le_refl _) _ | refine Below.setCell ?_ (Nat.le_refl _) _)

theorem cells6 {w : World} {b : Nat} {t : TypeId} {x0 x1 x2 x3 x4 x5 : Value} (h : w.heap[b]? = some (.cells #[x0, x1, x2, x3, x4, x5] t)) :
    w.cell? ⟨b, 0, none⟩ = some x0 ∧ w.cell? ⟨b, 1, none⟩ = some x1 ∧ w.cell? ⟨b, 2, none⟩ = some x2 ∧ w.cell? ⟨b, 3, none⟩ = some x3 ∧ w.cell? ⟨b, 4, none⟩ = some x4 ∧ w.cell? ⟨b, 5, none⟩ = some x5 ∧ ∀ o, w.frozen? ⟨b, o, none⟩ = false := by
  refine ⟨?_, ?_, ?_, ?_, ?_, ?_, ?_⟩ <;> simp [World.cell?, World.frozen?, h]

theorem className_b (s : ByteArray) (b : Bool) (w : World) (hs : s.size ≤ maxLen) (h : className (bl s) = b) :
    Calls Tryd.prog 14 #[.string s] w fun e w' => e = .returned (.bool b) ∧ w' = w := by
  rw [← h]; exact className_any s w hs
theorem selector_b (s : ByteArray) (b : Bool) (w : World) (hs : s.size ≤ maxLen) (h : selector (bl s) = b) :
    Calls Tryd.prog 24 #[.string s] w fun e w' => e = .returned (.bool b) ∧ w' = w := by
  rw [← h]; exact selector_any s w hs

end Go.Proofs.YtkghmgoefiepeaaDoor.reads
