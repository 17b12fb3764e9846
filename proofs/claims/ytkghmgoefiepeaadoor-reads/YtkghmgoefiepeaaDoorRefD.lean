/- kinref.named: the words that name classes. -/
import Derived.Test.YtkghmgoefiepeaaDoorRefB
import Derived.Deep.RegionWith
import Derived.Deep.RegionHeld3
import Derived.Deep.DrawnRows
namespace Go.Proofs.YtkghmgoefiepeaaDoor.reads
open Go.ChangeShapes Go.WideShapes Go.ChangeAt Go.RowKit Kn
set_option linter.unusedSimpArgs false
set_option linter.unusedVariables false
attribute [local go_sem ↓] Go.wp_at_zero Go.wp_at_succ

theorem begins_c (s : ByteArray) (l : List UInt8) (b : Bool) (w : World) (hs : s.size ≤ 120) (hl : l.length ≤ 120) (h : List.isPrefixOf l (bl s) = b) :
    Calls Tryd.prog 65 #[.string s, .string ⟨l.toArray⟩] w fun e w' => e = .returned (.bool b) ∧ w' = w := by
  rw [← h]
  exact begins_any s ⟨l.toArray⟩ w (by unfold maxLen; omega) (by unfold maxLen; show l.length ≤ _; omega)

def Named (s : ByteArray) (e : Ending) : Prop := ∃ x : W, e = .returned (.tuple #[encW x 0, .bool (rdNamed (bl s)).isSome]) ∧ ∀ y, rdNamed (bl s) = some y → x = y

theorem named_mk {s : ByteArray} {e : Ending} (x : W) (b : Bool) (h : rdNamed (bl s) = if b = true then some x else none) (he : e = .returned (.tuple #[encW x 0, .bool b])) : Named s e := by
  refine ⟨x, ?_, ?_⟩
  · rw [he, h]; cases b <;> rfl
  · intro y hy; rw [h] at hy; cases b
    · cases hy
    · injection hy

set_option maxHeartbeats 1000000 in
theorem named_new (s : ByteArray) (w : World) (hs : s.size ≤ 120) (h : List.isPrefixOf [110, 101, 119, 58] (bl s) = true) :
    Calls Tryd.prog 58 #[.string s] w fun e w' => Named s e ∧ Below w.heap.size w w' := by
  have hlen : 4 ≤ s.size := (List.isPrefixOf_iff_prefix.1 h).length_le
  have HR : Hid (rdNamed (bl s) = if className ((bl s).drop 4) = true then some ⟨119, 0, [], (bl s).drop 4, []⟩ else none) := by
    have hx : rdNamed (bl s) = if className ((bl s).drop 4) = true then some ⟨119, 0, [], (bl s).drop 4, []⟩ else none := by unfold rdNamed; rw [if_pos h]
    exact hx
  have H : Hid (List.isPrefixOf [110, 101, 119, 58] (bl s) = true) := h
  clear h
  have hcn : bl (s.extract 4 s.size) = (bl s).drop 4 := by rw [ex_drop]
  have HC : Hid (bl (s.extract 4 s.size) = (bl s).drop 4) := hcn
  clear hcn
  go_enter Tryd.func58, Tryd.ntmps58
  go_wp2_with fail
  refine (begins_c s [110, 101, 119, 58] true _ hs (by simp) H.out).mono ?_
  rintro e w1 ⟨rfl, rfl⟩
  go_wp2
  go_region_with (go_at_call 14; refine (className_any _ _ (by unfold maxLen; simp; omega)).mono ?_; rintro e w' ⟨rfl, rfl⟩)
  all_goals go_wp2
  all_goals
    refine bodyPost_ret (v := .tuple #[.agg #[.int .u8 119, .int .i64 0, .string ⟨#[]⟩, .string (s.extract 4 s.size), .string ⟨#[]⟩, .int .i64 0], .bool (className (bl (s.extract 4 s.size)))]) (by simp [results, Tryd.results58, go_sem]) rfl ⟨named_mk ⟨119, 0, [], (bl s).drop 4, []⟩ (className ((bl s).drop 4)) HR.out ?_, ?_⟩
    · rw [HC.out, ex_drop]; rfl
    · repeat (first | exact Below.refl _ _ | refine Below.drew ?_ | refine Below.alloc ?_ (Nat.le_refl _) _ | refine Below.setCell ?_ (Nat.le_refl _) _)

set_option maxHeartbeats 1000000 in
theorem named_be (s : ByteArray) (w : World) (hs : s.size ≤ 120) (g : List.isPrefixOf [110, 101, 119, 58] (bl s) = false) (h : List.isPrefixOf [98, 101, 58] (bl s) = true) :
    Calls Tryd.prog 58 #[.string s] w fun e w' => Named s e ∧ Below w.heap.size w w' := by
  have hlen : 3 ≤ s.size := (List.isPrefixOf_iff_prefix.1 h).length_le
  have HR : Hid (rdNamed (bl s) = if className ((bl s).drop 3) = true then some ⟨98, 0, [], (bl s).drop 3, []⟩ else none) := by
    have hx : rdNamed (bl s) = if className ((bl s).drop 3) = true then some ⟨98, 0, [], (bl s).drop 3, []⟩ else none := by unfold rdNamed; rw [if_neg (by rw [g]; simp), if_pos h]
    exact hx
  have H : Hid (List.isPrefixOf [98, 101, 58] (bl s) = true) := h
  clear h
  have G : Hid (List.isPrefixOf [110, 101, 119, 58] (bl s) = false) := g
  clear g
  have hcn : bl (s.extract 3 s.size) = (bl s).drop 3 := by rw [ex_drop]
  have HC : Hid (bl (s.extract 3 s.size) = (bl s).drop 3) := hcn
  clear hcn
  go_enter Tryd.func58, Tryd.ntmps58
  go_wp2_with fail
  refine (begins_c s [110, 101, 119, 58] false _ hs (by simp) G.out).mono ?_
  rintro e w1 ⟨rfl, rfl⟩
  go_wp2_with fail
  refine (begins_c s [98, 101, 58] true _ hs (by simp) H.out).mono ?_
  rintro e w1 ⟨rfl, rfl⟩
  go_wp2
  go_region_with (go_at_call 14; refine (className_any _ _ (by unfold maxLen; simp; omega)).mono ?_; rintro e w' ⟨rfl, rfl⟩)
  all_goals go_wp2
  all_goals
    refine bodyPost_ret (v := .tuple #[.agg #[.int .u8 98, .int .i64 0, .string ⟨#[]⟩, .string (s.extract 3 s.size), .string ⟨#[]⟩, .int .i64 0], .bool (className (bl (s.extract 3 s.size)))]) (by simp [results, Tryd.results58, go_sem]) rfl ⟨named_mk ⟨98, 0, [], (bl s).drop 3, []⟩ (className ((bl s).drop 3)) HR.out ?_, ?_⟩
    · rw [HC.out, ex_drop]; rfl
    · repeat (first | exact Below.refl _ _ | refine Below.drew ?_ | refine Below.alloc ?_ (Nat.le_refl _) _ | refine Below.setCell ?_ (Nat.le_refl _) _)

end Go.Proofs.YtkghmgoefiepeaaDoor.reads
