/- kinref's readers of one word. -/
import Derived.Test.YtkghmgoefiepeaaDoorRefA
import Derived.Test.YtkghmgoefiepeaaDoorSpecA
namespace Go.Proofs.YtkghmgoefiepeaaDoor.reads
open Go.ChangeShapes Go.WideShapes Go.ChangeAt Go.RowKit Kn
set_option linter.unusedSimpArgs false
set_option linter.unusedVariables false

theorem ba_eq {s : ByteArray} {l : List UInt8} (h : bl s = l) : s = ofL l := by rw [← h]
theorem ba_ne {s : ByteArray} {l : List UInt8} (h : ¬ bl s = l) : (s.toList == l) = false := by
  rw [ByteArray.toList_eq]
  exact beq_eq_false_iff_ne.2 h

set_option maxHeartbeats 1000000 in
theorem plain_any (s : ByteArray) (w : World) (hs : s.size ≤ maxLen) :
    Calls Tryd.prog 57 #[.string s] w fun e w' => e = .returned (.tuple #[encW ((rdPlain (bl s)).getD w0) 0, .bool (rdPlain (bl s)).isSome]) ∧ Below w.heap.size w w' := by
  unfold maxLen at hs
  by_cases h0 : bl s = [115, 101, 108, 102]
  · obtain rfl := ba_eq h0
    clear hs h0
    go_enter Tryd.func57, Tryd.ntmps57
    go_wp2
    exact bodyPost_ret (v := .tuple #[.agg #[.int .u8 109, .int .i64 0, .string ⟨#[]⟩, .string ⟨#[]⟩, .string ⟨#[]⟩, .int .i64 0], .bool true]) (by simp [results, Tryd.results57, go_sem] <;> rfl) rfl ⟨rfl, ((Below.refl _ _).alloc (Nat.le_refl _) _)⟩
  by_cases h1 : bl s = [112, 111, 112]
  · obtain rfl := ba_eq h1
    clear hs h0 h1
    go_enter Tryd.func57, Tryd.ntmps57
    go_wp2
    exact bodyPost_ret (v := .tuple #[.agg #[.int .u8 111, .int .i64 0, .string ⟨#[]⟩, .string ⟨#[]⟩, .string ⟨#[]⟩, .int .i64 0], .bool true]) (by simp [results, Tryd.results57, go_sem] <;> rfl) rfl ⟨rfl, ((Below.refl _ _).alloc (Nat.le_refl _) _)⟩
  by_cases h2 : bl s = [100, 117, 112]
  · obtain rfl := ba_eq h2
    clear hs h0 h1 h2
    go_enter Tryd.func57, Tryd.ntmps57
    go_wp2
    exact bodyPost_ret (v := .tuple #[.agg #[.int .u8 100, .int .i64 0, .string ⟨#[]⟩, .string ⟨#[]⟩, .string ⟨#[]⟩, .int .i64 0], .bool true]) (by simp [results, Tryd.results57, go_sem] <;> rfl) rfl ⟨rfl, ((Below.refl _ _).alloc (Nat.le_refl _) _)⟩
  by_cases h3 : bl s = [114, 101, 116]
  · obtain rfl := ba_eq h3
    clear hs h0 h1 h2 h3
    go_enter Tryd.func57, Tryd.ntmps57
    go_wp2
    exact bodyPost_ret (v := .tuple #[.agg #[.int .u8 114, .int .i64 0, .string ⟨#[]⟩, .string ⟨#[]⟩, .string ⟨#[]⟩, .int .i64 0], .bool true]) (by simp [results, Tryd.results57, go_sem] <;> rfl) rfl ⟨rfl, ((Below.refl _ _).alloc (Nat.le_refl _) _)⟩
  by_cases h4 : bl s = [43]
  · obtain rfl := ba_eq h4
    clear hs h0 h1 h2 h3 h4
    go_enter Tryd.func57, Tryd.ntmps57
    go_wp2
    exact bodyPost_ret (v := .tuple #[.agg #[.int .u8 43, .int .i64 0, .string ⟨#[]⟩, .string ⟨#[]⟩, .string ⟨#[]⟩, .int .i64 0], .bool true]) (by simp [results, Tryd.results57, go_sem] <;> rfl) rfl ⟨rfl, ((Below.refl _ _).alloc (Nat.le_refl _) _)⟩
  by_cases h5 : bl s = [45]
  · obtain rfl := ba_eq h5
    clear hs h0 h1 h2 h3 h4 h5
    go_enter Tryd.func57, Tryd.ntmps57
    go_wp2
    exact bodyPost_ret (v := .tuple #[.agg #[.int .u8 45, .int .i64 0, .string ⟨#[]⟩, .string ⟨#[]⟩, .string ⟨#[]⟩, .int .i64 0], .bool true]) (by simp [results, Tryd.results57, go_sem] <;> rfl) rfl ⟨rfl, ((Below.refl _ _).alloc (Nat.le_refl _) _)⟩
  by_cases h6 : bl s = [42]
  · obtain rfl := ba_eq h6
    clear hs h0 h1 h2 h3 h4 h5 h6
    go_enter Tryd.func57, Tryd.ntmps57
    go_wp2
    exact bodyPost_ret (v := .tuple #[.agg #[.int .u8 42, .int .i64 0, .string ⟨#[]⟩, .string ⟨#[]⟩, .string ⟨#[]⟩, .int .i64 0], .bool true]) (by simp [results, Tryd.results57, go_sem] <;> rfl) rfl ⟨rfl, ((Below.refl _ _).alloc (Nat.le_refl _) _)⟩
  by_cases h7 : bl s = [60]
  · obtain rfl := ba_eq h7
    clear hs h0 h1 h2 h3 h4 h5 h6 h7
    go_enter Tryd.func57, Tryd.ntmps57
    go_wp2
    exact bodyPost_ret (v := .tuple #[.agg #[.int .u8 60, .int .i64 0, .string ⟨#[]⟩, .string ⟨#[]⟩, .string ⟨#[]⟩, .int .i64 0], .bool true]) (by simp [results, Tryd.results57, go_sem] <;> rfl) rfl ⟨rfl, ((Below.refl _ _).alloc (Nat.le_refl _) _)⟩
  by_cases h8 : bl s = [61]
  · obtain rfl := ba_eq h8
    clear hs h0 h1 h2 h3 h4 h5 h6 h7 h8
    go_enter Tryd.func57, Tryd.ntmps57
    go_wp2
    exact bodyPost_ret (v := .tuple #[.agg #[.int .u8 61, .int .i64 0, .string ⟨#[]⟩, .string ⟨#[]⟩, .string ⟨#[]⟩, .int .i64 0], .bool true]) (by simp [results, Tryd.results57, go_sem] <;> rfl) rfl ⟨rfl, ((Below.refl _ _).alloc (Nat.le_refl _) _)⟩
  have HN : Hid (rdPlain (bl s) = none) := by
    have hx : rdPlain (bl s) = none := by unfold rdPlain; rw [if_neg h0, if_neg h1, if_neg h2, if_neg h3, if_neg h4, if_neg h5, if_neg h6, if_neg h7, if_neg h8]
    exact hx
  have g0 := ba_ne h0
  have g1 := ba_ne h1
  have g2 := ba_ne h2
  have g3 := ba_ne h3
  have g4 := ba_ne h4
  have g5 := ba_ne h5
  have g6 := ba_ne h6
  have g7 := ba_ne h7
  have g8 := ba_ne h8
  clear h0 h1 h2 h3 h4 h5 h6 h7 h8
  go_enter Tryd.func57, Tryd.ntmps57
  go_wp2
  rw [HN.out]
  exact bodyPost_ret (v := .tuple #[.agg #[.int .u8 0, .int .i64 0, .string ⟨#[]⟩, .string ⟨#[]⟩, .string ⟨#[]⟩, .int .i64 0], .bool false]) (by simp [results, Tryd.results57, go_sem] <;> rfl) rfl ⟨rfl, ((Below.refl _ _).alloc (Nat.le_refl _) _)⟩

end Go.Proofs.YtkghmgoefiepeaaDoor.reads
