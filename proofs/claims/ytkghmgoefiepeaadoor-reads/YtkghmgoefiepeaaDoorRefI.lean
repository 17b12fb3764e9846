/- kinref.Takes, kinref.goes. -/
import Derived.Test.YtkghmgoefiepeaaDoorRefH
import Derived.Test.YtkghmgoefiepeaaDoorSpecA
namespace Go.Proofs.YtkghmgoefiepeaaDoor.reads
open Go.ChangeShapes Go.WideShapes Go.ChangeAt Go.RowKit Kn
set_option linter.unusedSimpArgs false
set_option linter.unusedVariables false

set_option maxHeartbeats 4000000 in
theorem takes_any (k : Nat) (n : Int) (a b c : ByteArray) (t : Int) (w : World) (hk : k ∈ kinds) (hn1 : -10000 < n) (hn2 : n < 10000) :
    Calls Tryd.prog 61 #[.agg #[.int .u8 k, .int .i64 n, .string a, .string b, .string c, .int .i64 t]] w fun e w' =>
      e = .returned (.tuple #[.int .i64 (takesOf k n).1, .int .i64 (takesOf k n).2]) ∧ Below w.heap.size w w' := by
  simp only [kinds, List.mem_cons, List.not_mem_nil, or_false] at hk
  rcases hk with rfl | rfl | rfl | rfl | rfl | rfl | rfl | rfl | rfl | rfl | rfl | rfl | rfl | rfl | rfl | rfl | rfl | rfl | rfl | rfl | rfl | rfl
  all_goals
    go_enter Tryd.func61, Tryd.ntmps61
    go_wp2
    go_ret2
    exact ⟨rfl, (Below.refl _ _).alloc (Nat.le_refl _) _⟩

def IntsAt (B : Nat) (w : World) (v : Value) (ts : List Int) : Prop :=
  (ts = [] ∧ v = .slice none 0 0) ∨ ∃ p, B ≤ p ∧ p < w.heap.size ∧ v = .slice (some ⟨p, 0, none⟩) ts.length ts.length ∧ ∀ j x, ts[j]? = some x → w.cell? ⟨p, j, none⟩ = some (.int .i64 x)

theorem intsAt_laid (w : World) (ts : List Int) (t : TypeId) (B : Nat) (hB : B ≤ w.heap.size) : IntsAt B (w.alloc (.cells (ts.map (Value.int .i64)).toArray t)) (.slice (some ⟨w.heap.size, 0, none⟩) ts.length ts.length) ts := by
  refine .inr ⟨w.heap.size, hB, by simp, rfl, fun j x hj => ?_⟩
  have := cells_laid w (ts.map (Value.int .i64)) t j (.int .i64 x) (by rw [List.getElem?_map, hj]; rfl)
  have hadd : (⟨w.heap.size, 0, none⟩ : Addr).add j = ⟨w.heap.size, j, none⟩ := by unfold Addr.add; split <;> simp_all
  rw [hadd] at this
  exact this

theorem intsAt_two (w : World) (o : Obj) (ts : List Int) (t : TypeId) : IntsAt w.heap.size ((w.alloc o).alloc (.cells (ts.map (Value.int .i64)).toArray t)) (.slice (some ⟨w.heap.size + 1, 0, none⟩) ts.length ts.length) ts := by
  have h := intsAt_laid (w.alloc o) ts t w.heap.size (by simp)
  rw [World.size_alloc] at h
  exact h

set_option maxHeartbeats 4000000 in
theorem goes_any (k : Nat) (n : Int) (a b c : ByteArray) (t : Int) (i : Nat) (w : World) (hi : i ≤ 40) :
    Calls Tryd.prog 62 #[.agg #[.int .u8 k, .int .i64 n, .string a, .string b, .string c, .int .i64 t], .int .i64 i] w fun e w' =>
      ∃ v, e = .returned v ∧ IntsAt w.heap.size w' v (goesOf k n i) ∧ Below w.heap.size w w' := by
  by_cases h114 : k = 114
  · have t1 : ((k : Int) == 114) = true := by simp; omega
    have HG : Hid (goesOf k n i = []) := by
      have hx : goesOf k n i = [] := by unfold goesOf; rw [if_pos h114]
      exact hx
    clear h114
    go_enter Tryd.func62, Tryd.ntmps62
    go_wp2
    go_ret
    exact ⟨_, rfl, .inl ⟨HG.out, rfl⟩, (Below.refl _ _).alloc (Nat.le_refl _) _⟩
  · have t1 : ((k : Int) == 114) = false := by simp; omega
    by_cases h62 : k = 62
    · have t2 : ((k : Int) == 62) = true := by simp; omega
      have HG : Hid (goesOf k n i = [n]) := by
        have hx : goesOf k n i = [n] := by unfold goesOf; rw [if_neg h114, if_pos h62]
        exact hx
      clear h114 h62
      go_enter Tryd.func62, Tryd.ntmps62
      go_wp2
      go_ret
      refine ⟨_, rfl, ?_, ((Below.refl _ _).alloc (Nat.le_refl _) _).alloc (by simp) _⟩
      rw [HG.out]
      exact intsAt_two w _ [n] _
    · have t2 : ((k : Int) == 62) = false := by simp; omega
      by_cases h63 : k = 63
      · have t3 : ((k : Int) == 63) = true := by simp; omega
        have HG : Hid (goesOf k n i = [(i : Int) + 1, n]) := by
          have hx : goesOf k n i = [(i : Int) + 1, n] := by unfold goesOf; rw [if_neg h114, if_neg h62, if_pos h63]
          exact hx
        clear h114 h62 h63
        go_enter Tryd.func62, Tryd.ntmps62
        go_wp2
        go_ret
        refine ⟨_, rfl, ?_, ((Below.refl _ _).alloc (Nat.le_refl _) _).alloc (by simp) _⟩
        rw [HG.out]
        exact intsAt_two w _ [(i : Int) + 1, n] _
      · have t3 : ((k : Int) == 63) = false := by simp; omega
        have HG : Hid (goesOf k n i = [(i : Int) + 1]) := by
          have hx : goesOf k n i = [(i : Int) + 1] := by unfold goesOf; rw [if_neg h114, if_neg h62, if_neg h63]
          exact hx
        clear h114 h62 h63
        go_enter Tryd.func62, Tryd.ntmps62
        go_wp2
        go_ret
        refine ⟨_, rfl, ?_, ((Below.refl _ _).alloc (Nat.le_refl _) _).alloc (by simp) _⟩
        rw [HG.out]
        exact intsAt_two w _ [(i : Int) + 1] _

end Go.Proofs.YtkghmgoefiepeaaDoor.reads
