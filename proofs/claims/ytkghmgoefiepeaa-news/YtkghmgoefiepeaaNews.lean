import Derived.Test.YtkghmgoefiepeaaRows
import Derived.Test.YtkghmgoefiepeaaBase
import Derived.Test.YtkghmgoefiepeaaCls
import Derived.WalkKit
import Derived.ProofKit
import Derived.OpenShut
namespace Go.Proofs.Ytkghmgoefiepeaa.news
open Go.ChangeShapes Go.WideShapes Go.ChangeAt Go.RowKit

theorem kinNew_ok (a0 a1 : Int) (w : World) (h0 : 0 ≤ a0) (h1 : a0 ≤ 6) (h2 : 1 ≤ a1) (h3 : a1 ≤ 64) (h4 : (bits BinOp.and IntKind.i64 a1 (a1 - 1) == 0) = true) :
    Calls Try.prog 4 #[.int .i64 a0, .int .i64 a1] w fun e w' => (∃ p, e = .returned (.tuple #[.pointer (some p), .int .i64 0])) ∧ Below w.heap.size w w' :=
  (img.new_ok a0 a1 w h0 h1 h2 h3 h4).mono fun _ _ h => ⟨⟨_, h.1⟩, h.2.2⟩

theorem kinNew_no (a0 a1 : Int) (w : World) (h : ¬ (0 ≤ a0 ∧ a0 ≤ 6 ∧ 1 ≤ a1 ∧ a1 ≤ 64 ∧ (bits BinOp.and IntKind.i64 a1 (a1 - 1) == 0) = true)) :
    Calls Try.prog 4 #[.int .i64 a0, .int .i64 a1] w fun e w' => e = .returned (.tuple #[.pointer none, .int .i64 1]) ∧ w' = w := by
  by_cases h0 : 0 ≤ a0
  · by_cases h1 : a0 ≤ 6
    · by_cases h2 : 1 ≤ a1
      · by_cases h3 : a1 ≤ 64
        · have h4 : (bits BinOp.and IntKind.i64 a1 (a1 - 1) == 0) = false := by
            simpa [h0, h1, h2, h3] using h
          go_enter Try.func4, Try.ntmps4
          go_wp2
          all_goals (go_ret2; exact ⟨rfl, rfl⟩)
        all_goals
          go_enter Try.func4, Try.ntmps4
          go_wp2
          all_goals (go_ret2; exact ⟨rfl, rfl⟩)
      all_goals
        go_enter Try.func4, Try.ntmps4
        go_wp2
        all_goals (go_ret2; exact ⟨rfl, rfl⟩)
    all_goals
      go_enter Try.func4, Try.ntmps4
      go_wp2
      all_goals (go_ret2; exact ⟨rfl, rfl⟩)
  all_goals
    go_enter Try.func4, Try.ntmps4
    go_wp2
    all_goals (go_ret2; exact ⟨rfl, rfl⟩)

theorem refNew_ok (a0 a1 : Int) (w : World) (h0 : 0 ≤ a0) (h1 : a0 ≤ 6) (h2 : 1 ≤ a1) (h3 : a1 ≤ 64) (h4 : (bits BinOp.and IntKind.i64 a1 (a1 - 1) == 0) = true) :
    Calls Try.prog 5 #[.int .i64 a0, .int .i64 a1] w fun e w' => (∃ p, e = .returned (.tuple #[.pointer (some p), .int .i64 0])) ∧ Below w.heap.size w w' := by
  go_enter Try.func5, Try.ntmps5
  go_wp2
  go_ret2
  exact ⟨⟨_, rfl⟩, ((Below.refl _ _).alloc (Nat.le_refl _) _).alloc (by simp) _⟩

theorem refNew_no (a0 a1 : Int) (w : World) (h : ¬ (0 ≤ a0 ∧ a0 ≤ 6 ∧ 1 ≤ a1 ∧ a1 ≤ 64 ∧ (bits BinOp.and IntKind.i64 a1 (a1 - 1) == 0) = true)) :
    Calls Try.prog 5 #[.int .i64 a0, .int .i64 a1] w fun e w' => e = .returned (.tuple #[.pointer none, .int .i64 1]) ∧ w' = w := by
  by_cases h0 : 0 ≤ a0
  · by_cases h1 : a0 ≤ 6
    · by_cases h2 : 1 ≤ a1
      · by_cases h3 : a1 ≤ 64
        · have h4 : (bits BinOp.and IntKind.i64 a1 (a1 - 1) == 0) = false := by
            simpa [h0, h1, h2, h3] using h
          go_enter Try.func5, Try.ntmps5
          go_wp2
          all_goals (go_ret2; exact ⟨rfl, rfl⟩)
        all_goals
          go_enter Try.func5, Try.ntmps5
          go_wp2
          all_goals (go_ret2; exact ⟨rfl, rfl⟩)
      all_goals
        go_enter Try.func5, Try.ntmps5
        go_wp2
        all_goals (go_ret2; exact ⟨rfl, rfl⟩)
    all_goals
      go_enter Try.func5, Try.ntmps5
      go_wp2
      all_goals (go_ret2; exact ⟨rfl, rfl⟩)
  all_goals
    go_enter Try.func5, Try.ntmps5
    go_wp2
    all_goals (go_ret2; exact ⟨rfl, rfl⟩)

theorem own : ownKnob Try.prog.godebug = none := by kernel_rfl

theorem walk (a0 : Int) (a1 : Int) (w : World) :
    Calls Try.prog 3 #[.int .i64 a0, .int .i64 a1] w fun e w' => e = .returned (.bool true) ∧ Below w.heap.size w w' := by
  by_cases h : 0 ≤ a0 ∧ a0 ≤ 6 ∧ 1 ≤ a1 ∧ a1 ≤ 64 ∧ (bits BinOp.and IntKind.i64 a1 (a1 - 1) == 0) = true
  · obtain ⟨h0, h1, h2, h3, h4⟩ := h
    have H4 : Hid ((bits BinOp.and IntKind.i64 a1 (a1 - 1) == 0) = true) := h4
    clear h4
    go_enter Try.func3, Try.ntmps3
    go_wp2_with fail
    refine (kinNew_ok _ _ _ h0 h1 h2 h3 H4.out).mono ?_
    rintro e w1 ⟨⟨p1, rfl⟩, hb1⟩
    go_wp2_with fail
    refine (refNew_ok _ _ _ h0 h1 h2 h3 H4.out).mono ?_
    rintro e w2 ⟨⟨p2, rfl⟩, hb2⟩
    go_wp2
    go_ret
    exact ⟨rfl, hb1.trans (hb2.mono hb1.size)⟩
  · have H : Hid (¬ (0 ≤ a0 ∧ a0 ≤ 6 ∧ 1 ≤ a1 ∧ a1 ≤ 64 ∧ (bits BinOp.and IntKind.i64 a1 (a1 - 1) == 0) = true)) := h
    clear h
    go_enter Try.func3, Try.ntmps3
    go_wp2_with fail
    refine (kinNew_no _ _ _ H.out).mono ?_
    rintro e w1 ⟨rfl, rfl⟩
    go_wp2_with fail
    refine (refNew_no _ _ _ H.out).mono ?_
    rintro e w2 ⟨rfl, rfl⟩
    go_wp2
    go_ret
    exact ⟨rfl, Below.refl _ _⟩

/-! ### THE ROW's STEP: WRITTEN OUT: LEAVE IT -/
set_option maxRecDepth 100000 in
theorem lifted (os : Os) (started : os.Started) (H : Type) (enc : TypeId × Value → H) :
    ReturnsInHanded {} Try.checked os 3 .any (Rows.newsSpec.pre6 enc Try.prog Try.f3 Rows.newsRow.domain false) (Rows.newsSpec.post enc Try.prog Try.f3 false true false false) := by
  refine returnsInHanded_of_change (C := Try.checked) own started (by kernel_rfl) Try.func3
    (ChangeSpec.witness6 (enc := enc) (C := Try.checked) false ⟨#[], #[.int .i64 0, .int .i64 0], []⟩ 8 (by kernel_rfl) (by kernel_rfl) (by kernel_rfl) (by kernel_rfl)) ?_
  intro W base args ds gs before hval0 hW hcnd _
  have hval : ∀ (j : Nat) t v, Try.f3.params[j]? = some t → args[j]? = some v → Value.okWide Try.prog W .any base t v := hval0
  have hW' := hW
  obtain ⟨p, q, hA0, hV, rfl, hfz, hnd⟩ := hW
  have hA : DataW.TrodAll enc Try.prog W 0 (fun _ => true) true Try.f3.params.toList args.toList ds p := hA0
  rw [Try.params3] at hA hval
  obtain ⟨v0, vs0, d0, ds0, p0, q0, hargs, rfl, rfl, h0, r0⟩ := trodAll_cons hA
  obtain ⟨v1, vs1, d1, ds1, p1, q1, rfl, rfl, rfl, h1, r1⟩ := trodAll_cons r0
  obtain ⟨rfl, rfl, rfl⟩ := trodAll_nil r1
  obtain rfl : args = #[v0, v1] := by cases args; simp_all
  obtain ⟨rfl, rfl⟩ := trodVars_none hV
  obtain ⟨a0, rfl, rfl, rfl, w0⟩ := open_int Try.underlying3 (hval 0 3 v0 rfl rfl) h0
  obtain ⟨a1, rfl, rfl, rfl, w1⟩ := open_int Try.underlying3 (hval 1 3 v1 rfl rfl) h1
  clear hA0 hval0
  simp only [List.append_nil] at hW'
  refine (walk a0 a1 W).mono fun e W' ⟨he, hg⟩ => ?_
  subst he
  exact ⟨_, rfl, Kn.post_below (pa := []) (pv := []) hW' (fun _ _ _ => (trodAll_cons_mk (shut_bool Try.underlying4 _) trodAll_mk0)) (fun sp _ => (trodAll_cons_mk (shut_int Try.underlying3 w0) (trodAll_cons_mk (shut_int Try.underlying3 w1) trodAll_mk0))) (fun _ _ => rfl) rfl
    hg (ok_one (by kernel_rfl) rfl (okWide_bool_mk Try.underlying4 _))⟩

theorem over : Rows.newsRow.holds Try.pinned (OpenSpec.ofChange Rows.newsSpec) :=
  OpenClaim.holds_of_wide 3 Try.f3 rfl rfl rfl rfl rfl rfl rfl ⟨rfl, rfl, rfl, rfl, rfl⟩ rfl rfl rfl rfl rfl (by kernel_rfl) Try.func3 (by kernel_rfl)
    (of_decide_eq_true (by kernel_rfl)) (by unfold Func.isWrapper; first | (rw [if_pos (by decide +kernel)]; kernel_rfl) | (rw [if_neg (by decide +kernel)]; exact ⟨rfl, rfl⟩))
    (fun os started H enc _ => lifted os started H enc)

/-- ████ THE STATEMENT ████ -/
theorem proved : Rows.NewsSaid :=
  over
#print axioms proved
end Go.Proofs.Ytkghmgoefiepeaa.news
