/- kinref.Fits. -/
import Derived.Test.YtkghmgoefiepeaaDoorRefL
import Derived.Test.YtkghmgoefiepeaaDoorSpecA
namespace Go.Proofs.YtkghmgoefiepeaaDoor.reads
open Go.ChangeShapes Go.WideShapes Go.ChangeAt Go.RowKit Kn
set_option linter.unusedSimpArgs false
set_option linter.unusedVariables false

theorem fine_of {ws : List (W × Nat)} {args slots : Nat} (h0 : ∀ (i : Nat) (x : W × Nat), ws[i]? = some x → Fine0 x.1) (hno : ∀ j, j < ws.length → ¬ NumBad ws args slots j) (i : Nat) (x : W × Nat) (hx : ws[i]? = some x) : Fine x.1 ws.length := by
  have h := h0 i x hx
  have hi := (List.getElem?_eq_some_iff.1 hx).1
  refine ⟨h.kind, h.lo, h.hi, h.send, fun e => ⟨h.goto e, ?_⟩⟩
  have hn := hno i hi
  have hw : wAt ws i = x.1 := by unfold wAt; rw [hx]; rfl
  unfold NumBad argBad at hn
  rw [hw] at hn
  by_cases hc : x.1.n ≤ ws.length
  · exact hc
  · exact absurd (Or.inl (Or.inr ⟨e, by omega⟩)) hn

set_option maxHeartbeats 4000000 in
set_option maxRecDepth 100000 in
theorem fits_any (ws : List (W × Nat)) (p : Option Addr) (g cap args slots : Nat) (w : World) (hn : ws.length ≤ 40) (ha : args ≤ 3) (hs : slots ≤ 10) (hw : WAt w p g ws) (h0 : ∀ (i : Nat) (x : W × Nat), ws[i]? = some x → Fine0 x.1) :
    Calls Tryd.prog 26 #[.slice p ws.length cap, .int .i64 args, .int .i64 slots] w fun e w' => ∃ r i : Int, e = .returned (.tuple #[.int .i64 r, .int .i64 i]) ∧ FitsIs ws args slots r i ∧ Below w.heap.size w w' := by
  have HW : Hid (WAt w p g ws) := hw
  have HF : Hid (∀ (i : Nat) (x : W × Nat), ws[i]? = some x → Fine0 x.1) := h0
  clear hw h0
  go_enter Tryd.func26, Tryd.ntmps26
  go_wp2
  go_loop [8] (fun i => ∃ k : Nat, i = .int .i64 k ∧ k ≤ ws.length ∧ ∀ j, j < k → ¬ NumBad ws args slots j) (fun i => ws.length - (intOf i).toNat)
  case atStart => exact ⟨0, rfl, by omega, fun j h => by omega⟩
  case round =>
    obtain ⟨k, rfl, hk, hno⟩ := hrel
    have HNo : Hid (∀ j, j < k → ¬ NumBad ws args slots j) := hno
    clear hno
    by_cases hkn : k < ws.length
    · obtain ⟨x, hx⟩ : ∃ x, ws[k]? = some x := ⟨_, List.getElem?_eq_getElem hkn⟩
      have hwx : wAt ws k = x.1 := by unfold wAt; rw [hx]; rfl
      have hfx := HF.out k x hx
      obtain rfl : p = some ⟨g, 0, none⟩ := HW.out.head (by omega)
      have c0 := HW.out.c0 k x hx
      have c1 := HW.out.c1 k x hx
      have hlo := hfx.lo
      have hhi := hfx.hi
      have HA : Hid (argBad ws args k ↔ (x.1.k = 97 ∧ (args : Int) ≤ x.1.n) ∨ ((x.1.k = 62 ∨ x.1.k = 63) ∧ (ws.length : Int) < x.1.n)) := by
        have hx1 : argBad ws args k ↔ (x.1.k = 97 ∧ (args : Int) ≤ x.1.n) ∨ ((x.1.k = 62 ∨ x.1.k = 63) ∧ (ws.length : Int) < x.1.n) := by unfold argBad; rw [hwx]
        exact hx1
      have HS : Hid (slotBad ws slots k ↔ ((x.1.k = 103 ∨ x.1.k = 112) ∧ (slots : Int) ≤ x.1.n)) := by
        have hx1 : slotBad ws slots k ↔ ((x.1.k = 103 ∨ x.1.k = 112) ∧ (slots : Int) ≤ x.1.n) := by unfold slotBad; rw [hwx]
        exact hx1
      obtain ⟨⟨xk, xn, xs, xa, xb⟩, xi⟩ := x
      simp only at c0 c1 hlo hhi HA HS
      clear hx hwx hfx
      by_cases e97 : xk = 97
      · skip
        have t97 : ((xk : Int) == 97) = true := by simp; omega
        have t62 : ((xk : Int) == 62) = false := by simp; omega
        have t63 : ((xk : Int) == 63) = false := by simp; omega
        have t103 : ((xk : Int) == 103) = false := by simp; omega
        have t112 : ((xk : Int) == 112) = false := by simp; omega
        by_cases hb : (args : Int) ≤ xn
        · skip
          go_wp2
          go_ret2
          exact ⟨1, k, rfl, .inl ⟨k, hkn, rfl, .inl (HA.out.2 (by omega)), HNo.out, fun _ => rfl, fun h => absurd (HA.out.2 (by omega)) h⟩, Below.refl _ _⟩
        · skip
          go_wp2
          go_round
          case rel =>
            refine ⟨k + 1, by go_num, by omega, fun j hj => ?_⟩
            by_cases e : j = k
            · subst e
              rintro (h | h)
              · have := HA.out.1 h; omega
              · have := HS.out.1 h; omega
            · exact HNo.out j (by omega)
          case measure => simp [intOf] <;> omega
      by_cases e62 : xk = 62
      · skip
        have t97 : ((xk : Int) == 97) = false := by simp; omega
        have t62 : ((xk : Int) == 62) = true := by simp; omega
        have t63 : ((xk : Int) == 63) = false := by simp; omega
        have t103 : ((xk : Int) == 103) = false := by simp; omega
        have t112 : ((xk : Int) == 112) = false := by simp; omega
        by_cases hb : (ws.length : Int) < xn
        · skip
          go_wp2
          go_ret2
          exact ⟨1, k, rfl, .inl ⟨k, hkn, rfl, .inl (HA.out.2 (by omega)), HNo.out, fun _ => rfl, fun h => absurd (HA.out.2 (by omega)) h⟩, Below.refl _ _⟩
        · skip
          go_wp2
          go_round
          case rel =>
            refine ⟨k + 1, by go_num, by omega, fun j hj => ?_⟩
            by_cases e : j = k
            · subst e
              rintro (h | h)
              · have := HA.out.1 h; omega
              · have := HS.out.1 h; omega
            · exact HNo.out j (by omega)
          case measure => simp [intOf] <;> omega
      by_cases e63 : xk = 63
      · skip
        have t97 : ((xk : Int) == 97) = false := by simp; omega
        have t62 : ((xk : Int) == 62) = false := by simp; omega
        have t63 : ((xk : Int) == 63) = true := by simp; omega
        have t103 : ((xk : Int) == 103) = false := by simp; omega
        have t112 : ((xk : Int) == 112) = false := by simp; omega
        by_cases hb : (ws.length : Int) < xn
        · skip
          go_wp2
          go_ret2
          exact ⟨1, k, rfl, .inl ⟨k, hkn, rfl, .inl (HA.out.2 (by omega)), HNo.out, fun _ => rfl, fun h => absurd (HA.out.2 (by omega)) h⟩, Below.refl _ _⟩
        · skip
          go_wp2
          go_round
          case rel =>
            refine ⟨k + 1, by go_num, by omega, fun j hj => ?_⟩
            by_cases e : j = k
            · subst e
              rintro (h | h)
              · have := HA.out.1 h; omega
              · have := HS.out.1 h; omega
            · exact HNo.out j (by omega)
          case measure => simp [intOf] <;> omega
      by_cases e103 : xk = 103
      · skip
        have t97 : ((xk : Int) == 97) = false := by simp; omega
        have t62 : ((xk : Int) == 62) = false := by simp; omega
        have t63 : ((xk : Int) == 63) = false := by simp; omega
        have t103 : ((xk : Int) == 103) = true := by simp; omega
        have t112 : ((xk : Int) == 112) = false := by simp; omega
        by_cases hb : (slots : Int) ≤ xn
        · skip
          go_wp2
          go_ret2
          exact ⟨7, k, rfl, .inl ⟨k, hkn, rfl, .inr (HS.out.2 (by omega)), HNo.out, fun h => by have := HA.out.1 h; omega, fun _ => rfl⟩, Below.refl _ _⟩
        · skip
          go_wp2
          go_round
          case rel =>
            refine ⟨k + 1, by go_num, by omega, fun j hj => ?_⟩
            by_cases e : j = k
            · subst e
              rintro (h | h)
              · have := HA.out.1 h; omega
              · have := HS.out.1 h; omega
            · exact HNo.out j (by omega)
          case measure => simp [intOf] <;> omega
      by_cases e112 : xk = 112
      · skip
        have t97 : ((xk : Int) == 97) = false := by simp; omega
        have t62 : ((xk : Int) == 62) = false := by simp; omega
        have t63 : ((xk : Int) == 63) = false := by simp; omega
        have t103 : ((xk : Int) == 103) = false := by simp; omega
        have t112 : ((xk : Int) == 112) = true := by simp; omega
        by_cases hb : (slots : Int) ≤ xn
        · skip
          go_wp2
          go_ret2
          exact ⟨7, k, rfl, .inl ⟨k, hkn, rfl, .inr (HS.out.2 (by omega)), HNo.out, fun h => by have := HA.out.1 h; omega, fun _ => rfl⟩, Below.refl _ _⟩
        · skip
          go_wp2
          go_round
          case rel =>
            refine ⟨k + 1, by go_num, by omega, fun j hj => ?_⟩
            by_cases e : j = k
            · subst e
              rintro (h | h)
              · have := HA.out.1 h; omega
              · have := HS.out.1 h; omega
            · exact HNo.out j (by omega)
          case measure => simp [intOf] <;> omega
      have t97 : ((xk : Int) == 97) = false := by simp; omega
      have t62 : ((xk : Int) == 62) = false := by simp; omega
      have t63 : ((xk : Int) == 63) = false := by simp; omega
      have t103 : ((xk : Int) == 103) = false := by simp; omega
      have t112 : ((xk : Int) == 112) = false := by simp; omega
      go_wp2
      go_round
      case rel =>
        refine ⟨k + 1, by go_num, by omega, fun j hj => ?_⟩
        by_cases e : j = k
        · subst e
          rintro (h | h)
          · have := HA.out.1 h; omega
          · have := HS.out.1 h; omega
        · exact HNo.out j (by omega)
      case measure => simp [intOf] <;> omega
    · obtain rfl : k = ws.length := by omega
      go_wp2_with fail
      refine (heights_any ws p g cap _ hn HW.out (fine_of HF.out HNo.out)).mono ?_
      rintro e w1 ⟨r, rfl, hr, hb⟩
      have HR : Hid (IsFirst (Wrong ws) ws.length r) := hr
      clear hr
      go_wp2
      go_ret2
      exact ⟨6, r, rfl, .inr ⟨HNo.out, rfl, HR.out⟩, hb⟩

end Go.Proofs.YtkghmgoefiepeaaDoor.reads
