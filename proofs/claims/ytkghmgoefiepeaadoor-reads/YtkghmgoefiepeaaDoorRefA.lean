/- kinref's small functions on texts. -/
import Derived.Test.YtkghmgoefiepeaaDoorChecked
import Derived.Test.YtkghmgoefiepeaaDoorSpecA
import Derived.WalkKit
import Derived.ProofKit
import Derived.Outline
import Derived.Deep.QuietTactic
import Derived.BigQuiet
namespace Go.Proofs.YtkghmgoefiepeaaDoor.reads
open Go.ChangeShapes Go.WideShapes Go.ChangeAt Go.RowKit Kn
set_option linter.unusedSimpArgs false
set_option linter.unusedVariables false

theorem ret_bool {a b : Bool} (h : a = b) : Ending.returned (.bool a) = .returned (.bool b) := by rw [h]
theorem ret_int {k : IntKind} {a b : Int} (h : a = b) : Ending.returned (.int k a) = .returned (.int k b) := by rw [h]

theorem small_any (c : UInt8) (w : World) :
    Calls Tryd.prog 31 #[.int .u8 c.toNat] w fun e w' => e = .returned (.bool (isSmall c)) ∧ w' = w := by
  go_enter Tryd.func31, Tryd.ntmps31
  go_wp2
  all_goals (go_ret; refine ⟨ret_bool ?_, rfl⟩; unfold isSmall; rw [Bool.eq_iff_iff]; simp; omega)

theorem digit_any (c : UInt8) (w : World) :
    Calls Tryd.prog 60 #[.int .u8 c.toNat] w fun e w' => e = .returned (.bool (isDig c)) ∧ w' = w := by
  go_enter Tryd.func60, Tryd.ntmps60
  go_wp2
  all_goals (go_ret; refine ⟨ret_bool ?_, rfl⟩; unfold isDig; rw [Bool.eq_iff_iff]; simp; omega)

theorem className_no (s : ByteArray) (h : ¬ (1 ≤ s.size ∧ s.size ≤ 6 ∧ isCap ((bl s)[0]?.getD 0) = true)) : className (bl s) = false := by
  unfold className
  rw [bl_length]
  cases hc : isCap ((bl s)[0]?.getD 0)
  · simp
  · rw [hc] at h
    simp
    intro a b
    exact absurd ⟨a, b, rfl⟩ h

set_option maxHeartbeats 400000 in
theorem className_any (s : ByteArray) (w : World) (hs : s.size ≤ maxLen) :
    Calls Tryd.prog 14 #[.string s] w fun e w' => e = .returned (.bool (className (bl s))) ∧ w' = w := by
  unfold maxLen at hs
  by_cases h1 : 1 ≤ s.size
  · by_cases h6 : s.size ≤ 6
    · have hg := bl_getD s 0 (by omega)
      have hcap : isCap ((bl s)[0]?.getD 0) = (decide (65 ≤ s[0].toNat) && decide (s[0].toNat ≤ 90)) := by rw [hg]; rfl
      by_cases hc : 65 ≤ s[0].toNat ∧ s[0].toNat ≤ 90
      · have hx : isCap ((bl s)[0]?.getD 0) = true := by rw [hcap]; simp [hc]
        have HC : Hid (isCap ((bl s)[0]?.getD 0) = true) := hx
        clear hx
        obtain ⟨hc1, hc2⟩ := hc
        clear hg hcap
        go_enter Tryd.func14, Tryd.ntmps14
        go_wp2
        go_loop [3] (fun i => ∃ k : Nat, 1 ≤ k ∧ k ≤ s.size ∧ i = .int .i64 k ∧ ∀ j c, 1 ≤ j → j < k → (bl s)[j]? = some c → isSmall c = true) (fun i => s.size - (intOf i).toNat)
        case atStart => exact ⟨1, by omega, h1, rfl, fun j c a b => by omega⟩
        case round =>
          obtain ⟨k, hk1, hk, rfl, hall⟩ := hrel
          have HA : Hid (∀ j c, 1 ≤ j → j < k → (bl s)[j]? = some c → isSmall c = true) := hall
          clear hall
          by_cases hlt : k < s.size
          · cases hsm : isSmall s[k]
            · go_wp2_with (go_at_call 31; refine (small_any _ _).mono ?_; rintro e w' ⟨rfl, rfl⟩)
              go_ret
              refine ⟨ret_bool ?_, rfl⟩
              have : ((bl s).drop 1).all isSmall = false := by
                rw [Bool.eq_false_iff]
                intro h
                have := (all_drop _ _ _).1 h k _ hk1 (bl_get s k hlt)
                rw [hsm] at this; cases this
              unfold className
              rw [this, Bool.and_false]
            · go_wp2_with (go_at_call 31; refine (small_any _ _).mono ?_; rintro e w' ⟨rfl, rfl⟩)
              go_round
              case rel =>
                refine ⟨k + 1, by omega, by omega, by go_num, fun j c a b hj => ?_⟩
                by_cases e : j = k
                · subst e; rw [bl_get s j hlt] at hj; injection hj with hj; rw [← hj]; exact hsm
                · exact HA.out j c a (by omega) hj
              case measure => simp [intOf]; omega
          · go_wp2
            go_ret
            refine ⟨ret_bool ?_, rfl⟩
            have : ((bl s).drop 1).all isSmall = true := (all_drop _ _ _).2 fun j c a hj => HA.out j c a (by
              have := (List.getElem?_eq_some_iff.1 hj).1
              rw [bl_length] at this; omega) hj
            unfold className
            rw [this, HC.out, bl_length]
            simp [h1, h6]
      · have HN : Hid (className (bl s) = false) := className_no s (fun h => hc (by have := h.2.2; rw [hcap] at this; simpa using this))
        have hcc : s[0].toNat < 65 ∨ 90 < s[0].toNat := by omega
        clear hc hg hcap
        rcases hcc with hcc | hcc
        all_goals
          go_enter Tryd.func14, Tryd.ntmps14
          go_wp2
          all_goals (go_ret; exact ⟨by rw [HN.out]; rfl, rfl⟩)
    · have HN : Hid (className (bl s) = false) := className_no s (by omega)
      go_enter Tryd.func14, Tryd.ntmps14
      go_wp2
      go_ret
      exact ⟨by rw [HN.out]; rfl, rfl⟩
  · have HN : Hid (className (bl s) = false) := className_no s (by omega)
    go_enter Tryd.func14, Tryd.ntmps14
    go_wp2
    go_ret
    exact ⟨by rw [HN.out]; rfl, rfl⟩

theorem selector_not (s : ByteArray) (h : ¬ (3 ≤ s.size ∧ s.size ≤ 8 ∧ (bl s)[s.size - 2]?.getD 0 = 47 ∧ 48 ≤ ((bl s)[s.size - 1]?.getD 0).toNat ∧ ((bl s)[s.size - 1]?.getD 0).toNat ≤ 51)) : selector (bl s) = false := by
  rw [Bool.eq_false_iff]
  intro hh
  unfold selector at hh
  rw [bl_length] at hh
  simp only [Bool.and_eq_true, decide_eq_true_eq] at hh
  exact h ⟨hh.1.1.1.1.1, hh.1.1.1.1.2, hh.1.1.1.2, hh.1.1.2, hh.1.2⟩

set_option maxHeartbeats 400000 in
theorem selector_any (s : ByteArray) (w : World) (hs : s.size ≤ maxLen) :
    Calls Tryd.prog 24 #[.string s] w fun e w' => e = .returned (.bool (selector (bl s))) ∧ w' = w := by
  unfold maxLen at hs
  by_cases h3 : 3 ≤ s.size
  · by_cases h8 : s.size ≤ 8
    · obtain ⟨n, hn⟩ : ∃ n, s.size = n + 2 := ⟨s.size - 2, by omega⟩
      have hn1 : 1 ≤ n := by omega
      have hn6 : n ≤ 6 := by omega
      have g0 := bl_getD s n (by omega)
      have g1 := bl_getD s (n + 1) (by omega)
      by_cases hg : s[n].toNat = 47 ∧ 48 ≤ s[n + 1].toNat ∧ s[n + 1].toNat ≤ 51
      · have hsel : selector (bl s) = ((bl s).take n).all isSmall := by
          unfold selector
          rw [bl_length, hn, show n + 2 - 2 = n from rfl, show n + 2 - 1 = n + 1 from rfl, g0, g1]
          have e47 : s[n] = 47 := UInt8.toNat_inj.1 (by rw [hg.1]; rfl)
          rw [e47]
          simp [hg, show 1 ≤ n from hn1, hn6]
        have HS : Hid (selector (bl s) = ((bl s).take n).all isSmall) := hsel
        obtain ⟨hg1, hg2, hg3⟩ := hg
        have b1 : ((s[n].toNat : Int) == 47) = true := by simp; omega
        have b2 : ((s[n].toNat : Int) != 47) = false := by simp; omega
        clear hsel g0 g1 hg1
        go_enter Tryd.func24, Tryd.ntmps24
        go_wp2
        go_loop [4] (fun i => ∃ k : Nat, k ≤ n ∧ i = .int .i64 k ∧ ∀ j c, j < k → (bl s)[j]? = some c → isSmall c = true) (fun i => n - (intOf i).toNat)
        case atStart => exact ⟨0, by omega, rfl, fun j c b => by omega⟩
        case round =>
          obtain ⟨k, hk, rfl, hall⟩ := hrel
          have HA : Hid (∀ j c, j < k → (bl s)[j]? = some c → isSmall c = true) := hall
          clear hall
          by_cases hlt : k < n
          · have hks : k < s.size := by omega
            cases hsm : isSmall s[k]
            · go_wp2_with (go_at_call 31; refine (small_any _ _).mono ?_; rintro e w' ⟨rfl, rfl⟩)
              go_ret
              refine ⟨ret_bool ?_, rfl⟩
              rw [HS.out]
              symm
              rw [Bool.eq_false_iff]
              intro h
              have := (all_take _ _ _).1 h k _ hlt (bl_get s k hks)
              rw [hsm] at this; cases this
            · go_wp2_with (go_at_call 31; refine (small_any _ _).mono ?_; rintro e w' ⟨rfl, rfl⟩)
              go_round
              case rel =>
                refine ⟨k + 1, by omega, by go_num, fun j c b hj => ?_⟩
                by_cases e : j = k
                · subst e; rw [bl_get s j hks] at hj; injection hj with hj; rw [← hj]; exact hsm
                · exact HA.out j c (by omega) hj
              case measure => simp [intOf]; omega
          · go_wp2
            go_ret
            refine ⟨ret_bool ?_, rfl⟩
            rw [HS.out]
            symm
            exact (all_take _ _ _).2 fun j c a hj => HA.out j c (by omega) hj
      · have HN : Hid (selector (bl s) = false) := selector_not s (by
          rw [hn, show n + 2 - 2 = n from rfl, show n + 2 - 1 = n + 1 from rfl, g0, g1]
          intro h
          exact hg ⟨by rw [h.2.2.1]; rfl, h.2.2.2.1, h.2.2.2.2⟩)
        clear g0 g1
        go_enter Tryd.func24, Tryd.ntmps24
        go_wp2
        all_goals first | (exfalso; omega) | (go_ret; exact ⟨by rw [HN.out]; rfl, rfl⟩)
    · have HN : Hid (selector (bl s) = false) := selector_not s (by omega)
      go_enter Tryd.func24, Tryd.ntmps24
      go_wp2
      go_ret
      exact ⟨by rw [HN.out]; rfl, rfl⟩
  · have HN : Hid (selector (bl s) = false) := selector_not s (by omega)
    go_enter Tryd.func24, Tryd.ntmps24
    go_wp2
    go_ret
    exact ⟨by rw [HN.out]; rfl, rfl⟩

theorem args_any (s : ByteArray) (w : World) (hs : s.size ≤ 8) (h1 : 1 ≤ s.size) (hd : 48 ≤ ((bl s)[s.size - 1]?.getD 0).toNat) :
    Calls Tryd.prog 27 #[.string s] w fun e w' => e = .returned (.int .i64 (argsOf (bl s) : Nat)) ∧ w' = w := by
  obtain ⟨n, hn⟩ : ∃ n, s.size = n + 1 := ⟨s.size - 1, by omega⟩
  have g1 := bl_getD s n (by omega)
  rw [hn, show n + 1 - 1 = n from rfl, g1] at hd
  have g2 : (bl s)[s.size - 1]?.getD 0 = (bl s)[n]?.getD 0 := by rw [hn]; rfl
  have hx : argsOf (bl s) = s[n].toNat - 48 := by unfold argsOf; rw [bl_length, g2, g1]
  have HA : Hid (argsOf (bl s) = s[n].toNat - 48) := hx
  have hlt : s[n].toNat < 256 := s[n].toNat_lt
  clear g1 g2 hx
  go_enter Tryd.func27, Tryd.ntmps27
  go_wp2
  go_ret
  exact ⟨ret_int (by rw [HA.out]; omega), rfl⟩

theorem begins_any (s t : ByteArray) (w : World) (hs : s.size ≤ maxLen) (ht : t.size ≤ maxLen) :
    Calls Tryd.prog 65 #[.string s, .string t] w fun e w' => e = .returned (.bool ((bl t).isPrefixOf (bl s))) ∧ w' = w := by
  unfold maxLen at hs ht
  by_cases h : t.size ≤ s.size
  · go_enter Tryd.func65, Tryd.ntmps65
    go_wp2
    go_ret
    refine ⟨ret_bool ?_, rfl⟩
    rw [ByteArray.toList_eq, ByteArray.toList_eq, ex_take s t.size, Bool.eq_iff_iff, beq_iff_eq, List.isPrefixOf_iff_prefix]
    constructor
    · intro e; show t.data.toList <+: bl s; rw [← e]; exact List.take_prefix _ _
    · intro e; have := List.prefix_iff_eq_take.1 e; rw [bl_length] at this; exact this.symm
  · go_enter Tryd.func65, Tryd.ntmps65
    go_wp2
    go_ret
    refine ⟨ret_bool ?_, rfl⟩
    symm
    rw [Bool.eq_false_iff]
    intro e
    have := (List.isPrefixOf_iff_prefix.1 e).length_le
    rw [bl_length, bl_length] at this
    omega

set_option maxHeartbeats 400000 in
theorem number_any (s : ByteArray) (m : Nat) (w : World) (hs : s.size ≤ maxLen) (hm : m ≤ 4) :
    Calls Tryd.prog 59 #[.string s, .int .i64 m] w fun e w' => e = .returned (.int .i64 (numI (bl s) m)) ∧ w' = w := by
  unfold maxLen at hs
  by_cases h1 : 1 ≤ s.size
  · by_cases h2 : s.size ≤ m
    · have t1 : decide ((s.size : Int) < 1) = false := by simp; omega
      have t2 : decide (m < s.size) = false := by simp; omega
      go_enter Tryd.func59, Tryd.ntmps59
      go_wp2
      go_loop [5, 6] (fun n i => ∃ k : Nat, k ≤ s.size ∧ i = .int .i64 k ∧ n = .int .i64 (numOf ((bl s).take k) : Nat) ∧ ∀ j c, j < k → (bl s)[j]? = some c → isDig c = true) (fun _ i => s.size - (intOf i).toNat)
      case atStart => exact ⟨0, by omega, rfl, rfl, fun j c b => by omega⟩
      case round =>
        obtain ⟨k, hk, rfl, rfl, hall⟩ := hrel
        have HA : Hid (∀ j c, j < k → (bl s)[j]? = some c → isDig c = true) := hall
        have hbd := numOf_lt ((bl s).take k) k (List.length_take_le _ _) ((all_take _ _ _).2 hall)
        have hb4 : numOf ((bl s).take k) < 10000 := Nat.lt_of_lt_of_le hbd (Nat.pow_le_pow_right (n := 10) (by omega) (show k ≤ 4 by omega))
        clear hall hbd
        by_cases hlt : k < s.size
        · cases hsm : isDig s[k]
          · go_wp2_with (go_at_call 60; refine (digit_any _ _).mono ?_; rintro e w' ⟨rfl, rfl⟩)
            go_ret
            refine ⟨ret_int ?_, rfl⟩
            symm
            exact numI_bad _ _ k _ (bl_get s k hlt) hsm
          · have hdd := isDig_iff.1 hsm
            have hlt2 : s[k].toNat < 256 := s[k].toNat_lt
            have HT : Hid (numOf ((bl s).take (k + 1)) = 10 * numOf ((bl s).take k) + (s[k].toNat - 48)) := numOf_snoc s k hlt
            obtain ⟨hd1, hd2⟩ := hdd
            go_wp2_with (go_at_call 60; refine (digit_any _ _).mono ?_; rintro e w' ⟨rfl, rfl⟩)
            go_round
            case rel =>
              refine ⟨k + 1, by omega, by go_num, ?_, fun j c b hj => ?_⟩
              · rw [HT.out]
                go_num
              · by_cases e : j = k
                · subst e; rw [bl_get s j hlt] at hj; injection hj with hj; rw [← hj]; exact hsm
                · exact HA.out j c (by omega) hj
            case measure => simp [intOf]; omega
        · obtain rfl : k = s.size := by omega
          go_wp2
          go_ret
          refine ⟨ret_int ?_, rfl⟩
          symm
          exact numI_good s m h1 h2 HA.out
    · have HN : Hid (numI (bl s) m = -1) := numI_no _ _ (by rw [bl_length]; omega)
      go_enter Tryd.func59, Tryd.ntmps59
      go_wp2
      go_ret
      exact ⟨by rw [HN.out]; rfl, rfl⟩
  · have HN : Hid (numI (bl s) m = -1) := numI_no _ _ (by rw [bl_length]; omega)
    go_enter Tryd.func59, Tryd.ntmps59
    go_wp2
    go_ret
    exact ⟨by rw [HN.out]; rfl, rfl⟩

end Go.Proofs.YtkghmgoefiepeaaDoor.reads
