/- kinref's readers of one word. -/
import Derived.Test.YtkghmgoefiepeaaDoorRefA
import Derived.Test.YtkghmgoefiepeaaDoorSpecA
namespace Go.Proofs.YtkghmgoefiepeaaDoor.reads
open Go.ChangeShapes Go.WideShapes Go.ChangeAt Go.RowKit Kn
set_option linter.unusedSimpArgs false
set_option linter.unusedVariables false

theorem ba_eq {s : ByteArray} {l : List UInt8} (h : bl s = l) : s = ofL l := by rw [← h]
theorem ba_ne {s : ByteArray} {l : List UInt8} (h : ¬ bl s = l) : (s.toList == l) = false := by
  rw [ByteArray.toList_eq]
  exact beq_eq_false_iff_ne.2 h

set_option maxHeartbeats 1000000 in
theorem plain_any (s : ByteArray) (w : World) (hs : s.size ≤ maxLen) :
    Calls Tryd.prog 57 #[.string s] w fun e w' => e = .returned (.tuple #[encW ((rdPlain (bl s)).getD w0) 0, .bool (rdPlain (bl s)).isSome]) ∧ Below w.heap.size w w' := by
  unfold maxLen at hs
  by_cases h0 : bl s = [115, 101, 108, 102]
  · obtain rfl := ba_eq h0
    clear hs h0
    go_enter Tryd.func57, Tryd.ntmps57
    go_wp2
    exact bodyPost_ret (v := .tuple #[.agg #[.int .u8 109, .int .i64 0, .string ⟨#[]⟩, .string ⟨#[]⟩, .string ⟨#[]⟩, .int .i64 0], .bool true]) (by simp [results, Tryd.results57, go_sem] <;> rfl) rfl ⟨rfl, ((Below.refl _ _).alloc (Nat.le_refl _) _)⟩
  by_cases h1 : bl s = [112, 111, 112]
  · obtain rfl := ba_eq h1
    clear hs h0 h1
    go_enter Tryd.func57, Tryd.ntmps57
    go_wp2
    exact bodyPost_ret (v := .tuple #[.agg #[.int .u8 111, .int .i64 0, .string ⟨#[]⟩, .string ⟨#[]⟩, .string ⟨#[]⟩, .int .i64 0], .bool true]) (by simp [results, Tryd.results57, go_sem] <;> rfl) rfl ⟨rfl, ((Below.refl _ _).alloc (Nat.le_refl _) _)⟩
  by_cases h2 : bl s = [100, 117, 112]
  · obtain rfl := ba_eq h2
    clear hs h0 h1 h2
    go_enter Tryd.func57, Tryd.ntmps57
    go_wp2
    exact bodyPost_ret (v := .tuple #[.agg #[.int .u8 100, .int .i64 0, .string ⟨#[]⟩, .string ⟨#[]⟩, .string ⟨#[]⟩, .int .i64 0], .bool true]) (by simp [results, Tryd.results57, go_sem] <;> rfl) rfl ⟨rfl, ((Below.refl _ _).alloc (Nat.le_refl _) _)⟩
  by_cases h3 : bl s = [114, 101, 116]
  · obtain rfl := ba_eq h3
    clear hs h0 h1 h2 h3
    go_enter Tryd.func57, Tryd.ntmps57
    go_wp2
    exact bodyPost_ret (v := .tuple #[.agg #[.int .u8 114, .int .i64 0, .string ⟨#[]⟩, .string ⟨#[]⟩, .string ⟨#[]⟩, .int .i64 0], .bool true]) (by simp [results, Tryd.results57, go_sem] <;> rfl) rfl ⟨rfl, ((Below.refl _ _).alloc (Nat.le_refl _) _)⟩
  by_cases h4 : bl s = [43]
  · obtain rfl := ba_eq h4
    clear hs h0 h1 h2 h3 h4
    go_enter Tryd.func57, Tryd.ntmps57
    go_wp2
    exact bodyPost_ret (v := .tuple #[.agg #[.int .u8 43, .int .i64 0, .string ⟨#[]⟩, .string ⟨#[]⟩, .string ⟨#[]⟩, .int .i64 0], .bool true]) (by simp [results, Tryd.results57, go_sem] <;> rfl) rfl ⟨rfl, ((Below.refl _ _).alloc (Nat.le_refl _) _)⟩
  by_cases h5 : bl s = [45]
  · obtain rfl := ba_eq h5
    clear hs h0 h1 h2 h3 h4 h5
    go_enter Tryd.func57, Tryd.ntmps57
    go_wp2
    exact bodyPost_ret (v := .tuple #[.agg #[.int .u8 45, .int .i64 0, .string ⟨#[]⟩, .string ⟨#[]⟩, .string ⟨#[]⟩, .int .i64 0], .bool true]) (by simp [results, Tryd.results57, go_sem] <;> rfl) rfl ⟨rfl, ((Below.refl _ _).alloc (Nat.le_refl _) _)⟩
  by_cases h6 : bl s = [42]
  · obtain rfl := ba_eq h6
    clear hs h0 h1 h2 h3 h4 h5 h6
    go_enter Tryd.func57, Tryd.ntmps57
    go_wp2
    exact bodyPost_ret (v := .tuple #[.agg #[.int .u8 42, .int .i64 0, .string ⟨#[]⟩, .string ⟨#[]⟩, .string ⟨#[]⟩, .int .i64 0], .bool true]) (by simp [results, Tryd.results57, go_sem] <;> rfl) rfl ⟨rfl, ((Below.refl _ _).alloc (Nat.le_refl _) _)⟩
  by_cases h7 : bl s = [60]
  · obtain rfl := ba_eq h7
    clear hs h0 h1 h2 h3 h4 h5 h6 h7
    go_enter Tryd.func57, Tryd.ntmps57
    go_wp2
    exact bodyPost_ret (v := .tuple #[.agg #[.int .u8 60, .int .i64 0, .string ⟨#[]⟩, .string ⟨#[]⟩, .string ⟨#[]⟩, .int .i64 0], .bool true]) (by simp [results, Tryd.results57, go_sem] <;> rfl) rfl ⟨rfl, ((Below.refl _ _).alloc (Nat.le_refl _) _)⟩
  by_cases h8 : bl s = [61]
  · obtain rfl := ba_eq h8
    clear hs h0 h1 h2 h3 h4 h5 h6 h7 h8
    go_enter Tryd.func57, Tryd.ntmps57
    go_wp2
    exact bodyPost_ret (v := .tuple #[.agg #[.int .u8 61, .int .i64 0, .string ⟨#[]⟩, .string ⟨#[]⟩, .string ⟨#[]⟩, .int .i64 0], .bool true]) (by simp [results, Tryd.results57, go_sem] <;> rfl) rfl ⟨rfl, ((Below.refl _ _).alloc (Nat.le_refl _) _)⟩
  have HN : Hid (rdPlain (bl s) = none) := by
    have hx : rdPlain (bl s) = none := by unfold rdPlain; rw [if_neg h0, if_neg h1, if_neg h2, if_neg h3, if_neg h4, if_neg h5, if_neg h6, if_neg h7, if_neg h8]
    exact hx
  have g0 := ba_ne h0
  have g1 := ba_ne h1
  have g2 := ba_ne h2
  have g3 := ba_ne h3
  have g4 := ba_ne h4
  have g5 := ba_ne h5
  have g6 := ba_ne h6
  have g7 := ba_ne h7
  have g8 := ba_ne h8
  clear h0 h1 h2 h3 h4 h5 h6 h7 h8
  go_enter Tryd.func57, Tryd.ntmps57
  go_wp2
  rw [HN.out]
  exact bodyPost_ret (v := .tuple #[.agg #[.int .u8 0, .int .i64 0, .string ⟨#[]⟩, .string ⟨#[]⟩, .string ⟨#[]⟩, .int .i64 0], .bool false]) (by simp [results, Tryd.results57, go_sem] <;> rfl) rfl ⟨rfl, ((Below.refl _ _).alloc (Nat.le_refl _) _)⟩

end Go.Proofs.YtkghmgoefiepeaaDoor.reads

/- kinref.split: a text cut at its points. -/
namespace Go.Proofs.YtkghmgoefiepeaaDoor.reads
open Go.ChangeShapes Go.WideShapes Go.ChangeAt Go.RowKit Kn
set_option linter.unusedSimpArgs false
set_option linter.unusedVariables false

theorem info_str : (Tryd.prog.info? 9).map (fun i => (i.zero, i.size, i.bytes)) = some (some (.string ⟨#[]⟩), 1, 16) := by kernel_rfl

set_option maxHeartbeats 1000000 in
theorem split_any (s : ByteArray) (w : World) (hs : s.size ≤ 120) :
    Calls Tryd.prog 66 #[.string s] w fun e w' => ∃ (v : Value) (ys : List ByteArray), e = .returned v ∧ w'.ownsRow w.heap.size 9 1 v ys.length (ys.map Value.string) ∧ splitDots (bl s) = ys.map bl ∧ ys.length ≤ 121 ∧ Below w.heap.size w w' := by
  obtain ⟨i0, hi, hz0, hz1, hz2⟩ := info_parts info_str
  go_enter Tryd.func66, Tryd.ntmps66
  go_wp2
  go_loopw [3, 4, 5] (fun v f i wr => ∃ (a k : Nat) (ys : List ByteArray), f = .int .i64 a ∧ i = .int .i64 k ∧ a ≤ 121 ∧ k ≤ s.size + 1 ∧ SplitTo (bl s) a k ys ∧ wr.ownsRow w.heap.size 9 1 v ys.length (ys.map Value.string) ∧ Below w.heap.size w wr)
    (fun _ _ i _ => s.size + 1 - (intOf i).toNat)
  case atStart => exact ⟨0, 0, [], rfl, rfl, by omega, by omega, splitTo_start _, World.ownsRow_nil _ _ _ _, Below.refl _ _⟩
  case round =>
    obtain ⟨a, k, ys, rfl, rfl, ha, hk, hsp, hown, hb⟩ := hrel
    have HS : Hid (SplitTo (bl s) a k ys) := hsp
    have hyl : ys.length ≤ k := hsp.1
    have hak : k ≤ s.size → a ≤ k := splitTo_le hsp
    clear hsp
    by_cases hke : k ≤ s.size
    · have hak := hak hke
      by_cases hlast : k = s.size
      · subst hlast
        go_wp2_with (first
          | (at_builtin; refine wpList_append_own _ rfl _ _ 151 rfl w.heap.size 9 i0 (.string ⟨#[]⟩) 1 16 Tryd.underlying151 hi hz0 hz1 hz2 rfl (by decide) _ _ _ rfl (hown.alloc _) ⟨wr.heap.size, 0, none⟩ 1 1 [.string (s.extract a s.size)] rfl rfl (cells_laid _ _ _) (by intro u hu; simp at hu; subst hu; rfl) (by unfold maxLen; omega) (by omega) (by have := hb.size; simp only [World.size_alloc]; omega) ?_)
          | go_in)
        intro v1 w1 hown1 hg1 _
        have hb1 := push_below hb (Nat.le_refl _) hown hg1
        have hown2 : w1.ownsRow w.heap.size 9 1 v1 (ys ++ [s.extract a s.size]).length ((ys ++ [s.extract a s.size]).map Value.string) := by simpa using hown1
        clear hown1 hown hg1 hb
        go_wp2
        go_roundw
        case rel => exact ⟨s.size + 1, s.size + 1, ys ++ [s.extract a s.size], by go_num, by go_num, by omega, by omega, splitTo_last HS.out, hown2, hb1⟩
        case measure => simp [intOf] <;> omega
      · have hlt : k < s.size := by omega
        have tl : ((k : Int) == s.size) = false := by simp; omega
        by_cases hdot : s[k].toNat = 46
        · have td : ((s[k].toNat : Int) == 46) = true := by simp; omega
          have hc : s[k] = 46 := UInt8.toNat_inj.1 (by rw [hdot]; rfl)
          have HC : Hid (s[k] = 46) := hc
          clear hdot hc
          go_wp2_with (first
            | (at_builtin; refine wpList_append_own _ rfl _ _ 151 rfl w.heap.size 9 i0 (.string ⟨#[]⟩) 1 16 Tryd.underlying151 hi hz0 hz1 hz2 rfl (by decide) _ _ _ rfl (hown.alloc _) ⟨wr.heap.size, 0, none⟩ 1 1 [.string (s.extract a k)] rfl rfl (cells_laid _ _ _) (by intro u hu; simp at hu; subst hu; rfl) (by unfold maxLen; omega) (by omega) (by have := hb.size; simp only [World.size_alloc]; omega) ?_)
            | go_in)
          intro v1 w1 hown1 hg1 _
          have hb1 := push_below hb (Nat.le_refl _) hown hg1
          have hown2 : w1.ownsRow w.heap.size 9 1 v1 (ys ++ [s.extract a k]).length ((ys ++ [s.extract a k]).map Value.string) := by simpa using hown1
          clear hown1 hown hg1 hb
          go_wp2
          go_roundw
          case rel => exact ⟨k + 1, k + 1, ys ++ [s.extract a k], by go_num, by go_num, by omega, by omega, splitTo_dot HS.out hlt HC.out, hown2, hb1⟩
          case measure => simp [intOf] <;> omega

        · have td : ((s[k].toNat : Int) == 46) = false := by simp; omega
          go_wp2
          go_roundw
          case rel => exact ⟨a, k + 1, ys, rfl, by go_num, by omega, by omega, splitTo_skip HS.out hlt (fun h => hdot (by rw [h]; rfl)), hown, hb⟩
          case measure => simp [intOf] <;> omega
    · go_wp2
      go_ret
      exact ⟨_, ys, rfl, hown, splitTo_done HS.out hke, by omega, hb⟩

end Go.Proofs.YtkghmgoefiepeaaDoor.reads
