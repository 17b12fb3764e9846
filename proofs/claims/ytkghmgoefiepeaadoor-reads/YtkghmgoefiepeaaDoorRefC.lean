/- kinref.split: a text cut at its points. -/
import Derived.Test.YtkghmgoefiepeaaDoorRefB
namespace Go.Proofs.YtkghmgoefiepeaaDoor.reads
open Go.ChangeShapes Go.WideShapes Go.ChangeAt Go.RowKit Kn
set_option linter.unusedSimpArgs false
set_option linter.unusedVariables false

theorem info_str : (Tryd.prog.info? 9).map (fun i => (i.zero, i.size, i.bytes)) = some (some (.string ⟨#[]⟩), 1, 16) := by kernel_rfl

set_option maxHeartbeats 1000000 in
theorem split_any (s : ByteArray) (w : World) (hs : s.size ≤ 120) :
    Calls Tryd.prog 66 #[.string s] w fun e w' => ∃ (v : Value) (ys : List ByteArray), e = .returned v ∧ w'.ownsRow w.heap.size 9 1 v ys.length (ys.map Value.string) ∧ splitDots (bl s) = ys.map bl ∧ ys.length ≤ 121 ∧ Below w.heap.size w w' := by
  obtain ⟨i0, hi, hz0, hz1, hz2⟩ := info_parts info_str
  go_enter Tryd.func66, Tryd.ntmps66
  go_wp2
  go_loopw [3, 4, 5] (fun v f i wr => ∃ (a k : Nat) (ys : List ByteArray), f = .int .i64 a ∧ i = .int .i64 k ∧ a ≤ 121 ∧ k ≤ s.size + 1 ∧ SplitTo (bl s) a k ys ∧ wr.ownsRow w.heap.size 9 1 v ys.length (ys.map Value.string) ∧ Below w.heap.size w wr)
    (fun _ _ i _ => s.size + 1 - (intOf i).toNat)
  case atStart => exact ⟨0, 0, [], rfl, rfl, by omega, by omega, splitTo_start _, World.ownsRow_nil _ _ _ _, Below.refl _ _⟩
  case round =>
    obtain ⟨a, k, ys, rfl, rfl, ha, hk, hsp, hown, hb⟩ := hrel
    have HS : Hid (SplitTo (bl s) a k ys) := hsp
    have hyl : ys.length ≤ k := hsp.1
    have hak : k ≤ s.size → a ≤ k := splitTo_le hsp
    clear hsp
    by_cases hke : k ≤ s.size
    · have hak := hak hke
      by_cases hlast : k = s.size
      · subst hlast
        go_wp2_with (first
          | (at_builtin; refine wpList_append_own _ rfl _ _ 151 rfl w.heap.size 9 i0 (.string ⟨#[]⟩) 1 16 Tryd.underlying151 hi hz0 hz1 hz2 rfl (by decide) _ _ _ rfl (hown.alloc _) ⟨wr.heap.size, 0, none⟩ 1 1 [.string (s.extract a s.size)] rfl rfl (cells_laid _ _ _) (by intro u hu; simp at hu; subst hu; rfl) (by unfold maxLen; omega) (by omega) (by have := hb.size; simp only [World.size_alloc]; omega) ?_)
          | go_in)
        intro v1 w1 hown1 hg1 _
        have hb1 := push_below hb (Nat.le_refl _) hown hg1
        have hown2 : w1.ownsRow w.heap.size 9 1 v1 (ys ++ [s.extract a s.size]).length ((ys ++ [s.extract a s.size]).map Value.string) := by simpa using hown1
        clear hown1 hown hg1 hb
        go_wp2
        go_roundw
        case rel => exact ⟨s.size + 1, s.size + 1, ys ++ [s.extract a s.size], by go_num, by go_num, by omega, by omega, splitTo_last HS.out, hown2, hb1⟩
        case measure => simp [intOf] <;> omega
      · have hlt : k < s.size := by omega
        have tl : ((k : Int) == s.size) = false := by simp; omega
        by_cases hdot : s[k].toNat = 46
        · have td : ((s[k].toNat : Int) == 46) = true := by simp; omega
          have hc : s[k] = 46 := UInt8.toNat_inj.1 (by rw [hdot]; rfl)
          have HC : Hid (s[k] = 46) := hc
          clear hdot hc
          go_wp2_with (first
            | (at_builtin; refine wpList_append_own _ rfl _ _ 151 rfl w.heap.size 9 i0 (.string ⟨#[]⟩) 1 16 Tryd.underlying151 hi hz0 hz1 hz2 rfl (by decide) _ _ _ rfl (hown.alloc _) ⟨wr.heap.size, 0, none⟩ 1 1 [.string (s.extract a k)] rfl rfl (cells_laid _ _ _) (by intro u hu; simp at hu; subst hu; rfl) (by unfold maxLen; omega) (by omega) (by have := hb.size; simp only [World.size_alloc]; omega) ?_)
            | go_in)
          intro v1 w1 hown1 hg1 _
          have hb1 := push_below hb (Nat.le_refl _) hown hg1
          have hown2 : w1.ownsRow w.heap.size 9 1 v1 (ys ++ [s.extract a k]).length ((ys ++ [s.extract a k]).map Value.string) := by simpa using hown1
          clear hown1 hown hg1 hb
          go_wp2
          go_roundw
          case rel => exact ⟨k + 1, k + 1, ys ++ [s.extract a k], by go_num, by go_num, by omega, by omega, splitTo_dot HS.out hlt HC.out, hown2, hb1⟩
          case measure => simp [intOf] <;> omega

        · have td : ((s[k].toNat : Int) == 46) = false := by simp; omega
          go_wp2
          go_roundw
          case rel => exact ⟨a, k + 1, ys, rfl, by go_num, by omega, by omega, splitTo_skip HS.out hlt (fun h => hdot (by rw [h]; rfl)), hown, hb⟩
          case measure => simp [intOf] <;> omega
    · go_wp2
      go_ret
      exact ⟨_, ys, rfl, hown, splitTo_done HS.out hke, by omega, hb⟩

end Go.Proofs.YtkghmgoefiepeaaDoor.reads
