/- kinref.Words. -/
import Derived.Test.YtkghmgoefiepeaaDoorRefG4
import Derived.Test.YtkghmgoefiepeaaDoorSpecA
namespace Go.Proofs.YtkghmgoefiepeaaDoor.reads
open Go.ChangeShapes Go.WideShapes Go.ChangeAt Go.RowKit Kn
set_option linter.unusedSimpArgs false
set_option linter.unusedVariables false

theorem info_Word : (Tryd.prog.info? 81).map (fun i => (i.zero, i.size, i.bytes)) = some (some (.agg #[.int .u8 0, .int .i64 0, .string ⟨#[]⟩, .string ⟨#[]⟩, .string ⟨#[]⟩, .int .i64 0]), 6, 72) := by kernel_rfl

theorem own_len {w : World} {B : Nat} {e : TypeId} {size n : Nat} {v : Value} {xs : List Value} (h : w.ownsRow B e size v n xs) : ∃ p cap, v = .slice p n cap := by
  rcases h.2 with ⟨rfl, rfl⟩ | ⟨g, cap, cur, rfl, _⟩
  · exact ⟨none, 0, rfl⟩
  · exact ⟨_, _, rfl⟩
theorem below_grown {w w' : World} (h : Below w.heap.size w w') (row : Option Nat) : w.grownBy w' row := ⟨h.os, h.tape, h.output, h.size, fun k hk _ => h.block k hk⟩
theorem own_below {w w' : World} {B : Nat} {e : TypeId} {size n : Nat} {v : Value} {xs : List Value} (h : w.ownsRow B e size v n xs) (hb : Below w.heap.size w w') : w'.ownsRow B e size v n xs :=
  h.kept (below_grown hb none) (by cases v.ownBlock <;> simp)

theorem cellsW_one (p : W × Nat) : ∀ u ∈ cellsW p, u.oneCell' = true := by
  intro u hu
  simp only [cellsW, List.mem_cons, List.not_mem_nil, or_false] at hu
  rcases hu with rfl | rfl | rfl | rfl | rfl | rfl <;> rfl

theorem laid2 (w1 : World) (x : W) (j : Nat) (t : TypeId) : ∀ i u, (cellsW (x, j))[i]? = some u →
    ((w1.alloc (.cells #[.int .u8 x.k, .int .i64 x.n, .string (ofL x.sel), .string (ofL x.a), .string (ofL x.b), .int .i64 (j : Nat)] t)).alloc (.cells #[.int .u8 x.k, .int .i64 x.n, .string (ofL x.sel), .string (ofL x.a), .string (ofL x.b), .int .i64 (j : Nat)] t)).cell? ((⟨w1.heap.size + 1, 0, none⟩ : Addr).add i) = some u := by
  have h := cells_laid (w1.alloc (.cells #[.int .u8 x.k, .int .i64 x.n, .string (ofL x.sel), .string (ofL x.a), .string (ofL x.b), .int .i64 (j : Nat)] t)) (cellsW (x, j)) t
  rw [World.size_alloc] at h
  exact h

theorem words_long (s : ByteArray) (w : World) (hs : 120 < s.size) (hm : s.size ≤ maxLen) :
    Calls Tryd.prog 25 #[.string s] w fun e w' => e = .returned (.tuple #[.slice none 0 0, .int .i64 0]) ∧ w' = w := by
  unfold maxLen at hm
  go_enter Tryd.func25, Tryd.ntmps25
  go_wp2
  go_ret2
  exact ⟨rfl, rfl⟩

set_option maxHeartbeats 2000000 in
set_option maxRecDepth 100000 in
theorem words_any (s : ByteArray) (w : World) (hs : s.size ≤ 120) :
    Calls Tryd.prog 25 #[.string s] w fun e w' => ∃ v : Value, e = .returned (.tuple #[v, .int .i64 (wordsAll (bl s)).2]) ∧
      ((wordsAll (bl s)).2 = -1 → w'.ownsRow w.heap.size 81 6 v (wordsAll (bl s)).1.length (cellsWs (wordsAll (bl s)).1)) ∧ Below w.heap.size w w' := by
  obtain ⟨i0, hi, hz0, hz1, hz2⟩ := info_parts info_Word
  go_enter Tryd.func25, Tryd.ntmps25
  go_wp2
  go_loopw [4, 5] (fun v i wr => ∃ (j : Nat) (acc : List (W × Nat)), i = .int .i64 j ∧ j ≤ s.size ∧ WordsTo (bl s) j acc ∧ wr.ownsRow w.heap.size 81 6 v acc.length (cellsWs acc) ∧ Below w.heap.size w wr)
    (fun _ i _ => s.size - (intOf i).toNat)
  case atStart => exact ⟨0, [], rfl, by omega, wordsTo_start _, World.ownsRow_nil _ _ _ _, Below.refl _ _⟩
  case round =>
    obtain ⟨j, acc, rfl, hj, hwt, hown, hb⟩ := hrel
    have HW : Hid (WordsTo (bl s) j acc) := hwt
    have hal : acc.length ≤ 40 := hwt.2.2
    clear hwt
    by_cases hlt : j < s.size
    · have hg := bl_getD s j hlt
      by_cases h32 : s[j].toNat = 32
      · have t32 : ((s[j].toNat : Int) == 32) = true := by simp; omega
        have HB : Hid ((bl s)[j]?.getD 0 = 32) := by
          have hx : (bl s)[j]?.getD 0 = 32 := by rw [hg]; exact UInt8.toNat_inj.1 (by rw [h32]; rfl)
          exact hx
        clear hg h32
        go_wp2
        go_roundw
        case rel => exact ⟨j + 1, acc, by go_num, by omega, wordsTo_blank HW.out (by rw [bl_length]; exact hlt) HB.out, hown, hb⟩
        case measure => simp [intOf] <;> omega
      · have t32 : ((s[j].toNat : Int) == 32) = false := by simp; omega
        have HB : Hid (¬ (bl s)[j]?.getD 0 = 32) := by
          have hx : ¬ (bl s)[j]?.getD 0 = 32 := by rw [hg]; intro e; exact h32 (by rw [e]; rfl)
          exact hx
        clear hg h32
        go_wp2
        go_loop [6] (fun k => ∃ q : Nat, k = .int .i64 q ∧ j ≤ q ∧ q ≤ s.size ∧ ∀ a, j ≤ a → a < q → ¬ (bl s)[a]?.getD 0 = 32) (fun k => s.size - (intOf k).toNat)
        case atStart => exact ⟨j, rfl, by omega, by omega, fun a h1 h2 => by omega⟩
        case round =>
          obtain ⟨q, rfl, hjq, hq, hin⟩ := hrel
          have HI : Hid (∀ a, j ≤ a → a < q → ¬ (bl s)[a]?.getD 0 = 32) := hin
          clear hin
          by_cases hmore : ∃ h : q < s.size, ¬ s[q].toNat = 32
          · obtain ⟨hqs, hq32⟩ := hmore
            have hgq := bl_getD s q hqs
            have HQ : Hid (¬ (bl s)[q]?.getD 0 = 32) := by
              have hx : ¬ (bl s)[q]?.getD 0 = 32 := by rw [hgq]; intro e; exact hq32 (by rw [e]; rfl)
              exact hx
            have tq : ((s[q].toNat : Int) == 32) = false := by simp; omega
            have tq2 : ((s[q].toNat : Int) != 32) = true := by simp; omega
            clear hgq hq32
            go_wp2
            go_round
            case rel =>
              refine ⟨q + 1, by go_num, by omega, by omega, fun a h1 h2 => ?_⟩
              by_cases e : a = q
              · subst e; exact HQ.out
              · exact HI.out a h1 (by omega)
            case measure => simp [intOf] <;> omega
          · have htok : tok (bl s) j = ((bl s).take q).drop j ∧ j + (tok (bl s) j).length = q := by
              refine tok_eq (bl s) j q hjq (by rw [bl_length]; exact hq) HI.out ?_
              by_cases hqs : q < s.size
              · right
                have : s[q].toNat = 32 := by
                  by_cases h : s[q].toNat = 32
                  · exact h
                  · exact absurd ⟨hqs, h⟩ hmore
                rw [bl_getD s q hqs]; exact UInt8.toNat_inj.1 (by rw [this]; rfl)
              · left; rw [bl_length]; omega
            have hjq2 : j < q := by
              have := tok_pos (bl s) j (by rw [bl_length]; exact hlt) HB.out
              omega
            have HT : Hid (tok (bl s) j = bl (s.extract j q) ∧ j + (tok (bl s) j).length = q) := by
              have hx : tok (bl s) j = bl (s.extract j q) ∧ j + (tok (bl s) j).length = q := ⟨by rw [ex_mid, bl_ofL]; exact htok.1, htok.2⟩
              exact hx
            have hxs : (s.extract j q).size ≤ 120 := by simp; omega
            have hx1 : 1 ≤ (s.extract j q).size := by simp; omega
            have hstop : (∃ h : q < s.size, s[q].toNat = 32) ∨ q = s.size := by
              by_cases hqs : q < s.size
              · left
                exact ⟨hqs, by
                  by_cases h : s[q].toNat = 32
                  · exact h
                  · exact absurd ⟨hqs, h⟩ hmore⟩
              · right; omega
            clear htok hmore
            rcases hstop with ⟨hqs, hq32⟩ | hqe
            rotate_left
            have tq2 : ¬ q < s.size := by omega
            clear hqe
            go_wp2_with fail
            rotate_left
            have tq : ((s[q].toNat : Int) == 32) = true := by simp; omega
            have tq2 : ((s[q].toNat : Int) != 32) = false := by simp; omega
            clear hq32
            go_wp2_with fail
            all_goals
              refine (read_any (s.extract j q) _ hxs hx1).mono ?_
              rintro e w1 ⟨⟨x, rfl, hxy⟩, hb1⟩
              have hrd : rd (tok (bl s) j) = rd (bl (s.extract j q)) := by rw [HT.out.1]
              have hown1 := own_below hown hb1
              have hbw := hb.trans (hb1.mono hb.size)
              have hsz := hb1.size
              have hsz0 := hb.size
              obtain ⟨pv, cap, rfl⟩ := own_len hown
              simp only [encW]
              cases hr : rd (bl (s.extract j q)) with
              | none =>
                have HZ : Hid (wordsAll (bl s) = ([], (j : Int))) := wordsTo_bad HW.out (by rw [bl_length]; exact hlt) HB.out (by rw [hrd]; exact hr)
                simp only [Option.isSome_none]
                clear hr hrd hxy hown
                go_wp2
                go_ret2
                refine ⟨_, by rw [HZ.out]; rfl, fun e => ?_, hbw.alloc (by omega) _⟩
                rw [HZ.out] at e
                simp at e
              | some y =>
                obtain rfl := hxy y hr
                have HR : Hid (rd (tok (bl s) j) = some x) := hrd.trans hr
                simp only [Option.isSome_some]
                clear hr hrd hxy hown
                by_cases h40 : acc.length = 40
                · have HZ : Hid (wordsAll (bl s) = ([], (j : Int))) := wordsTo_full HW.out (by rw [bl_length]; exact hlt) HB.out h40
                  have t40 : ((acc.length : Int) == 40) = true := by simp; omega
                  clear h40
                  go_wp2
                  go_ret2
                  refine ⟨_, by rw [HZ.out]; rfl, fun e => ?_, hbw.alloc (by omega) _⟩
                  rw [HZ.out] at e
                  simp at e
                · have t40 : ((acc.length : Int) == 40) = false := by simp; omega
                  have hnews := laid2 w1 x j 81
                  go_wp2_with (first
                    | (at_builtin; refine wpList_append_own _ rfl _ _ 76 rfl w.heap.size 81 i0 (.agg #[.int .u8 0, .int .i64 0, .string ⟨#[]⟩, .string ⟨#[]⟩, .string ⟨#[]⟩, .int .i64 0]) 6 72 Tryd.underlying76 hi hz0 hz1 hz2 rfl (by decide) _ _ _ rfl ((hown1.alloc _).alloc _) ⟨w1.heap.size + 1, 0, none⟩ 1 1 (cellsW (x, j)) rfl rfl hnews (cellsW_one _) (by unfold maxLen; omega) (by omega) (by simp only [World.size_alloc]; omega) ?_)
                    | go_in)
                  intro v2 w2 hown2 hg2 _
                  have HN : Hid (WordsTo (bl s) q (acc ++ [(x, j)])) := by
                    have hx := wordsTo_word HW.out (by rw [bl_length]; exact hlt) HB.out HR.out h40
                    rw [HT.out.2] at hx
                    exact hx
                  have hown3 : w2.ownsRow w.heap.size 81 6 v2 (acc ++ [(x, j)]).length (cellsWs (acc ++ [(x, j)])) := by
                    rw [cellsWs_snoc, List.length_append]
                    exact hown2
                  have hb2 : Below w.heap.size w w2 := push_below (hbw.alloc (by omega) _) (Nat.le_refl _) (hown1.alloc _) hg2
                  clear hown2 hown1 hg2 hbw hnews
                  go_wp2
                  go_roundw
                  case rel => exact ⟨q, acc ++ [(x, j)], rfl, by omega, HN.out, hown3, hb2⟩
                  case measure => simp [intOf] <;> omega
    · go_wp2
      go_ret2
      refine ⟨_, by rw [wordsTo_end HW.out (by rw [bl_length]; exact hlt)]; rfl, fun _ => ?_, hb⟩
      rw [wordsTo_end HW.out (by rw [bl_length]; exact hlt)]
      exact hown

end Go.Proofs.YtkghmgoefiepeaaDoor.reads
