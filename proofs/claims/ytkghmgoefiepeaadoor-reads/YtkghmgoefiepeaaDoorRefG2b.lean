/- kinref.Read: no word. -/
import Derived.Test.YtkghmgoefiepeaaDoorRefG1
namespace Go.Proofs.YtkghmgoefiepeaaDoor.reads
open Go.ChangeShapes Go.WideShapes Go.ChangeAt Go.RowKit Kn
set_option linter.unusedSimpArgs false
set_option linter.unusedVariables false
attribute [local go_sem ↓] Go.wp_at_zero Go.wp_at_succ

set_option maxHeartbeats 4000000 in
theorem read_none62a (s : ByteArray) (w : World) (hs : s.size ≤ 120) (h1 : 1 ≤ s.size) (hp : rdPlain (bl s) = none) (hn : rdNamed (bl s) = none) (hsel : selector (bl s) = false)
    (m m4 m2 m1 : Int) (hm : numI (bl s) 4 = m) (hm4 : numI (bl (s.extract 1 s.size)) 4 = m4) (hm2 : numI (bl (s.extract 1 s.size)) 2 = m2) (hm1 : numI (bl (s.extract 1 s.size)) 1 = m1) (hc : s[0].toNat = 62) (hm0 : m < 0) (hx : m2 < 0) (h3 : s.size = 3) (hx2 : ((s.extract 0 2).toList == [61, 115]) = false) :
    Calls Tryd.prog 44 #[.string s] w fun e w' => e = .returned (.tuple #[encW w0 0, .bool false]) ∧ Below w.heap.size w w' := by
  have t94 : ((s[0].toNat : Int) == 94) = false := by simp; omega
  have t45 : ((s[0].toNat : Int) == 45) = false := by simp; omega
  have t62 : ((s[0].toNat : Int) == 62) = true := by simp; omega
  have t63 : ((s[0].toNat : Int) == 63) = false := by simp; omega
  have t97 : ((s[0].toNat : Int) == 97) = false := by simp; omega
  have t115 : ((s[0].toNat : Int) == 115) = false := by simp; omega
  have t3 : ((s.size : Int) == 3) = true := by simp; omega
  have h33 : 2 ≤ s.size := by omega
  clear h3
  have hxs : (s.extract 1 s.size).size ≤ 119 := by simp; omega
  have h0s : 0 < s.size := by omega
  have HP : Hid (rdPlain (bl s) = none) := hp
  have HNm : Hid (rdNamed (bl s) = none) := hn
  have B1 : Hid (selector (bl s) = false) := hsel
  have HM : Hid (numI (bl s) 4 = m) := hm
  have HM4 : Hid (numI (bl (s.extract 1 s.size)) 4 = m4) := hm4
  have HM2 : Hid (numI (bl (s.extract 1 s.size)) 2 = m2) := hm2
  have HM1 : Hid (numI (bl (s.extract 1 s.size)) 1 = m1) := hm1
  have hmb := numI_lt (bl s) 4 (by omega)
  have hm4b := numI_lt (bl (s.extract 1 s.size)) 4 (by omega)
  have hm2b := numI_lt (bl (s.extract 1 s.size)) 2 (by omega)
  have hm1b := numI_lt (bl (s.extract 1 s.size)) 1 (by omega)
  rw [hm] at hmb
  rw [hm4] at hm4b
  rw [hm2] at hm2b
  rw [hm1] at hm1b
  obtain ⟨hma, hmc⟩ := hmb
  obtain ⟨hm4a, hm4c⟩ := hm4b
  obtain ⟨hm2a, hm2c⟩ := hm2b
  obtain ⟨hm1a, hm1c⟩ := hm1b
  clear hp hn hsel hm hm4 hm2 hm1 hc
  go_enter Tryd.func44, Tryd.ntmps44
  go_wp2_with fail
  refine (plain_any s _ (by unfold maxLen; omega)).mono ?_
  rintro e w1 ⟨rfl, hb1⟩
  rw [HP.out]
  simp only [encW, Option.getD_none, Option.isSome_none, w0]
  obtain ⟨hlt1, hne1, hblk, hbw⟩ := read_w1 hb1
  clear hb1
  go_wp2_with fail
  refine (named_any s _ hs).mono ?_
  rintro e w2 ⟨⟨x, rfl, hxy⟩, hb2⟩
  rw [HNm.out]
  simp only [encW, Option.isSome_none]
  obtain ⟨hblk2, hblk3, hbw2⟩ := read_w2 hlt1 hblk hbw hb2
  obtain ⟨u0, u1, u2, u3, u4, u5, uf⟩ := cells6 hblk3
  clear hb2 hblk hbw hxy
  go_wp2_with fail
  refine (selector_b s _ _ (by unfold maxLen; omega) B1.out).mono ?_
  rintro e W3 ⟨rfl, hW3⟩
  have hblk4 : W3.heap[w.heap.size]? = some (.cells #[.int .u8 0, .int .i64 0, .string ⟨#[]⟩, .string ⟨#[]⟩, .string ⟨#[]⟩, .int .i64 0] 81) := by rw [hW3, block6 hne1]; exact hblk2
  have hb4 : Below w.heap.size w W3 := by rw [hW3]; exact below6 hbw2 (Nat.le_of_lt hlt1) _ _ _ _ _ _
  clear hW3 u0 u1 u2 u3 u4 u5 uf hblk2 hblk3 hbw2
  obtain ⟨q0, q1, q2, q3, q4, q5, qf⟩ := cells6 hblk4
  clear hblk4
  go_wp2_with fail
  refine (number_b s 4 _ _ (by unfold maxLen; omega) (by omega) HM.out).mono ?_
  rintro e w' ⟨rfl, rfl⟩
  go_wp2_with fail
  refine (number_b (s.extract 1 s.size) 4 _ _ (by unfold maxLen; omega) (by omega) HM4.out).mono ?_
  rintro e w' ⟨rfl, rfl⟩
  go_wp2_with fail
  refine (number_b (s.extract 1 s.size) 2 _ _ (by unfold maxLen; omega) (by omega) HM2.out).mono ?_
  rintro e w' ⟨rfl, rfl⟩
  go_wp2_with fail
  refine (number_b (s.extract 1 s.size) 1 _ _ (by unfold maxLen; omega) (by omega) HM1.out).mono ?_
  rintro e w' ⟨rfl, rfl⟩
  go_wp2
  refine bodyPost_ret (v := .tuple #[.agg #[.int .u8 0, .int .i64 0, .string ⟨#[]⟩, .string ⟨#[]⟩, .string ⟨#[]⟩, .int .i64 0], .bool false]) (by simp [results, Tryd.results44, go_sem, q0, q1, q2, q3, q4, q5]) rfl ⟨?_, ?_⟩
  · rfl
  · exact below6 hb4 (Nat.le_refl _) _ _ _ _ _ _

set_option maxHeartbeats 4000000 in
theorem read_none62b (s : ByteArray) (w : World) (hs : s.size ≤ 120) (h1 : 1 ≤ s.size) (hp : rdPlain (bl s) = none) (hn : rdNamed (bl s) = none) (hsel : selector (bl s) = false)
    (m m4 m2 m1 : Int) (hm : numI (bl s) 4 = m) (hm4 : numI (bl (s.extract 1 s.size)) 4 = m4) (hm2 : numI (bl (s.extract 1 s.size)) 2 = m2) (hm1 : numI (bl (s.extract 1 s.size)) 1 = m1) (hc : s[0].toNat = 62) (hm0 : m < 0) (hx : m2 < 0) (h3 : s.size ≠ 3) :
    Calls Tryd.prog 44 #[.string s] w fun e w' => e = .returned (.tuple #[encW w0 0, .bool false]) ∧ Below w.heap.size w w' := by
  have t94 : ((s[0].toNat : Int) == 94) = false := by simp; omega
  have t45 : ((s[0].toNat : Int) == 45) = false := by simp; omega
  have t62 : ((s[0].toNat : Int) == 62) = true := by simp; omega
  have t63 : ((s[0].toNat : Int) == 63) = false := by simp; omega
  have t97 : ((s[0].toNat : Int) == 97) = false := by simp; omega
  have t115 : ((s[0].toNat : Int) == 115) = false := by simp; omega
  have t3 : ((s.size : Int) == 3) = false := by simp; omega
  have hxs : (s.extract 1 s.size).size ≤ 119 := by simp; omega
  have h0s : 0 < s.size := by omega
  have HP : Hid (rdPlain (bl s) = none) := hp
  have HNm : Hid (rdNamed (bl s) = none) := hn
  have B1 : Hid (selector (bl s) = false) := hsel
  have HM : Hid (numI (bl s) 4 = m) := hm
  have HM4 : Hid (numI (bl (s.extract 1 s.size)) 4 = m4) := hm4
  have HM2 : Hid (numI (bl (s.extract 1 s.size)) 2 = m2) := hm2
  have HM1 : Hid (numI (bl (s.extract 1 s.size)) 1 = m1) := hm1
  have hmb := numI_lt (bl s) 4 (by omega)
  have hm4b := numI_lt (bl (s.extract 1 s.size)) 4 (by omega)
  have hm2b := numI_lt (bl (s.extract 1 s.size)) 2 (by omega)
  have hm1b := numI_lt (bl (s.extract 1 s.size)) 1 (by omega)
  rw [hm] at hmb
  rw [hm4] at hm4b
  rw [hm2] at hm2b
  rw [hm1] at hm1b
  obtain ⟨hma, hmc⟩ := hmb
  obtain ⟨hm4a, hm4c⟩ := hm4b
  obtain ⟨hm2a, hm2c⟩ := hm2b
  obtain ⟨hm1a, hm1c⟩ := hm1b
  clear hp hn hsel hm hm4 hm2 hm1 hc
  go_enter Tryd.func44, Tryd.ntmps44
  go_wp2_with fail
  refine (plain_any s _ (by unfold maxLen; omega)).mono ?_
  rintro e w1 ⟨rfl, hb1⟩
  rw [HP.out]
  simp only [encW, Option.getD_none, Option.isSome_none, w0]
  obtain ⟨hlt1, hne1, hblk, hbw⟩ := read_w1 hb1
  clear hb1
  go_wp2_with fail
  refine (named_any s _ hs).mono ?_
  rintro e w2 ⟨⟨x, rfl, hxy⟩, hb2⟩
  rw [HNm.out]
  simp only [encW, Option.isSome_none]
  obtain ⟨hblk2, hblk3, hbw2⟩ := read_w2 hlt1 hblk hbw hb2
  obtain ⟨u0, u1, u2, u3, u4, u5, uf⟩ := cells6 hblk3
  clear hb2 hblk hbw hxy
  go_wp2_with fail
  refine (selector_b s _ _ (by unfold maxLen; omega) B1.out).mono ?_
  rintro e W3 ⟨rfl, hW3⟩
  have hblk4 : W3.heap[w.heap.size]? = some (.cells #[.int .u8 0, .int .i64 0, .string ⟨#[]⟩, .string ⟨#[]⟩, .string ⟨#[]⟩, .int .i64 0] 81) := by rw [hW3, block6 hne1]; exact hblk2
  have hb4 : Below w.heap.size w W3 := by rw [hW3]; exact below6 hbw2 (Nat.le_of_lt hlt1) _ _ _ _ _ _
  clear hW3 u0 u1 u2 u3 u4 u5 uf hblk2 hblk3 hbw2
  obtain ⟨q0, q1, q2, q3, q4, q5, qf⟩ := cells6 hblk4
  clear hblk4
  go_wp2_with fail
  refine (number_b s 4 _ _ (by unfold maxLen; omega) (by omega) HM.out).mono ?_
  rintro e w' ⟨rfl, rfl⟩
  go_wp2_with fail
  refine (number_b (s.extract 1 s.size) 4 _ _ (by unfold maxLen; omega) (by omega) HM4.out).mono ?_
  rintro e w' ⟨rfl, rfl⟩
  go_wp2_with fail
  refine (number_b (s.extract 1 s.size) 2 _ _ (by unfold maxLen; omega) (by omega) HM2.out).mono ?_
  rintro e w' ⟨rfl, rfl⟩
  go_wp2_with fail
  refine (number_b (s.extract 1 s.size) 1 _ _ (by unfold maxLen; omega) (by omega) HM1.out).mono ?_
  rintro e w' ⟨rfl, rfl⟩
  go_wp2
  refine bodyPost_ret (v := .tuple #[.agg #[.int .u8 0, .int .i64 0, .string ⟨#[]⟩, .string ⟨#[]⟩, .string ⟨#[]⟩, .int .i64 0], .bool false]) (by simp [results, Tryd.results44, go_sem, q0, q1, q2, q3, q4, q5]) rfl ⟨?_, ?_⟩
  · rfl
  · exact below6 hb4 (Nat.le_refl _) _ _ _ _ _ _

set_option maxHeartbeats 4000000 in
theorem read_none63a (s : ByteArray) (w : World) (hs : s.size ≤ 120) (h1 : 1 ≤ s.size) (hp : rdPlain (bl s) = none) (hn : rdNamed (bl s) = none) (hsel : selector (bl s) = false)
    (m m4 m2 m1 : Int) (hm : numI (bl s) 4 = m) (hm4 : numI (bl (s.extract 1 s.size)) 4 = m4) (hm2 : numI (bl (s.extract 1 s.size)) 2 = m2) (hm1 : numI (bl (s.extract 1 s.size)) 1 = m1) (hc : s[0].toNat = 63) (hm0 : m < 0) (hx : m2 < 0) (h3 : s.size = 3) (hx2 : ((s.extract 0 2).toList == [61, 115]) = false) :
    Calls Tryd.prog 44 #[.string s] w fun e w' => e = .returned (.tuple #[encW w0 0, .bool false]) ∧ Below w.heap.size w w' := by
  have t94 : ((s[0].toNat : Int) == 94) = false := by simp; omega
  have t45 : ((s[0].toNat : Int) == 45) = false := by simp; omega
  have t62 : ((s[0].toNat : Int) == 62) = false := by simp; omega
  have t63 : ((s[0].toNat : Int) == 63) = true := by simp; omega
  have t97 : ((s[0].toNat : Int) == 97) = false := by simp; omega
  have t115 : ((s[0].toNat : Int) == 115) = false := by simp; omega
  have t3 : ((s.size : Int) == 3) = true := by simp; omega
  have h33 : 2 ≤ s.size := by omega
  clear h3
  have hxs : (s.extract 1 s.size).size ≤ 119 := by simp; omega
  have h0s : 0 < s.size := by omega
  have HP : Hid (rdPlain (bl s) = none) := hp
  have HNm : Hid (rdNamed (bl s) = none) := hn
  have B1 : Hid (selector (bl s) = false) := hsel
  have HM : Hid (numI (bl s) 4 = m) := hm
  have HM4 : Hid (numI (bl (s.extract 1 s.size)) 4 = m4) := hm4
  have HM2 : Hid (numI (bl (s.extract 1 s.size)) 2 = m2) := hm2
  have HM1 : Hid (numI (bl (s.extract 1 s.size)) 1 = m1) := hm1
  have hmb := numI_lt (bl s) 4 (by omega)
  have hm4b := numI_lt (bl (s.extract 1 s.size)) 4 (by omega)
  have hm2b := numI_lt (bl (s.extract 1 s.size)) 2 (by omega)
  have hm1b := numI_lt (bl (s.extract 1 s.size)) 1 (by omega)
  rw [hm] at hmb
  rw [hm4] at hm4b
  rw [hm2] at hm2b
  rw [hm1] at hm1b
  obtain ⟨hma, hmc⟩ := hmb
  obtain ⟨hm4a, hm4c⟩ := hm4b
  obtain ⟨hm2a, hm2c⟩ := hm2b
  obtain ⟨hm1a, hm1c⟩ := hm1b
  clear hp hn hsel hm hm4 hm2 hm1 hc
  go_enter Tryd.func44, Tryd.ntmps44
  go_wp2_with fail
  refine (plain_any s _ (by unfold maxLen; omega)).mono ?_
  rintro e w1 ⟨rfl, hb1⟩
  rw [HP.out]
  simp only [encW, Option.getD_none, Option.isSome_none, w0]
  obtain ⟨hlt1, hne1, hblk, hbw⟩ := read_w1 hb1
  clear hb1
  go_wp2_with fail
  refine (named_any s _ hs).mono ?_
  rintro e w2 ⟨⟨x, rfl, hxy⟩, hb2⟩
  rw [HNm.out]
  simp only [encW, Option.isSome_none]
  obtain ⟨hblk2, hblk3, hbw2⟩ := read_w2 hlt1 hblk hbw hb2
  obtain ⟨u0, u1, u2, u3, u4, u5, uf⟩ := cells6 hblk3
  clear hb2 hblk hbw hxy
  go_wp2_with fail
  refine (selector_b s _ _ (by unfold maxLen; omega) B1.out).mono ?_
  rintro e W3 ⟨rfl, hW3⟩
  have hblk4 : W3.heap[w.heap.size]? = some (.cells #[.int .u8 0, .int .i64 0, .string ⟨#[]⟩, .string ⟨#[]⟩, .string ⟨#[]⟩, .int .i64 0] 81) := by rw [hW3, block6 hne1]; exact hblk2
  have hb4 : Below w.heap.size w W3 := by rw [hW3]; exact below6 hbw2 (Nat.le_of_lt hlt1) _ _ _ _ _ _
  clear hW3 u0 u1 u2 u3 u4 u5 uf hblk2 hblk3 hbw2
  obtain ⟨q0, q1, q2, q3, q4, q5, qf⟩ := cells6 hblk4
  clear hblk4
  go_wp2_with fail
  refine (number_b s 4 _ _ (by unfold maxLen; omega) (by omega) HM.out).mono ?_
  rintro e w' ⟨rfl, rfl⟩
  go_wp2_with fail
  refine (number_b (s.extract 1 s.size) 4 _ _ (by unfold maxLen; omega) (by omega) HM4.out).mono ?_
  rintro e w' ⟨rfl, rfl⟩
  go_wp2_with fail
  refine (number_b (s.extract 1 s.size) 2 _ _ (by unfold maxLen; omega) (by omega) HM2.out).mono ?_
  rintro e w' ⟨rfl, rfl⟩
  go_wp2_with fail
  refine (number_b (s.extract 1 s.size) 1 _ _ (by unfold maxLen; omega) (by omega) HM1.out).mono ?_
  rintro e w' ⟨rfl, rfl⟩
  go_wp2
  refine bodyPost_ret (v := .tuple #[.agg #[.int .u8 0, .int .i64 0, .string ⟨#[]⟩, .string ⟨#[]⟩, .string ⟨#[]⟩, .int .i64 0], .bool false]) (by simp [results, Tryd.results44, go_sem, q0, q1, q2, q3, q4, q5]) rfl ⟨?_, ?_⟩
  · rfl
  · exact below6 hb4 (Nat.le_refl _) _ _ _ _ _ _

set_option maxHeartbeats 4000000 in
theorem read_none63b (s : ByteArray) (w : World) (hs : s.size ≤ 120) (h1 : 1 ≤ s.size) (hp : rdPlain (bl s) = none) (hn : rdNamed (bl s) = none) (hsel : selector (bl s) = false)
    (m m4 m2 m1 : Int) (hm : numI (bl s) 4 = m) (hm4 : numI (bl (s.extract 1 s.size)) 4 = m4) (hm2 : numI (bl (s.extract 1 s.size)) 2 = m2) (hm1 : numI (bl (s.extract 1 s.size)) 1 = m1) (hc : s[0].toNat = 63) (hm0 : m < 0) (hx : m2 < 0) (h3 : s.size ≠ 3) :
    Calls Tryd.prog 44 #[.string s] w fun e w' => e = .returned (.tuple #[encW w0 0, .bool false]) ∧ Below w.heap.size w w' := by
  have t94 : ((s[0].toNat : Int) == 94) = false := by simp; omega
  have t45 : ((s[0].toNat : Int) == 45) = false := by simp; omega
  have t62 : ((s[0].toNat : Int) == 62) = false := by simp; omega
  have t63 : ((s[0].toNat : Int) == 63) = true := by simp; omega
  have t97 : ((s[0].toNat : Int) == 97) = false := by simp; omega
  have t115 : ((s[0].toNat : Int) == 115) = false := by simp; omega
  have t3 : ((s.size : Int) == 3) = false := by simp; omega
  have hxs : (s.extract 1 s.size).size ≤ 119 := by simp; omega
  have h0s : 0 < s.size := by omega
  have HP : Hid (rdPlain (bl s) = none) := hp
  have HNm : Hid (rdNamed (bl s) = none) := hn
  have B1 : Hid (selector (bl s) = false) := hsel
  have HM : Hid (numI (bl s) 4 = m) := hm
  have HM4 : Hid (numI (bl (s.extract 1 s.size)) 4 = m4) := hm4
  have HM2 : Hid (numI (bl (s.extract 1 s.size)) 2 = m2) := hm2
  have HM1 : Hid (numI (bl (s.extract 1 s.size)) 1 = m1) := hm1
  have hmb := numI_lt (bl s) 4 (by omega)
  have hm4b := numI_lt (bl (s.extract 1 s.size)) 4 (by omega)
  have hm2b := numI_lt (bl (s.extract 1 s.size)) 2 (by omega)
  have hm1b := numI_lt (bl (s.extract 1 s.size)) 1 (by omega)
  rw [hm] at hmb
  rw [hm4] at hm4b
  rw [hm2] at hm2b
  rw [hm1] at hm1b
  obtain ⟨hma, hmc⟩ := hmb
  obtain ⟨hm4a, hm4c⟩ := hm4b
  obtain ⟨hm2a, hm2c⟩ := hm2b
  obtain ⟨hm1a, hm1c⟩ := hm1b
  clear hp hn hsel hm hm4 hm2 hm1 hc
  go_enter Tryd.func44, Tryd.ntmps44
  go_wp2_with fail
  refine (plain_any s _ (by unfold maxLen; omega)).mono ?_
  rintro e w1 ⟨rfl, hb1⟩
  rw [HP.out]
  simp only [encW, Option.getD_none, Option.isSome_none, w0]
  obtain ⟨hlt1, hne1, hblk, hbw⟩ := read_w1 hb1
  clear hb1
  go_wp2_with fail
  refine (named_any s _ hs).mono ?_
  rintro e w2 ⟨⟨x, rfl, hxy⟩, hb2⟩
  rw [HNm.out]
  simp only [encW, Option.isSome_none]
  obtain ⟨hblk2, hblk3, hbw2⟩ := read_w2 hlt1 hblk hbw hb2
  obtain ⟨u0, u1, u2, u3, u4, u5, uf⟩ := cells6 hblk3
  clear hb2 hblk hbw hxy
  go_wp2_with fail
  refine (selector_b s _ _ (by unfold maxLen; omega) B1.out).mono ?_
  rintro e W3 ⟨rfl, hW3⟩
  have hblk4 : W3.heap[w.heap.size]? = some (.cells #[.int .u8 0, .int .i64 0, .string ⟨#[]⟩, .string ⟨#[]⟩, .string ⟨#[]⟩, .int .i64 0] 81) := by rw [hW3, block6 hne1]; exact hblk2
  have hb4 : Below w.heap.size w W3 := by rw [hW3]; exact below6 hbw2 (Nat.le_of_lt hlt1) _ _ _ _ _ _
  clear hW3 u0 u1 u2 u3 u4 u5 uf hblk2 hblk3 hbw2
  obtain ⟨q0, q1, q2, q3, q4, q5, qf⟩ := cells6 hblk4
  clear hblk4
  go_wp2_with fail
  refine (number_b s 4 _ _ (by unfold maxLen; omega) (by omega) HM.out).mono ?_
  rintro e w' ⟨rfl, rfl⟩
  go_wp2_with fail
  refine (number_b (s.extract 1 s.size) 4 _ _ (by unfold maxLen; omega) (by omega) HM4.out).mono ?_
  rintro e w' ⟨rfl, rfl⟩
  go_wp2_with fail
  refine (number_b (s.extract 1 s.size) 2 _ _ (by unfold maxLen; omega) (by omega) HM2.out).mono ?_
  rintro e w' ⟨rfl, rfl⟩
  go_wp2_with fail
  refine (number_b (s.extract 1 s.size) 1 _ _ (by unfold maxLen; omega) (by omega) HM1.out).mono ?_
  rintro e w' ⟨rfl, rfl⟩
  go_wp2
  refine bodyPost_ret (v := .tuple #[.agg #[.int .u8 0, .int .i64 0, .string ⟨#[]⟩, .string ⟨#[]⟩, .string ⟨#[]⟩, .int .i64 0], .bool false]) (by simp [results, Tryd.results44, go_sem, q0, q1, q2, q3, q4, q5]) rfl ⟨?_, ?_⟩
  · rfl
  · exact below6 hb4 (Nat.le_refl _) _ _ _ _ _ _

end Go.Proofs.YtkghmgoefiepeaaDoor.reads
