/- kinref.named, whole. -/
import Derived.Test.YtkghmgoefiepeaaDoorRefE1
import Derived.Test.YtkghmgoefiepeaaDoorRefE2
import Derived.Test.YtkghmgoefiepeaaDoorRefE3
namespace Go.Proofs.YtkghmgoefiepeaaDoor.reads
open Go.ChangeShapes Go.WideShapes Go.ChangeAt Go.RowKit Kn
set_option linter.unusedSimpArgs false
set_option linter.unusedVariables false

theorem namedRest_none (l : List UInt8) (ps : List (List UInt8)) (h2 : ps.length = 2 → List.isPrefixOf [100, 114, 111, 112, 58] l = false ∧ List.isPrefixOf [109, 111, 118, 101, 58] l = false)
    (h3 : ps.length = 3 → List.isPrefixOf [99, 111, 112, 121, 58] l = false) : namedRest l ps = none := by
  unfold namedRest
  split
  · rw [(h2 rfl).1, (h2 rfl).2]; rfl
  · rw [h3 rfl]; rfl
  · rfl

theorem own_slice {w : World} {B : Nat} {e : TypeId} {v : Value} {ys : List ByteArray} (h : w.ownsRow B e 1 v ys.length (ys.map Value.string)) (hne : ys ≠ []) : ∃ g cap, v = .slice (some ⟨g, 0, none⟩) ys.length cap := by
  obtain ⟨g, cap, h, _⟩ := own_shape h hne
  exact ⟨g, cap, h⟩

set_option maxHeartbeats 2000000 in
theorem named_rest (s : ByteArray) (w : World) (hs : s.size ≤ 120) (h5 : 5 ≤ s.size) (g1 : List.isPrefixOf [110, 101, 119, 58] (bl s) = false) (g2 : List.isPrefixOf [98, 101, 58] (bl s) = false)
    (bd bm bc : Bool) (hd : List.isPrefixOf [100, 114, 111, 112, 58] (bl s) = bd) (hm : List.isPrefixOf [109, 111, 118, 101, 58] (bl s) = bm) (hc : List.isPrefixOf [99, 111, 112, 121, 58] (bl s) = bc)
    (n : Nat) (hn : (splitDots ((bl s).drop 5)).length = n) (k2 : n = 2 → bd = false ∧ bm = false) (k3 : n = 3 → bc = false) :
    Calls Tryd.prog 58 #[.string s] w fun e w' => Named s e ∧ Below w.heap.size w w' := by
  have HR : Hid (rdNamed (bl s) = none) := by
    have hx := rdNamed_rest (bl s) g1 g2 (by rw [bl_length]; omega)
    rw [namedRest_none _ _ (by rw [hn, hd, hm]; exact k2) (by rw [hn, hc]; exact k3)] at hx
    exact hx
  have G1 : Hid (List.isPrefixOf [110, 101, 119, 58] (bl s) = false) := g1
  have G2 : Hid (List.isPrefixOf [98, 101, 58] (bl s) = false) := g2
  have HD : Hid (List.isPrefixOf [100, 114, 111, 112, 58] (bl s) = bd) := hd
  have HM : Hid (List.isPrefixOf [109, 111, 118, 101, 58] (bl s) = bm) := hm
  have HC : Hid (List.isPrefixOf [99, 111, 112, 121, 58] (bl s) = bc) := hc
  have HN : Hid ((splitDots ((bl s).drop 5)).length = n) := hn
  have t2 : bd = true ∨ bm = true → ((n : Int) == 2) = false := fun h => by
    have : n ≠ 2 := fun e => by have := k2 e; simp [this.1, this.2] at h
    simp; omega
  have t3 : bc = true → ((n : Int) == 3) = false := fun h => by
    have : n ≠ 3 := fun e => by have := k3 e; simp [this] at h
    simp; omega
  have T2 : Hid (bd = true ∨ bm = true → ((n : Int) == 2) = false) := t2
  have T3 : Hid (bc = true → ((n : Int) == 3) = false) := t3
  clear g1 g2 hd hm hc hn k2 k3 t2 t3
  go_enter Tryd.func58, Tryd.ntmps58
  go_wp2_with fail
  refine (begins_c s [110, 101, 119, 58] false _ (by omega) (by simp) G1.out).mono ?_
  rintro e w1 ⟨rfl, rfl⟩
  go_wp2_with fail
  refine (begins_c s [98, 101, 58] false _ (by omega) (by simp) G2.out).mono ?_
  rintro e w1 ⟨rfl, rfl⟩
  go_wp2_with fail
  refine (split_any (s.extract 5 s.size) _ (by simp; omega)).mono ?_
  rintro e w1 ⟨v, ys, rfl, hown, hsp, hyl, hb⟩
  have hyn : ys.length = n := by
    rw [← HN.out, show (bl s).drop 5 = bl (s.extract 5 s.size) from by rw [ex_drop], hsp, List.length_map]
  have hne : ys ≠ [] := fun e => splitDots_ne (bl (s.extract 5 s.size)) (by rw [hsp, e]; rfl)
  obtain ⟨g, cap, rfl⟩ := own_slice hown hne
  subst hyn
  have hblk : w1.heap[w.heap.size]? = some (.cells #[.int .u8 0, .int .i64 0, .string ⟨#[]⟩, .string ⟨#[]⟩, .string ⟨#[]⟩, .int .i64 0] 81) := (hb.block _ (by simp)).trans (MapKept.heap_alloc w _).1
  obtain ⟨r0, r1, r2, r3, r4, r5, rf⟩ := cells6 hblk
  have hbw : Below w.heap.size w w1 := ((Below.refl _ _).alloc (Nat.le_refl _) _).trans (hb.mono (by simp))
  clear hown hsp hb hne
  cases bd <;> cases bm <;> cases bc
  all_goals
    (first | have u2 := T2.out (Or.inl rfl) | have u2 := T2.out (Or.inr rfl) | skip)
    (first | have u3 := T3.out rfl | skip)
    go_wp2_with fail
    refine (begins_c s [100, 114, 111, 112, 58] _ _ (by omega) (by simp) HD.out).mono ?_
    rintro e w2 ⟨rfl, rfl⟩
    go_wp2_with fail
    refine (begins_c s [109, 111, 118, 101, 58] _ _ (by omega) (by simp) HM.out).mono ?_
    rintro e w2 ⟨rfl, rfl⟩
    go_wp2_with fail
    refine (begins_c s [99, 111, 112, 121, 58] _ _ (by omega) (by simp) HC.out).mono ?_
    rintro e w2 ⟨rfl, rfl⟩
    go_wp2
    refine bodyPost_ret (v := .tuple #[.agg #[.int .u8 0, .int .i64 0, .string ⟨#[]⟩, .string ⟨#[]⟩, .string ⟨#[]⟩, .int .i64 0], .bool false]) (by simp [results, Tryd.results58, go_sem, r0, r1, r2, r3, r4, r5]) rfl ⟨named_mk w0 false (by rw [HR.out]; rfl) rfl, ?_⟩
    exact ((((((hbw.setCell (Nat.le_refl _) _).setCell (Nat.le_refl _) _).setCell (Nat.le_refl _) _).setCell (Nat.le_refl _) _).setCell (Nat.le_refl _) _).setCell (Nat.le_refl _) _)

theorem named_any (s : ByteArray) (w : World) (hs : s.size ≤ 120) :
    Calls Tryd.prog 58 #[.string s] w fun e w' => Named s e ∧ Below w.heap.size w w' := by
  cases g1 : List.isPrefixOf [110, 101, 119, 58] (bl s)
  · cases g2 : List.isPrefixOf [98, 101, 58] (bl s)
    · by_cases h5 : s.size < 5
      · exact named_short s w h5 g1 g2
      · have h5' : 5 ≤ s.size := by omega
        cases hd : List.isPrefixOf [100, 114, 111, 112, 58] (bl s)
        · cases hm : List.isPrefixOf [109, 111, 118, 101, 58] (bl s)
          · cases hc : List.isPrefixOf [99, 111, 112, 121, 58] (bl s)
            · exact named_rest s w hs h5' g1 g2 _ _ _ hd hm hc _ rfl (fun _ => ⟨rfl, rfl⟩) (fun _ => rfl)
            · by_cases h3 : (splitDots ((bl s).drop 5)).length = 3
              · obtain ⟨p, q, r, hp⟩ : ∃ p q r, splitDots ((bl s).drop 5) = [p, q, r] := by
                  match splitDots ((bl s).drop 5), h3 with
                  | [p, q, r], _ => exact ⟨p, q, r, rfl⟩
                exact named_copy s w hs h5' g1 g2 hc p q r hp
              · exact named_rest s w hs h5' g1 g2 _ _ _ hd hm hc _ rfl (fun _ => ⟨rfl, rfl⟩) (fun e => absurd e h3)
          · by_cases h2 : (splitDots ((bl s).drop 5)).length = 2
            · obtain ⟨p, q, hp⟩ : ∃ p q, splitDots ((bl s).drop 5) = [p, q] := by
                match splitDots ((bl s).drop 5), h2 with
                | [p, q], _ => exact ⟨p, q, rfl⟩
              exact named_move s w hs h5' g1 g2 hm p q hp
            · exact named_rest s w hs h5' g1 g2 _ _ _ hd hm (pre_excl hm (by decide)) _ rfl (fun e => absurd e h2) (fun _ => rfl)
        · by_cases h2 : (splitDots ((bl s).drop 5)).length = 2
          · obtain ⟨p, q, hp⟩ : ∃ p q, splitDots ((bl s).drop 5) = [p, q] := by
              match splitDots ((bl s).drop 5), h2 with
              | [p, q], _ => exact ⟨p, q, rfl⟩
            exact named_drop s w hs h5' g1 g2 hd p q hp
          · exact named_rest s w hs h5' g1 g2 _ _ _ hd (pre_excl hd (by decide)) (pre_excl hd (by decide)) _ rfl (fun e => absurd e h2) (fun _ => rfl)
    · exact named_be s w hs g1 g2
  · exact named_new s w hs g1

end Go.Proofs.YtkghmgoefiepeaaDoor.reads
