/- kinref.Read, whole. -/
import Derived.Test.YtkghmgoefiepeaaDoorRefG2
import Derived.Test.YtkghmgoefiepeaaDoorRefG2b
import Derived.Test.YtkghmgoefiepeaaDoorRefG2c
import Derived.Test.YtkghmgoefiepeaaDoorRefG2d
import Derived.Test.YtkghmgoefiepeaaDoorRefG3
namespace Go.Proofs.YtkghmgoefiepeaaDoor.reads
open Go.ChangeShapes Go.WideShapes Go.ChangeAt Go.RowKit Kn
set_option linter.unusedSimpArgs false
set_option linter.unusedVariables false

theorem numI_first (s : ByteArray) (h1 : 1 ≤ s.size) (m : Nat) (h : ¬ (48 ≤ s[0].toNat ∧ s[0].toNat ≤ 57)) : numI (bl s) m = -1 :=
  numI_bad _ _ 0 s[0] (bl_get s 0 (by omega)) (by rw [Bool.eq_false_iff]; intro e; exact h (isDig_iff.1 e))

theorem isRd_no {s : ByteArray} {e : Ending} (h : rd (bl s) = none) (he : e = .returned (.tuple #[encW w0 0, .bool false])) : IsRd s e := isRd_mk w0 false (by rw [h]; rfl) he
theorem isRd_yes {s : ByteArray} {e : Ending} {x : W} (h : rd (bl s) = some x) (he : e = .returned (.tuple #[encW x 0, .bool true])) : IsRd s e := isRd_mk x true (by rw [h]; rfl) he

theorem eqs_iff (s : ByteArray) (h3 : s.size = 3) : ((s.extract 0 2).toList == [61, 115]) = decide ((bl s).take 2 = [61, 115]) := by
  rw [ByteArray.toList_eq, ex_take, Bool.eq_iff_iff]
  simp

theorem read_any (s : ByteArray) (w : World) (hs : s.size ≤ 120) (h1 : 1 ≤ s.size) :
    Calls Tryd.prog 44 #[.string s] w fun e w' => IsRd s e ∧ Below w.heap.size w w' := by
  have hf : first (bl s) = s[0].toNat := by unfold first; rw [bl_getD s 0 (by omega)]
  have hd : (bl s).drop 1 = bl (s.extract 1 s.size) := by rw [ex_drop]
  cases hp : rdPlain (bl s) with
  | some x => exact (read_plain s w hs x hp).mono fun e w' h => ⟨isRd_yes (by unfold rd; rw [hp]) h.1, h.2⟩
  | none =>
    cases hn : rdNamed (bl s) with
    | some x => exact (read_named s w hs x hp hn).mono fun e w' h => ⟨isRd_yes (by unfold rd; rw [hp, hn]) h.1, h.2⟩
    | none =>
      have hr : rd (bl s) = rdRest (bl s) := by unfold rd; rw [hp, hn]
      cases hsel : selector (bl s) with
      | true => exact (read_sel s w hs h1 hp hn hsel trivial).mono fun e w' h => ⟨isRd_yes (by rw [hr]; unfold rdRest; rw [if_pos hsel]) h.1, h.2⟩
      | false =>
        have hr2 : rd (bl s) = rest2 (bl s) := by rw [hr]; unfold rdRest; rw [if_neg (by rw [hsel]; simp)]
        by_cases h94 : s[0].toNat = 94 ∧ selector (bl (s.extract 1 s.size)) = true
        · exact (read_up s w hs h1 hp hn hsel h94.1 h94.2).mono fun e w' h => ⟨isRd_yes (by rw [hr2]; unfold rest2; rw [hd, hf, if_pos h94]) h.1, h.2⟩
        · have hr3 : rd (bl s) = rest3 (bl s) := by rw [hr2]; unfold rest2; rw [hd, hf, if_neg h94]
          by_cases hm0 : 0 ≤ numI (bl s) 4
          · have h94' : s[0].toNat ≠ 94 := fun e => by rw [numI_first s h1 4 (by omega)] at hm0; omega
            exact (read_num s w hs h1 hp hn hsel _ _ _ _ rfl rfl rfl rfl h94' hm0).mono fun e w' h => ⟨isRd_yes (by rw [hr3]; unfold rest3; rw [if_pos hm0]) h.1, h.2⟩
          · have hr4 : rd (bl s) = rest4 (bl s) := by rw [hr3]; unfold rest3; rw [if_neg hm0]
            have hml : numI (bl s) 4 < 0 := by omega
            -- what is none, once the byte is known
            have h8 : s[0].toNat ≠ 61 → rest8 (bl s) = none ∧ (s.size = 3 → ((s.extract 0 2).toList == [61, 115]) = false) := fun hne => by
              have ht : ¬ (bl s).take 2 = [61, 115] := fun e => by
                have e1 : (bl s)[0]? = some 61 := by
                  have := congrArg (fun l => l[0]?) e
                  simpa [List.getElem?_take] using this
                rw [bl_get s 0 (by omega)] at e1
                injection e1 with e1
                exact hne (by rw [e1]; rfl)
              refine ⟨?_, fun h3 => ?_⟩
              · unfold rest8; rw [if_neg (fun h => ht h.2.1)]
              · rw [eqs_iff s h3]; simp [ht]
            by_cases h45 : s[0].toNat = 45
            · by_cases hx : 0 ≤ numI (bl (s.extract 1 s.size)) 4
              · exact (read_neg s w hs h1 hp hn hsel _ _ _ _ rfl rfl rfl rfl h45 hml hx).mono fun e w' h => ⟨isRd_yes (by rw [hr4]; unfold rest4; rw [hd, hf, if_pos ⟨h45, hx⟩]) h.1, h.2⟩
              · have hz : rd (bl s) = none := by
                  rw [hr4]; unfold rest4; rw [hd, hf, if_neg (fun h => hx h.2)]
                  unfold rest5; rw [hf, if_neg (by omega)]
                  unfold rest6; rw [hf, if_neg (by omega)]
                  unfold rest7; rw [hf, if_neg (by omega)]
                  exact (h8 (by omega)).1
                by_cases h3 : s.size = 3
                · exact (read_none45a s w hs h1 hp hn hsel _ _ _ _ rfl rfl rfl rfl h45 hml (by omega) h3 ((h8 (by omega)).2 h3)).mono fun e w' h => ⟨isRd_no hz h.1, h.2⟩
                · exact (read_none45b s w hs h1 hp hn hsel _ _ _ _ rfl rfl rfl rfl h45 hml (by omega) h3).mono fun e w' h => ⟨isRd_no hz h.1, h.2⟩
            · have hr5 : rd (bl s) = rest5 (bl s) := by rw [hr4]; unfold rest4; rw [hf, if_neg (fun h => h45 h.1)]
              by_cases h62 : s[0].toNat = 62
              · by_cases hx : 0 ≤ numI (bl (s.extract 1 s.size)) 2
                · exact (read_goto s w hs h1 hp hn hsel _ _ _ _ rfl rfl rfl rfl h62 hml hx).mono fun e w' h => ⟨isRd_yes (by rw [hr5]; unfold rest5; rw [hd, hf, if_pos ⟨.inl h62, hx⟩]) h.1, h.2⟩
                · have hz : rd (bl s) = none := by
                    rw [hr5]; unfold rest5; rw [hd, hf, if_neg (fun h => hx h.2)]
                    unfold rest6; rw [hf, if_neg (by omega)]
                    unfold rest7; rw [hf, if_neg (by omega)]
                    exact (h8 (by omega)).1
                  by_cases h3 : s.size = 3
                  · exact (read_none62a s w hs h1 hp hn hsel _ _ _ _ rfl rfl rfl rfl h62 hml (by omega) h3 ((h8 (by omega)).2 h3)).mono fun e w' h => ⟨isRd_no hz h.1, h.2⟩
                  · exact (read_none62b s w hs h1 hp hn hsel _ _ _ _ rfl rfl rfl rfl h62 hml (by omega) h3).mono fun e w' h => ⟨isRd_no hz h.1, h.2⟩
              · by_cases h63 : s[0].toNat = 63
                · by_cases hx : 0 ≤ numI (bl (s.extract 1 s.size)) 2
                  · exact (read_if s w hs h1 hp hn hsel _ _ _ _ rfl rfl rfl rfl h63 hml hx).mono fun e w' h => ⟨isRd_yes (by rw [hr5]; unfold rest5; rw [hd, hf, if_pos ⟨.inr h63, hx⟩]) h.1, h.2⟩
                  · have hz : rd (bl s) = none := by
                      rw [hr5]; unfold rest5; rw [hd, hf, if_neg (fun h => hx h.2)]
                      unfold rest6; rw [hf, if_neg (by omega)]
                      unfold rest7; rw [hf, if_neg (by omega)]
                      exact (h8 (by omega)).1
                    by_cases h3 : s.size = 3
                    · exact (read_none63a s w hs h1 hp hn hsel _ _ _ _ rfl rfl rfl rfl h63 hml (by omega) h3 ((h8 (by omega)).2 h3)).mono fun e w' h => ⟨isRd_no hz h.1, h.2⟩
                    · exact (read_none63b s w hs h1 hp hn hsel _ _ _ _ rfl rfl rfl rfl h63 hml (by omega) h3).mono fun e w' h => ⟨isRd_no hz h.1, h.2⟩
                · have hr6 : rd (bl s) = rest6 (bl s) := by rw [hr5]; unfold rest5; rw [hf, if_neg (by omega)]
                  by_cases h97 : s[0].toNat = 97
                  · by_cases hx : 0 ≤ numI (bl (s.extract 1 s.size)) 1 ∧ numI (bl (s.extract 1 s.size)) 1 < 3
                    · exact (read_arg s w hs h1 hp hn hsel _ _ _ _ rfl rfl rfl rfl h97 hml hx.1 hx.2).mono fun e w' h => ⟨isRd_yes (by rw [hr6]; unfold rest6; rw [hd, hf, if_pos ⟨h97, hx⟩]) h.1, h.2⟩
                    · have hz : rd (bl s) = none := by
                        rw [hr6]; unfold rest6; rw [hd, hf, if_neg (fun h => hx h.2)]
                        unfold rest7; rw [hf, if_neg (by omega)]
                        exact (h8 (by omega)).1
                      by_cases h3 : s.size = 3
                      · exact (read_none97a s w hs h1 hp hn hsel _ _ _ _ rfl rfl rfl rfl h97 hml (by omega) h3 ((h8 (by omega)).2 h3)).mono fun e w' h => ⟨isRd_no hz h.1, h.2⟩
                      · exact (read_none97b s w hs h1 hp hn hsel _ _ _ _ rfl rfl rfl rfl h97 hml (by omega) h3).mono fun e w' h => ⟨isRd_no hz h.1, h.2⟩
                  · have hr7 : rd (bl s) = rest7 (bl s) := by rw [hr6]; unfold rest6; rw [hf, if_neg (fun h => h97 h.1)]
                    by_cases h115 : s[0].toNat = 115
                    · by_cases hx : 0 ≤ numI (bl (s.extract 1 s.size)) 1
                      · exact (read_slot s w hs h1 hp hn hsel _ _ _ _ rfl rfl rfl rfl h115 hml hx).mono fun e w' h => ⟨isRd_yes (by rw [hr7]; unfold rest7; rw [hd, hf, if_pos ⟨h115, hx⟩]) h.1, h.2⟩
                      · have hz : rd (bl s) = none := by
                          rw [hr7]; unfold rest7; rw [hd, hf, if_neg (fun h => hx h.2)]
                          exact (h8 (by omega)).1
                        by_cases h3 : s.size = 3
                        · exact (read_none115a s w hs h1 hp hn hsel _ _ _ _ rfl rfl rfl rfl h115 hml (by omega) h3 ((h8 (by omega)).2 h3)).mono fun e w' h => ⟨isRd_no hz h.1, h.2⟩
                        · exact (read_none115b s w hs h1 hp hn hsel _ _ _ _ rfl rfl rfl rfl h115 hml (by omega) h3).mono fun e w' h => ⟨isRd_no hz h.1, h.2⟩
                    · have hr8 : rd (bl s) = rest8 (bl s) := by rw [hr7]; unfold rest7; rw [hf, if_neg (fun h => h115 h.1)]
                      by_cases e94 : s[0].toNat = 94
                      · have hb2 : selector (bl (s.extract 1 s.size)) = false := by
                          rw [Bool.eq_false_iff]; exact fun h => h94 ⟨e94, h⟩
                        have hz : rd (bl s) = none := by rw [hr8]; exact (h8 (by omega)).1
                        by_cases h3 : s.size = 3
                        · exact (read_none94a s w hs h1 hp hn hsel _ _ _ _ rfl rfl rfl rfl e94 hml hb2 h3 ((h8 (by omega)).2 h3)).mono fun e w' h => ⟨isRd_no hz h.1, h.2⟩
                        · exact (read_none94b s w hs h1 hp hn hsel _ _ _ _ rfl rfl rfl rfl e94 hml hb2 h3).mono fun e w' h => ⟨isRd_no hz h.1, h.2⟩
                      · by_cases h3 : s.size = 3
                        · cases hx2 : ((s.extract 0 2).toList == [61, 115]) with
                          | false =>
                            have hz : rd (bl s) = none := by
                              rw [hr8]; unfold rest8; rw [if_neg]
                              rintro ⟨_, h, _⟩
                              rw [eqs_iff s h3] at hx2
                              simp [h] at hx2
                            exact (read_noneothera s w hs h1 hp hn hsel _ _ _ _ rfl rfl rfl rfl e94 h45 h62 h63 h97 h115 trivial hml h3 hx2).mono fun e w' h => ⟨isRd_no hz h.1, h.2⟩
                          | true =>
                            have ht : (bl s).take 2 = [61, 115] := by rw [eqs_iff s h3] at hx2; simpa using hx2
                            have h61 : s[0].toNat = 61 := by
                              have e1 : (bl s)[0]? = some 61 := by
                                have := congrArg (fun l => l[0]?) ht
                                simpa [List.getElem?_take] using this
                              rw [bl_get s 0 (by omega)] at e1
                              injection e1 with e1
                              rw [e1]; rfl
                            cases hdg : isDig ((bl s)[2]?.getD 0) with
                            | true => exact (read_store s w hs h1 hp hn hsel _ _ _ _ rfl rfl rfl rfl h61 trivial hml h3 hx2 hdg).mono fun e w' h => ⟨isRd_yes (by rw [hr8]; unfold rest8; rw [if_pos ⟨by rw [bl_length]; exact h3, ht, hdg⟩]) h.1, h.2⟩
                            | false => exact (read_nostore s w hs h1 hp hn hsel _ _ _ _ rfl rfl rfl rfl h61 trivial hml h3 hx2 hdg).mono fun e w' h => ⟨isRd_no (by rw [hr8]; unfold rest8; rw [if_neg]; rintro ⟨_, _, h⟩; rw [hdg] at h; cases h) h.1, h.2⟩
                        · have hz : rd (bl s) = none := by
                            rw [hr8]; unfold rest8; rw [if_neg]
                            rintro ⟨h, _⟩
                            rw [bl_length] at h
                            exact h3 h
                          exact (read_noneotherb s w hs h1 hp hn hsel _ _ _ _ rfl rfl rfl rfl e94 h45 h62 h63 h97 h115 trivial hml h3).mono fun e w' h => ⟨isRd_no hz h.1, h.2⟩

end Go.Proofs.YtkghmgoefiepeaaDoor.reads
