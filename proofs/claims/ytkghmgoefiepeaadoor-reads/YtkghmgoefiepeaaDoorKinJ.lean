/- kin's reader: word, all of it. -/
import Derived.Test.YtkghmgoefiepeaaDoorKinI
namespace Go.Proofs.YtkghmgoefiepeaaDoor.reads
open Go.ChangeShapes Go.WideShapes Go.ChangeAt Go.RowKit Kn
set_option linter.unusedSimpArgs false
set_option linter.unusedVariables false

theorem plain_kinds (l : List UInt8) : kindOf (kPlain l) = plainK l := by
  unfold kPlain rdPlain plainK
  by_cases h1 : l = [115, 101, 108, 102]
  · simp [h1, kindOf]
  · by_cases h2 : l = [112, 111, 112]
    · simp [h2, kindOf]
    · by_cases h3 : l = [100, 117, 112]
      · simp [h3, kindOf]
      · by_cases h4 : l = [114, 101, 116]
        · simp [h4, kindOf]
        · by_cases h5 : l = [43]
          · simp [h5, kindOf]
          · by_cases h6 : l = [45]
            · simp [h6, kindOf]
            · by_cases h7 : l = [42]
              · simp [h7, kindOf]
              · by_cases h8 : l = [60]
                · simp [h8, kindOf]
                · by_cases h9 : l = [61]
                  · simp [h9, kindOf]
                  · simp [h1, h2, h3, h4, h5, h6, h7, h8, h9, kindOf]

theorem first_at (s : ByteArray) (i : Nat) (hlt : i < s.size) : first ((bl s).drop i) = s[i].toNat := by
  have e : (bl s).drop i = s[i] :: (bl s).drop (i + 1) := by
    rw [List.drop_eq_getElem_cons (by rw [bl_length]; exact hlt)]; rfl
  rw [e]; rfl

theorem kw_at (s : ByteArray) (i : Nat) (hlt : i < s.size) : kw ((bl s).drop i) =
  if s[i].toNat = 45 then (if atEndB (bl s) (i + 1) = true then some (⟨45, 0, [], [], []⟩, 1) else (kNum 110 isDig 4 1 ((bl s).drop (i + 1))).map negW)
  else if s[i].toNat = 61 then (if (bl s)[i + 1]? = some 115 then kNum 112 isDig 1 2 ((bl s).drop (i + 1 + 1)) else some (⟨61, 0, [], [], []⟩, 1))
  else if s[i].toNat = 94 then kSend 94 1 ((bl s).drop (i + 1))
  else if s[i].toNat = 62 then kNum 62 isDig 2 1 ((bl s).drop (i + 1))
  else if s[i].toNat = 63 then kNum 63 isDig 2 1 ((bl s).drop (i + 1))
  else if s[i].toNat = 43 ∨ s[i].toNat = 42 ∨ s[i].toNat = 60 then some (⟨s[i].toNat, 0, [], [], []⟩, 1)
  else if spanL isSmall 6 ((bl s).drop i) = [] then kNum 110 isDig 4 0 ((bl s).drop i)
  else if (bl s)[i + (spanL isSmall 6 ((bl s).drop i)).length]? = some 58 then kClass (kHead (spanL isSmall 6 ((bl s).drop i))) ((spanL isSmall 6 ((bl s).drop i)).length + 1) ((bl s).drop (i + (spanL isSmall 6 ((bl s).drop i)).length + 1))
  else if (bl s)[i + (spanL isSmall 6 ((bl s).drop i)).length]? = some 47 then kSend 115 0 ((bl s).drop i)
  else if spanL isSmall 6 ((bl s).drop i) = [97] then kNum 97 isD2 1 1 ((bl s).drop (i + 1))
  else if spanL isSmall 6 ((bl s).drop i) = [115] then kNum 103 isDig 1 1 ((bl s).drop (i + 1))
  else if kPlain (spanL isSmall 6 ((bl s).drop i)) = 0 then none else some (⟨kPlain (spanL isSmall 6 ((bl s).drop i)), 0, [], [], []⟩, (spanL isSmall 6 ((bl s).drop i)).length) := by
  have g1 : ∀ n, ((bl s).drop i)[n]? = (bl s)[i + n]? := fun n => List.getElem?_drop
  have g2 : ∀ n, ((bl s).drop i).drop n = (bl s).drop (i + n) := fun n => List.drop_drop
  have g3 : (((bl s).drop i).length = 1 ∨ ((bl s).drop i)[1]? = some 32) ↔ atEndB (bl s) (i + 1) = true := by
    rw [g1, List.length_drop, bl_length]
    unfold atEndB
    rw [bl_length]
    simp only [Bool.or_eq_true, decide_eq_true_eq]
    constructor
    · rintro (h | h)
      · exact .inl (by omega)
      · exact .inr h
    · rintro (h | h)
      · exact .inl (by omega)
      · exact .inr h
  unfold kw
  rw [first_at s i hlt]
  simp only [g3]
  rw [g2 1, g2 2, g1 1, g2 _, g1 _]
  rfl

theorem word_any (b : Nat) (s : ByteArray) (i : Nat) (w : World) (hs : s.size ≤ 140737488355328) (hlt : i < s.size) (hg1 : 2 < b) (hg2 : 1 < b) (hT1 : HasPlains w) (hT2 : HasHeads w) (h : RdAt w b s i) :
    Calls Tryd.prog 34 #[.pointer (some ⟨b, 0, none⟩)] w fun e w' => e = .returned (encK (kw ((bl s).drop i))) ∧ Got w w' b s i (kw ((bl s).drop i)) := by
  rw [kw_at s i hlt]
  by_cases h45 : s[i].toNat = 45
  · rw [if_pos h45]
    by_cases he : atEndB (bl s) (i + 1) = true
    · rw [if_pos he]
      exact got_some rfl rfl (by omega) rfl (word_minus b s i w hs hlt hg1 hg2 hT1 hT2 h45 he h)
    · rw [if_neg he]
      exact word_negative b s i _ w hs hlt hg1 hg2 hT1 hT2 h45 (by simpa using he) rfl h
  rw [if_neg h45]
  by_cases h61 : s[i].toNat = 61
  · rw [if_pos h61]
    rcases at_case s (i + 1) 115 with ⟨hlt1, h115, hd⟩ | ⟨h115, hd⟩
    · rw [if_pos hd]
      exact word_store b s i _ w hs hlt hg1 hg2 hT1 hT2 h61 hlt1 h115 rfl h
    · rw [if_neg hd]
      exact got_some rfl rfl (by omega) rfl (word_equals b s i w hs hlt hg1 hg2 hT1 hT2 h61 h115 h)
  rw [if_neg h61]
  by_cases h94 : s[i].toNat = 94
  · rw [if_pos h94]
    exact word_above b s i _ w hs hlt hg1 hg2 hT1 hT2 h94 rfl h
  rw [if_neg h94]
  by_cases h62 : s[i].toNat = 62
  · rw [if_pos h62]
    exact word_go b s i _ w hs hlt hg1 hg2 hT1 hT2 h62 rfl h
  rw [if_neg h62]
  by_cases h63 : s[i].toNat = 63
  · rw [if_pos h63]
    exact word_goz b s i _ w hs hlt hg1 hg2 hT1 hT2 h63 rfl h
  rw [if_neg h63]
  by_cases hp : s[i].toNat = 43 ∨ s[i].toNat = 42 ∨ s[i].toNat = 60
  · rw [if_pos hp]
    rcases hp with hp | hp | hp
    · exact got_some rfl (by rw [hp]; rfl) (by omega) rfl (word_plus b s i w hs hlt hg1 hg2 hT1 hT2 hp h)
    · exact got_some rfl (by rw [hp]; rfl) (by omega) rfl (word_star b s i w hs hlt hg1 hg2 hT1 hT2 hp h)
    · exact got_some rfl (by rw [hp]; rfl) (by omega) rfl (word_less b s i w hs hlt hg1 hg2 hT1 hT2 hp h)
  rw [if_neg hp]
  have hno : s[i].toNat ≠ 45 ∧ s[i].toNat ≠ 61 ∧ s[i].toNat ≠ 94 ∧ s[i].toNat ≠ 62 ∧ s[i].toNat ≠ 63 ∧ s[i].toNat ≠ 43 ∧ s[i].toNat ≠ 42 ∧ s[i].toNat ≠ 60 :=
    ⟨h45, h61, h94, h62, h63, fun e => hp (.inl e), fun e => hp (.inr (.inl e)), fun e => hp (.inr (.inr e))⟩
  obtain ⟨lt, hl⟩ : ∃ lt, spanL isSmall 6 ((bl s).drop i) = lt := ⟨_, rfl⟩
  rw [hl]
  by_cases hle : lt = []
  · subst hle
    rw [if_pos rfl]
    exact word_number b s i _ w hs hlt hg1 hg2 hT1 hT2 hno hl rfl h
  rw [if_neg hle]
  have hok := span_ok hl hle
  rcases at_case s (i + lt.length) 58 with ⟨hlt1, h58, hd⟩ | ⟨h58, hd⟩
  · rw [if_pos hd]
    exact word_class b s i lt _ w hs hlt hg1 hg2 hT1 hT2 hno hl hle hlt1 h58 rfl h
  rw [if_neg hd]
  rcases at_case s (i + lt.length) 47 with ⟨hlt1, h47, hd⟩ | ⟨h47, hd⟩
  · rw [if_pos hd]
    exact word_send b s i lt _ w hs hlt hg1 hg2 hT1 hT2 hno hl hle h58 hlt1 h47 rfl h
  rw [if_neg hd]
  by_cases ha : lt = [97]
  · rw [if_pos ha]
    subst ha
    exact word_arg b s i _ w hs hlt hg1 hg2 hT1 hT2 hno hl h58 h47 rfl h
  rw [if_neg ha]
  by_cases hs2 : lt = [115]
  · rw [if_pos hs2]
    subst hs2
    exact word_slot b s i _ w hs hlt hg1 hg2 hT1 hT2 hno hl h58 h47 rfl h
  rw [if_neg hs2]
  have hk := plain_kinds lt
  by_cases hz : kPlain lt = 0
  · rw [if_pos hz]
    rw [hz] at hk
    refine got_none rfl ?_
    refine (word_plain b s i lt 0 w hs hlt hg1 hg2 hT1 hT2 hno hl hle h58 h47 ha hs2 hk.symm h).mono ?_
    rintro e w' ⟨rfl, ht⟩
    exact ⟨rfl, _, hok, ht⟩
  · rw [if_neg hz]
    exact got_some rfl (by show _ = Value.agg #[.int .i64 (kindOf (kPlain lt) : Nat), _, _, _, _, .pointer none]; rw [hk]) hok rfl (word_plain b s i lt (plainK lt) w hs hlt hg1 hg2 hT1 hT2 hno hl hle h58 h47 ha hs2 rfl h)

end Go.Proofs.YtkghmgoefiepeaaDoor.reads
