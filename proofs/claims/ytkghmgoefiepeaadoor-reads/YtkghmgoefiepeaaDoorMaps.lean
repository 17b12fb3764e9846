/- Maps: keyed by strings, with their stamps (so that they may be ranged over); sets of pointers. They hang on no program. -/
import Derived.Test.YtkghmgoefiepeaaDoorBase
import Derived.LaidEql
import Derived.ChangeKeysEq
import Derived.Maps.RangeRun
namespace Kn
open Go Go.RowKit
set_option linter.unusedSimpArgs false
set_option linter.unusedVariables false

/-! ### What of the old memory may have turned -/
structure Chg (w w' : World) (S : Nat → Prop) : Prop where
  os : w'.os = w.os
  tape : w'.tape = w.tape
  output : w'.output = w.output
  size : w.heap.size ≤ w'.heap.size
  block : ∀ k, k < w.heap.size → ¬ S k → w'.heap[k]? = w.heap[k]?
theorem Chg.refl (w : World) (S : Nat → Prop) : Chg w w S := ⟨rfl, rfl, rfl, Nat.le_refl _, fun _ _ _ => rfl⟩
theorem Chg.of_below {w w' : World} (h : Below w.heap.size w w') (S : Nat → Prop) : Chg w w' S := ⟨h.os, h.tape, h.output, h.size, fun k hk _ => h.block k hk⟩
theorem Chg.of_grown {w w' : World} {k : Nat} (h : w.grownBy w' (some k)) : Chg w w' (· = k) := ⟨h.os, h.tape, h.output, h.size, fun j hj hn => h.block j hj (fun e => by injection e with e; exact hn e)⟩
theorem Chg.mono {w w' : World} {S S' : Nat → Prop} (h : Chg w w' S) (hS : ∀ k, k < w.heap.size → S k → S' k) : Chg w w' S' := ⟨h.os, h.tape, h.output, h.size, fun k hk hn => h.block k hk (fun hs => hn (hS k hk hs))⟩
theorem Chg.trans {w w1 w2 : World} {S : Nat → Prop} (h1 : Chg w w1 S) (h2 : Chg w1 w2 S) : Chg w w2 S :=
  ⟨h2.os.trans h1.os, h2.tape.trans h1.tape, h2.output.trans h1.output, Nat.le_trans h1.size h2.size, fun k hk hn => (h2.block k (Nat.lt_of_lt_of_le hk h1.size) hn).trans (h1.block k hk hn)⟩
/-- What comes behind may turn what is new, too. -/
theorem Chg.then {w w1 w2 : World} {S S' : Nat → Prop} (h1 : Chg w w1 S) (h2 : Chg w1 w2 S') (hS : ∀ k, k < w.heap.size → S' k → S k) : Chg w w2 S :=
  ⟨h2.os.trans h1.os, h2.tape.trans h1.tape, h2.output.trans h1.output, Nat.le_trans h1.size h2.size, fun k hk hn => (h2.block k (Nat.lt_of_lt_of_le hk h1.size) (fun hs => hn (hS k hk hs))).trans (h1.block k hk hn)⟩
theorem Chg.below {w w' : World} {S : Nat → Prop} {B : Nat} (h : Chg w w' S) (hB : B ≤ w.heap.size) (hS : ∀ k, k < w.heap.size → S k → B ≤ k) : Below B w w' :=
  ⟨h.os, h.tape, h.output, h.size, fun k hk => h.block k (Nat.lt_of_lt_of_le hk hB) (fun hs => by have := hS k (Nat.lt_of_lt_of_le hk hB) hs; omega)⟩
theorem Chg.alloc {w w1 : World} {S : Nat → Prop} (h : Chg w w1 S) (o : Obj) : Chg w (w1.alloc o) S := h.trans ⟨rfl, rfl, rfl, by simp, fun k hk _ => Below.heap_alloc w1 o k hk⟩
theorem Chg.setCell {w w1 : World} {S : Nat → Prop} (h : Chg w w1 S) (a : Addr) (v : Value) (ha : a.block < w.heap.size → S a.block) : Chg w (w1.setCell a v) S :=
  ⟨h.os, h.tape, h.output, by simp only [World.setCell, Array.size_modify]; exact h.size, fun k hk hn => (Below.heap_setCell w1 a v k (fun e => hn (by subst e; exact ha hk))).trans (h.block k hk hn)⟩
theorem Chg.drew {w w1 : World} {S : Nat → Prop} (h : Chg w w1 S) : Chg w w1.drew S := ⟨h.os, h.tape, h.output, h.size, h.block⟩

/-! ### Strings compared -/
theorem ba_apart {a b : ByteArray} (h : ¬ a = b) : (a.toList == b.toList) = false := by
  refine beq_eq_false_iff_ne.2 fun e => h ?_
  rw [ByteArray.toList_eq, ByteArray.toList_eq] at e
  cases a; cases b
  congr 1
  exact Array.toList_inj.1 e
theorem ba_one (a : ByteArray) : (a.toList == a.toList) = true := by simp

/-! ### Pointers compared -/
/-- Block p is a row of cells, none of them frozen. -/
def Cel (w : World) (p : Nat) : Prop := ∃ cs t, w.heap[p]? = some (.cells cs t (0, 0))
theorem Cel.lt {w : World} {p : Nat} (h : Cel w p) : p < w.heap.size := by obtain ⟨cs, t, h⟩ := h; exact (Array.getElem?_eq_some_iff.1 h).1
theorem Cel.same {w w' : World} {p : Nat} (h : Cel w p) (e : w'.heap[p]? = w.heap[p]?) : Cel w' p := by obtain ⟨cs, t, h⟩ := h; exact ⟨cs, t, e.trans h⟩
theorem Cel.free {w : World} {p : Nat} (h : Cel w p) (o : Nat) : w.frozen? ⟨p, o, none⟩ = false := by
  obtain ⟨cs, t, h⟩ := h
  simp only [World.frozen?, h]; simp
theorem Cel.alloc {w : World} {p : Nat} (h : Cel w p) (o : Obj) : Cel (w.alloc o) p := h.same (Below.heap_alloc w o p h.lt)
theorem Cel.setCell {w : World} {p : Nat} (h : Cel w p) (a : Addr) (v : Value) : Cel (w.setCell a v) p := by
  by_cases e : p = a.block
  · obtain ⟨cs, t, h⟩ := h
    subst e
    exact ⟨_, t, by simp only [World.setCell, Array.getElem?_modify, if_pos, h]; rfl⟩
  · exact h.same (Below.heap_setCell w a v p e)
theorem run_sameAddr {P : Program} {w : World} {p q : Nat} (hp : Cel w p) (hq : Cel w q) : (sameAddr ⟨p, 0, none⟩ ⟨q, 0, none⟩).run P w = .ok (decide (p = q)) w := by
  by_cases h : p = q
  · subst h; rw [run_sameAddr_same]; simp
  · obtain ⟨_, _, hp⟩ := hp
    obtain ⟨_, _, hq⟩ := hq
    rw [run_sameAddr_other w (fun e => h (by injection e)) hp hq]
    simp [h]
theorem run_equal_ptr {P : Program} {w : World} {t e : TypeId} {i : TypeInfo} (ht : P.underlying t = some (.pointer e)) (he : P.info? e = some i) (hs : i.size ≠ 0) {p q : Nat} (hp : Cel w p) (hq : Cel w q) :
    (Op.equal t (.pointer (some ⟨p, 0, none⟩)) (.pointer (some ⟨q, 0, none⟩))).run P w = .ok (decide (p = q)) w := by
  have h : ∀ d : Nat, (Op.equalIn (d + 1) t (.pointer (some ⟨p, 0, none⟩)) (.pointer (some ⟨q, 0, none⟩))).run P w = .ok (decide (p = q)) w := fun d => by
    simp [Op.equalIn, run_underlying ht, Go.sizeOf, typeInfo, he, hs, run_sameAddr hp hq]
  exact h 9999

/-! ### Stamps -/
def Born (es : Array MapEntry) (clock : Nat) : Prop := (∀ x ∈ es.toList, x.born < clock) ∧ (es.toList.map (·.born)).Nodup
theorem born_empty : Born #[] 0 := ⟨by simp, by simp⟩
theorem born_push {es : Array MapEntry} {clock : Nat} (h : Born es clock) (k v : Value) : Born (es.push { key := k, val := v, born := clock }) (clock + 1) := by
  refine ⟨fun x hx => ?_, ?_⟩
  · simp only [Array.toList_push, List.mem_append, List.mem_singleton] at hx
    rcases hx with hx | rfl
    · have := h.1 x hx; omega
    · exact Nat.lt_succ_self _
  · simp only [Array.toList_push, List.map_append, List.map_cons, List.map_nil]
    refine List.nodup_append.2 ⟨h.2, by simp, ?_⟩
    intro a ha b hb
    simp at hb
    obtain ⟨x, hx, rfl⟩ := List.mem_map.1 ha
    have := h.1 x hx
    omega
theorem born_same {es es' : Array MapEntry} {clock : Nat} (h : Born es clock) (e : es'.toList.map (·.born) = es.toList.map (·.born)) : Born es' clock := by
  refine ⟨fun x hx => ?_, by rw [e]; exact h.2⟩
  have hm : x.born ∈ es.toList.map (·.born) := by rw [← e]; exact List.mem_map.2 ⟨x, hx, rfl⟩
  obtain ⟨y, hy, hyx⟩ := List.mem_map.1 hm
  have := h.1 y hy
  omega
theorem modify_born (es : Array MapEntry) (j : Nat) (k v : Value) : (es.modify j fun e => { e with key := k, val := v }).toList.map (·.born) = es.toList.map (·.born) := by
  apply List.ext_getElem?
  intro i
  simp only [List.getElem?_map, Array.getElem?_toList, Array.getElem?_modify]
  by_cases h : j = i
  · subst h; cases es[j]? <;> simp
  · simp [h]
theorem born_erase {es : Array MapEntry} {clock : Nat} (h : Born es clock) (j : Nat) : Born (es.eraseIdxIfInBounds j) clock := by
  have e : (es.eraseIdxIfInBounds j).toList = es.toList.eraseIdx j := by
    unfold Array.eraseIdxIfInBounds
    by_cases hj : j < es.size
    · simp [hj]
    · simp [hj]
      rw [List.eraseIdx_of_length_le (by simpa using hj)]
  refine ⟨fun x hx => h.1 x (by rw [e] at hx; exact (List.eraseIdx_sublist _ _).mem hx), ?_⟩
  rw [e]
  exact ((List.eraseIdx_sublist _ _).map _).nodup h.2

/-! ### A map keyed by strings -/
def Uniq (l : List (ByteArray × Value)) : Prop := (l.map (·.1)).Nodup
def SMap (w : World) (b : Nat) (l : List (ByteArray × Value)) : Prop := ∃ es clock, w.heap[b]? = some (.map es clock) ∧ Holds es l ∧ Born es clock ∧ Uniq l
theorem SMap.str {w : World} {b : Nat} {l : List (ByteArray × Value)} (h : SMap w b l) : StrMap w b l := by obtain ⟨es, c, h1, h2, _⟩ := h; exact ⟨es, c, h1, h2⟩
theorem SMap.lt {w : World} {b : Nat} {l : List (ByteArray × Value)} (h : SMap w b l) : b < w.heap.size := h.str.lt
theorem SMap.same {w w' : World} {b : Nat} {l : List (ByteArray × Value)} (h : SMap w b l) (e : w'.heap[b]? = w.heap[b]?) : SMap w' b l := by obtain ⟨es, c, h1, h2⟩ := h; exact ⟨es, c, e.trans h1, h2⟩
theorem sMap_empty {w : World} {b : Nat} (h : w.heap[b]? = some (.map #[] 0)) : SMap w b [] := ⟨#[], 0, h, rfl, born_empty, by simp [Uniq]⟩

theorem lookup_put (l : List (ByteArray × Value)) (s t : ByteArray) (v : Value) : (put l s v).lookup t = if t = s then some v else l.lookup t := by
  induction l with
  | nil =>
    by_cases h : t = s
    · subst h; simp [put, List.lookup, beq_ba_self]
    · simp [put, List.lookup, (beq_ba_false t s).2 h, h]
  | cons p r ih =>
    obtain ⟨k, x⟩ := p
    cases hs : (s == k) with
    | true =>
      have e : s = k := (beq_ba s k).1 hs
      subst e
      by_cases h : t = s
      · subst h; simp [put, hs, List.lookup, beq_ba_self]
      · simp [put, hs, List.lookup, (beq_ba_false t s).2 h, h]
    | false =>
      simp only [put, hs]
      by_cases h : t = s
      · subst h
        rw [if_pos rfl] at ih ⊢
        simp [List.lookup, hs, ih]
      · rw [if_neg h] at ih ⊢
        cases htk : (t == k) with
        | true => simp [List.lookup, htk]
        | false => simp [List.lookup, htk, ih]
theorem mem_put {l : List (ByteArray × Value)} {s t : ByteArray} {v : Value} (h : t ∈ (put l s v).map (·.1)) : t = s ∨ t ∈ l.map (·.1) := by
  induction l with
  | nil => simpa [put] using h
  | cons p r ih =>
    obtain ⟨k, x⟩ := p
    cases hs : (s == k) with
    | true => simp [put, hs] at h ⊢; rcases h with h | h; exact .inl h; exact .inr (.inr h)
    | false =>
      simp only [put, hs, Bool.false_eq_true, if_false, List.map_cons, List.mem_cons] at h ⊢
      rcases h with h | h
      · exact .inr (.inl h)
      · rcases ih h with h | h
        · exact .inl h
        · exact .inr (.inr h)
theorem uniq_put {l : List (ByteArray × Value)} (h : Uniq l) (s : ByteArray) (v : Value) : Uniq (put l s v) := by
  unfold Uniq at h ⊢
  induction l with
  | nil => simp [put]
  | cons p r ih =>
    obtain ⟨k, x⟩ := p
    rw [List.map_cons, List.nodup_cons] at h
    cases hs : (s == k) with
    | true =>
      have e : s = k := (beq_ba s k).1 hs
      subst e
      simpa [put, hs] using h
    | false =>
      simp only [put, hs, Bool.false_eq_true, if_false, List.map_cons, List.nodup_cons]
      refine ⟨fun hm => ?_, ih h.2⟩
      rcases mem_put hm with e | hm
      · exact (beq_ba_false s k).1 hs e.symm
      · exact h.1 hm
/-- The entry of a key, struck. -/
def del (l : List (ByteArray × Value)) (s : ByteArray) : List (ByteArray × Value) := l.filter (fun p => !(p.1 == s))
theorem uniq_del {l : List (ByteArray × Value)} (h : Uniq l) (s : ByteArray) : Uniq (del l s) := (List.filter_sublist.map _).nodup h
theorem lookup_del (l : List (ByteArray × Value)) (s t : ByteArray) : (del l s).lookup t = if t = s then none else l.lookup t := by
  unfold del
  induction l with
  | nil => by_cases h : t = s <;> simp [h, List.lookup]
  | cons p r ih =>
    obtain ⟨k, x⟩ := p
    cases hs : (k == s) with
    | true =>
      have e : k = s := (beq_ba k s).1 hs
      subst e
      rw [List.filter_cons]
      simp only [hs, Bool.not_true, Bool.false_eq_true, if_false]
      rw [ih]
      by_cases h : t = k
      · simp [h]
      · simp [h, List.lookup, (beq_ba_false t k).2 h]
    | false =>
      rw [List.filter_cons]
      simp only [hs, Bool.not_false, if_true]
      by_cases h : t = s
      · subst h
        have h1 : (t == k) = false := (beq_ba_false t k).2 (fun e => (beq_ba_false k t).1 hs e.symm)
        simp only [List.lookup, h1]
        simpa using ih
      · cases htk : (t == k) with
        | true => simp [List.lookup, htk, h]
        | false => simp only [List.lookup, htk]; exact ih
theorem lookup_mem {l : List (ByteArray × Value)} {s : ByteArray} {v : Value} (h : l.lookup s = some v) : (s, v) ∈ l := by
  induction l with
  | nil => simp [List.lookup] at h
  | cons p r ih =>
    obtain ⟨k, x⟩ := p
    cases hs : (s == k) with
    | true => simp [List.lookup, hs] at h; subst h; rw [(beq_ba s k).1 hs]; exact List.mem_cons_self
    | false => simp [List.lookup, hs] at h; exact List.mem_cons_of_mem _ (ih h)
theorem mem_lookup {l : List (ByteArray × Value)} (hu : Uniq l) {s : ByteArray} {v : Value} (h : (s, v) ∈ l) : l.lookup s = some v := by
  induction l with
  | nil => cases h
  | cons p r ih =>
    obtain ⟨k, x⟩ := p
    unfold Uniq at hu
    rw [List.map_cons, List.nodup_cons] at hu
    rcases List.mem_cons.1 h with e | h
    · injection e with e1 e2; subst e1 e2; simp [List.lookup, beq_ba_self]
    · have hne : (s == k) = false := (beq_ba_false s k).2 (fun e => hu.1 (by rw [← e]; exact List.mem_map.2 ⟨_, h, rfl⟩))
      simp only [List.lookup, hne]
      exact ih hu.2 h

/-- 'm[s] = v' -/
theorem run_put {P : Program} {w : World} {b : Nat} {l : List (ByteArray × Value)} (h : SMap w b l) {t k e : TypeId} (ht : P.underlying t = some (.map k e)) (hk : P.underlying k = some .string) (s : ByteArray) (v : Value) :
    ∃ w', (Instr.mapUpdate t (.map (some b)) (.string s) v).run P w = .ok () w' ∧ SMap w' b (put l s v) ∧ w.grownBy w' (some b) ∧ w'.heap.size = w.heap.size := by
  obtain ⟨es, clock, hb, hl, hbn, hu⟩ := h
  rcases findNow_str s es.toList l 0 hl with ⟨h1, h2, h3⟩ | ⟨j, x, h1, h2, h3, h4⟩
  · refine ⟨ChangeMaps.setBlock w b (.map (es.push { key := .string s, val := v, born := clock }) (clock + 1)), ?_, ⟨_, _, ChangeMaps.heap_setBlock_same hb _, ?_, born_push hbn _ _, uniq_put hu s v⟩, ⟨rfl, rfl, rfl, by simp [ChangeMaps.setBlock], fun i _ hi => ChangeMaps.heap_setBlock_other hb _ (fun e => hi (by rw [e]))⟩, by simp [ChangeMaps.setBlock]⟩
    · simp [Instr.mapUpdate, run_underlying ht, MapKept.run_getObj_map hb, MapKept.run_checkKey hk (key_str s), MapKept.run_findKey hk h2, MapKept.run_setObj_map _ hb, Result.andThen, ChangeMaps.setBlock]
    · unfold Holds at hl ⊢
      rw [h3]
      simp [hl]
  · obtain ⟨e0, he0, hk0⟩ : ∃ e0, es.toList[j]? = some e0 ∧ e0.key = .string s := by
      cases he : es.toList[j]? with
      | none => simp [he] at h3
      | some e0 => exact ⟨e0, rfl, by simpa [he] using h3⟩
    have he1 : es[j]? = some e0 := by simpa using he0
    refine ⟨ChangeMaps.setBlock w b (.map (es.modify j fun e => { e with key := .string s, val := v }) clock), ?_, ⟨_, _, ChangeMaps.heap_setBlock_same hb _, ?_, born_same hbn (modify_born es j _ _), uniq_put hu s v⟩, ⟨rfl, rfl, rfl, by simp [ChangeMaps.setBlock], fun i _ hi => ChangeMaps.heap_setBlock_other hb _ (fun e => hi (by rw [e]))⟩, by simp [ChangeMaps.setBlock]⟩
    · simp [Instr.mapUpdate, run_underlying ht, MapKept.run_getObj_map hb, MapKept.run_checkKey hk (key_str s), MapKept.run_findKey hk h2, he1, hk0, MapKept.run_keyThatStays (key_str s), MapKept.run_setObj_map _ hb, Result.andThen, ChangeMaps.setBlock]
    · unfold Holds at hl ⊢
      rw [h4]
      apply List.ext_getElem?
      intro i
      have hi := congrArg (fun l => l[i]?) hl
      simp only [List.getElem?_map] at hi ⊢
      rw [Array.toList_modify, ChangeMaps.modify_eq_set _ _ _ _ he0]
      by_cases hij : j = i
      · subst hij
        have hlt : j < es.size := (Array.getElem?_eq_some_iff.1 he1).1
        have hlen : es.toList.length = l.length := by simpa using congrArg List.length hl
        have hlt' : j < l.length := by simp at hlen; omega
        simp [hlt, hlt']
      · simp [hij] at hi ⊢
        exact hi

theorem findNow_at (s : ByteArray) : ∀ (es : List MapEntry) (l : List (ByteArray × Value)) (i : Nat), es.map (fun e => (e.key, e.val)) = l.map (fun p => (Value.string p.1, p.2)) → Uniq l →
    (Instr.findNow .string (.string s) es i = some none ∧ del l s = l) ∨ (∃ j v, Instr.findNow .string (.string s) es i = some (some (i + j, v)) ∧ del l s = l.eraseIdx j)
  | [], l, i, h, _ => by
    cases l with
    | nil => left; exact ⟨rfl, rfl⟩
    | cons p r => simp at h
  | e :: es, l, i, h, hu => by
    obtain ⟨k, v, r, rfl, hk, hv, hr⟩ := holds_cons h
    unfold Uniq at hu
    rw [List.map_cons, List.nodup_cons] at hu
    cases hs : (s == k) with
    | true =>
      right
      refine ⟨0, v, by simp [Instr.findNow, hk, Instr.sameNow, hs, hv], ?_⟩
      have e : s = k := (beq_ba s k).1 hs
      subst e
      unfold del
      rw [List.filter_cons]
      simp only [hs, Bool.not_true, Bool.false_eq_true, if_false, List.eraseIdx_zero, List.tail_cons]
      refine List.filter_eq_self.2 (fun p hp => ?_)
      have : (p.1 == s) = false := (beq_ba_false _ _).2 (fun e => hu.1 (by rw [← e]; exact List.mem_map.2 ⟨p, hp, rfl⟩))
      simp [this]
    | false =>
      have hks : (k == s) = false := (beq_ba_false k s).2 (fun e => (beq_ba_false s k).1 hs e.symm)
      have hd : del ((k, v) :: r) s = (k, v) :: del r s := by
        unfold del
        rw [List.filter_cons]
        simp [hks]
      rcases findNow_at s es r (i + 1) hr hu.2 with ⟨h2, h3⟩ | ⟨j, x, h2, h3⟩
      · left
        exact ⟨by simp [Instr.findNow, hk, Instr.sameNow, hs, h2], by rw [hd, h3]⟩
      · right
        refine ⟨j + 1, x, by simp [Instr.findNow, hk, Instr.sameNow, hs, h2]; omega, by rw [hd, h3]; rfl⟩

theorem erase_list (es : Array MapEntry) (j : Nat) : (es.eraseIdxIfInBounds j).toList = es.toList.eraseIdx j := by
  unfold Array.eraseIdxIfInBounds
  by_cases hj : j < es.size
  · simp [hj]
  · simp [hj]
    rw [List.eraseIdx_of_length_le (by simpa using hj)]
/-- 'delete(m, s)' -/
theorem run_del {P : Program} {w : World} {b : Nat} {l : List (ByteArray × Value)} (h : SMap w b l) {t k e : TypeId} (ht : P.underlying t = some (.map k e)) (hk : P.underlying k = some .string) (s : ByteArray) (t2 ty : TypeId) :
    ∃ w', (Builtin.delete_ #[t, t2] ty #[.map (some b), .string s]).run P w = .ok (.tuple #[]) w' ∧ SMap w' b (del l s) ∧ w.grownBy w' (some b) ∧ w'.heap.size = w.heap.size := by
  obtain ⟨es, clock, hb, hl, hbn, hu⟩ := h
  rcases findNow_at s es.toList l 0 hl hu with ⟨h2, h3⟩ | ⟨j, x, h2, h3⟩
  · refine ⟨ChangeMaps.setBlock w b (.map es clock), ?_, ⟨_, _, ChangeMaps.heap_setBlock_same hb _, by rw [h3]; exact hl, hbn, by rw [h3]; exact hu⟩, ⟨rfl, rfl, rfl, by simp [ChangeMaps.setBlock], fun i _ hi => ChangeMaps.heap_setBlock_other hb _ (fun e => hi (by rw [e]))⟩, by simp [ChangeMaps.setBlock]⟩
    simp [Builtin.delete_, run_underlying ht, MapKept.run_getObj_map hb, MapKept.run_checkKey hk (key_str s), MapKept.run_findKey hk h2, MapKept.run_setObj_map _ hb, Result.andThen, ChangeMaps.setBlock]
  · rw [Nat.zero_add] at h2
    refine ⟨ChangeMaps.setBlock w b (.map (es.eraseIdxIfInBounds j) clock), ?_, ⟨_, _, ChangeMaps.heap_setBlock_same hb _, ?_, born_erase hbn j, uniq_del hu s⟩, ⟨rfl, rfl, rfl, by simp [ChangeMaps.setBlock], fun i _ hi => ChangeMaps.heap_setBlock_other hb _ (fun e => hi (by rw [e]))⟩, by simp [ChangeMaps.setBlock]⟩
    · simp [Builtin.delete_, run_underlying ht, MapKept.run_getObj_map hb, MapKept.run_checkKey hk (key_str s), MapKept.run_findKey hk h2, MapKept.run_setObj_map _ hb, Result.andThen, ChangeMaps.setBlock]
    · unfold Holds at hl ⊢
      rw [erase_list, h3, ChangeMaps.map_eraseIdx, ChangeMaps.map_eraseIdx, hl]
/-- 'len(m)' -/
theorem run_slen {P : Program} {w : World} {b : Nat} {l : List (ByteArray × Value)} (h : SMap w b l) {t : TypeId} (ht : P.underlying t = some (.map (P.mapKeyOf t) (P.mapElemOf t))) (ty : TypeId) : (Builtin.len_ #[t] ty #[.map (some b)]).run P w = .ok (.int .i64 (l.length : Nat)) w := by
  obtain ⟨es, clock, hb, hl, _⟩ := h
  have e : es.size = l.length := by simpa using congrArg List.length hl
  rw [run_len_map w t ty b es clock ht hb, e]
  rfl

/-! ### A set of pointers, each to a row of cells -/
def pkey (p : Nat) : Value := .pointer (some ⟨p, 0, none⟩)
def PSet (w : World) (b : Nat) (ps : List Nat) : Prop := ∃ es clock, w.heap[b]? = some (.map es clock) ∧ es.toList.map (·.key) = ps.map pkey ∧ Born es clock ∧ ps.Nodup
theorem PSet.lt {w : World} {b : Nat} {ps : List Nat} (h : PSet w b ps) : b < w.heap.size := by obtain ⟨es, c, h1, _⟩ := h; exact (Array.getElem?_eq_some_iff.1 h1).1
theorem PSet.same {w w' : World} {b : Nat} {ps : List Nat} (h : PSet w b ps) (e : w'.heap[b]? = w.heap[b]?) : PSet w' b ps := by obtain ⟨es, c, h1, h2⟩ := h; exact ⟨es, c, e.trans h1, h2⟩
theorem pSet_empty {w : World} {b : Nat} (h : w.heap[b]? = some (.map #[] 0)) : PSet w b [] := ⟨#[], 0, h, rfl, born_empty, by simp⟩

theorem pkeys_cons {e : MapEntry} {es : List MapEntry} {ps : List Nat} (h : (e :: es).map (·.key) = ps.map pkey) : ∃ p r, ps = p :: r ∧ e.key = pkey p ∧ es.map (·.key) = r.map pkey := by
  cases ps with
  | nil => simp at h
  | cons p r => simp only [List.map_cons, List.cons.injEq] at h; exact ⟨p, r, rfl, h.1, h.2⟩

/-- What a program must say of a pointer type for its pointers to be keys. -/
structure PtrKey (P : Program) (t : TypeId) : Prop where
  und : ∃ e i, P.underlying t = some (.pointer e) ∧ P.info? e = some i ∧ i.size ≠ 0

theorem findAsking_ptr {P : Program} {w : World} {t : TypeId} (hk : PtrKey P t) {q : Nat} (hq : Cel w q) : ∀ (es : List MapEntry) (ps : List Nat) (i : Nat), es.map (·.key) = ps.map pkey → (∀ p ∈ ps, Cel w p) →
    (q ∉ ps ∧ (Instr.findAsking t (pkey q) es i).run P w = .ok none w) ∨ (∃ j v, ps[j]? = some q ∧ (Instr.findAsking t (pkey q) es i).run P w = .ok (some (i + j, v)) w)
  | [], ps, i, h, _ => by
    cases ps with
    | nil => left; exact ⟨by simp, rfl⟩
    | cons p r => simp at h
  | e :: es, ps, i, h, hc => by
    obtain ⟨p, r, rfl, hkey, hr⟩ := pkeys_cons h
    obtain ⟨el, inf, h1, h2, h3⟩ := hk.und
    have heq := run_equal_ptr (P := P) (w := w) h1 h2 h3 hq (hc p (by simp))
    by_cases hpq : q = p
    · subst hpq
      right
      refine ⟨0, e.val, by simp, ?_⟩
      unfold Instr.findAsking
      rw [hkey]
      simp [pkey, heq]
    · have hstep : (Instr.findAsking t (pkey q) (e :: es) i).run P w = (Instr.findAsking t (pkey q) es (i + 1)).run P w := by
        rw [Instr.findAsking, hkey]
        simp [pkey, heq, hpq]
      rcases findAsking_ptr hk hq es r (i + 1) hr (fun x hx => hc x (by simp [hx])) with ⟨h4, h5⟩ | ⟨j, v, h4, h5⟩
      · left
        exact ⟨by simp [hpq, h4], by rw [hstep]; exact h5⟩
      · right
        exact ⟨j + 1, v, by simpa using h4, by rw [hstep, h5]; congr 3; omega⟩
theorem findKey_ptr {P : Program} {w : World} {t : TypeId} (hk : PtrKey P t) {q : Nat} (hq : Cel w q) {es : Array MapEntry} {ps : List Nat} (h : es.toList.map (·.key) = ps.map pkey) (hc : ∀ p ∈ ps, Cel w p) :
    (q ∉ ps ∧ (Instr.findKey t (pkey q) es.toList).run P w = .ok none w) ∨ (∃ j v, ps[j]? = some q ∧ (Instr.findKey t (pkey q) es.toList).run P w = .ok (some (j, v)) w) := by
  obtain ⟨el, inf, h1, h2, h3⟩ := hk.und
  cases hl : es.toList with
  | nil =>
    rw [hl] at h
    cases ps with
    | nil => left; exact ⟨by simp, by simp [Instr.findKey, run_underlying h1, Result.andThen, Instr.findNow]⟩
    | cons p r => simp at h
  | cons e r =>
    rw [hl] at h
    have hs : (Instr.findKey t (pkey q) (e :: r)).run P w = (Instr.findAsking t (pkey q) (e :: r)).run P w := by
      simp [Instr.findKey, run_underlying h1, Result.andThen, Instr.findNow, Instr.sameNow]
    rcases findAsking_ptr hk hq (e :: r) ps 0 h hc with ⟨h4, h5⟩ | ⟨j, v, h4, h5⟩
    · exact .inl ⟨h4, by rw [hs]; exact h5⟩
    · exact .inr ⟨j, v, h4, by rw [hs, h5]; simp⟩
theorem checkKey_ptr {P : Program} {w : World} {t : TypeId} (hk : PtrKey P t) (e : Bool) (q n : Nat) : (Instr.checkKey e (n + 1) t (pkey q)).run P w = .ok () w := by
  obtain ⟨el, inf, h1, h2, h3⟩ := hk.und
  unfold Instr.checkKey
  simp [run_underlying h1, pkey]

/-- 's[p] = struct{}{}' -/
theorem run_pput {P : Program} {w : World} {b : Nat} {ps : List Nat} (h : PSet w b ps) (hc : ∀ p ∈ ps, Cel w p) {t k e : TypeId} (ht : P.underlying t = some (.map k e)) (hk : PtrKey P k) {q : Nat} (hq : Cel w q) (v : Value) :
    ∃ w' ps', (Instr.mapUpdate t (.map (some b)) (pkey q) v).run P w = .ok () w' ∧ PSet w' b ps' ∧ (∀ p, p ∈ ps' ↔ p ∈ ps ∨ p = q) ∧ w.grownBy w' (some b) ∧ w'.heap.size = w.heap.size := by
  obtain ⟨es, clock, hb, hl, hbn, hu⟩ := h
  rcases findKey_ptr hk hq hl hc with ⟨h1, h2⟩ | ⟨j, x, h1, h2⟩
  · refine ⟨ChangeMaps.setBlock w b (.map (es.push { key := pkey q, val := v, born := clock }) (clock + 1)), ps ++ [q], ?_, ⟨_, _, ChangeMaps.heap_setBlock_same hb _, by simp [hl], born_push hbn _ _, ?_⟩, by simp, ⟨rfl, rfl, rfl, by simp [ChangeMaps.setBlock], fun i _ hi => ChangeMaps.heap_setBlock_other hb _ (fun e => hi (by rw [e]))⟩, by simp [ChangeMaps.setBlock]⟩
    · simp [Instr.mapUpdate, run_underlying ht, MapKept.run_getObj_map hb, checkKey_ptr hk, h2, MapKept.run_setObj_map _ hb, Result.andThen, ChangeMaps.setBlock]
    · exact List.nodup_append.2 ⟨hu, by simp, fun a ha b hb e => by simp at hb; subst hb; subst e; exact h1 ha⟩
  · have hlen : es.toList.length = ps.length := by simpa using congrArg List.length hl
    have hj : j < ps.length := (List.getElem?_eq_some_iff.1 h1).1
    have hke : (es[j]?).map (·.key) = some (pkey q) := by
      have := congrArg (fun l => l[j]?) hl
      simp only [List.getElem?_map, h1, Array.getElem?_toList] at this
      simpa using this
    obtain ⟨e0, he0, hk0⟩ : ∃ e0, es[j]? = some e0 ∧ e0.key = pkey q := by
      cases he : es[j]? with
      | none => simp [he] at hke
      | some e0 => exact ⟨e0, rfl, by simpa [he] using hke⟩
    refine ⟨ChangeMaps.setBlock w b (.map (es.modify j fun e => { e with key := pkey q, val := v }) clock), ps, ?_, ⟨_, _, ChangeMaps.heap_setBlock_same hb _, ?_, born_same hbn (modify_born es j _ _), hu⟩, fun p => ?_, ⟨rfl, rfl, rfl, by simp [ChangeMaps.setBlock], fun i _ hi => ChangeMaps.heap_setBlock_other hb _ (fun e => hi (by rw [e]))⟩, by simp [ChangeMaps.setBlock]⟩
    · have hst : (Instr.keyThatStays (pkey q) (pkey q)).run P w = .ok (pkey q) w := by simp [Instr.keyThatStays, pkey, Instr.sameBits]
      simp [Instr.mapUpdate, run_underlying ht, MapKept.run_getObj_map hb, checkKey_ptr hk, h2, he0, hk0, hst, MapKept.run_setObj_map _ hb, Result.andThen, ChangeMaps.setBlock]
    · rw [← hl]
      apply List.ext_getElem?
      intro i
      simp only [List.getElem?_map, Array.getElem?_toList, Array.getElem?_modify]
      by_cases hij : j = i
      · subst hij; simp [he0, hk0]
      · simp [hij]
    · exact ⟨.inl, fun h => by rcases h with h | rfl; exact h; exact List.mem_of_getElem? h1⟩
/-- 'delete(s, p)' -/
theorem run_pdel {P : Program} {w : World} {b : Nat} {ps : List Nat} (h : PSet w b ps) (hc : ∀ p ∈ ps, Cel w p) {t k e : TypeId} (ht : P.underlying t = some (.map k e)) (hk : PtrKey P k) {q : Nat} (hq : Cel w q) (t2 ty : TypeId) :
    ∃ w' ps', (Builtin.delete_ #[t, t2] ty #[.map (some b), pkey q]).run P w = .ok (.tuple #[]) w' ∧ PSet w' b ps' ∧ (∀ p, p ∈ ps' ↔ p ∈ ps ∧ p ≠ q) ∧ w.grownBy w' (some b) ∧ w'.heap.size = w.heap.size := by
  obtain ⟨es, clock, hb, hl, hbn, hu⟩ := h
  rcases findKey_ptr hk hq hl hc with ⟨h1, h2⟩ | ⟨j, x, h1, h2⟩
  · refine ⟨ChangeMaps.setBlock w b (.map es clock), ps, ?_, ⟨_, _, ChangeMaps.heap_setBlock_same hb _, hl, hbn, hu⟩, fun p => ⟨fun h => ⟨h, fun e => h1 (e ▸ h)⟩, fun h => h.1⟩, ⟨rfl, rfl, rfl, by simp [ChangeMaps.setBlock], fun i _ hi => ChangeMaps.heap_setBlock_other hb _ (fun e => hi (by rw [e]))⟩, by simp [ChangeMaps.setBlock]⟩
    simp [Builtin.delete_, run_underlying ht, MapKept.run_getObj_map hb, checkKey_ptr hk, h2, MapKept.run_setObj_map _ hb, Result.andThen, ChangeMaps.setBlock]
  · refine ⟨ChangeMaps.setBlock w b (.map (es.eraseIdxIfInBounds j) clock), ps.eraseIdx j, ?_, ⟨_, _, ChangeMaps.heap_setBlock_same hb _, ?_, born_erase hbn j, (List.eraseIdx_sublist _ _).nodup hu⟩, fun p => ?_, ⟨rfl, rfl, rfl, by simp [ChangeMaps.setBlock], fun i _ hi => ChangeMaps.heap_setBlock_other hb _ (fun e => hi (by rw [e]))⟩, by simp [ChangeMaps.setBlock]⟩
    · simp [Builtin.delete_, run_underlying ht, MapKept.run_getObj_map hb, checkKey_ptr hk, h2, MapKept.run_setObj_map _ hb, Result.andThen, ChangeMaps.setBlock]
    · rw [erase_list, ChangeMaps.map_eraseIdx, ChangeMaps.map_eraseIdx, hl]
    · have hj : j < ps.length := (List.getElem?_eq_some_iff.1 h1).1
      have hjq : ps[j] = q := (List.getElem?_eq_some_iff.1 h1).2
      have hm := List.mem_eraseIdx_iff_getElem (l := ps) (x := p) (k := j)
      rw [hm]
      constructor
      · rintro ⟨i, hi, hne, rfl⟩
        exact ⟨List.getElem_mem _, fun e => hne ((List.getElem_inj hu).1 (e.trans hjq.symm))⟩
      · rintro ⟨hp, hne⟩
        obtain ⟨i, hi, rfl⟩ := List.getElem_of_mem hp
        exact ⟨i, hi, fun e => hne (by subst e; exact hjq), rfl⟩
theorem run_plen {P : Program} {w : World} {b : Nat} {ps : List Nat} (h : PSet w b ps) {t : TypeId} (ht : P.underlying t = some (.map (P.mapKeyOf t) (P.mapElemOf t))) (ty : TypeId) : (Builtin.len_ #[t] ty #[.map (some b)]).run P w = .ok (.int .i64 (ps.length : Nat)) w := by
  obtain ⟨es, clock, hb, hl, _⟩ := h
  have e : es.size = ps.length := by simpa using congrArg List.length hl
  rw [run_len_map w t ty b es clock ht hb, e]
  rfl

end Kn
