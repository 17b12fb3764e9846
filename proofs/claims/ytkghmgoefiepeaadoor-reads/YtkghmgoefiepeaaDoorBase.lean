/- Plain laws that hang on no program: a map keyed by strings as a list of pairs. -/
import Derived.WalkKit
import Derived.ProofKit
import Derived.ChangeMaps5
import Derived.Below
import Derived.Carry
import Derived.OwnWalk
namespace Kn
open Go Go.RowKit
set_option linter.unusedSimpArgs false
set_option linter.unusedVariables false

theorem beq_ba (a b : ByteArray) : (a == b) = true ↔ a = b := by
  cases a with | mk a => cases b with | mk b =>
  have e : ((⟨a⟩ : ByteArray) == ⟨b⟩) = (a == b) := rfl
  rw [e, beq_iff_eq]
  exact ⟨fun h => by rw [h], fun h => by injection h⟩
theorem beq_ba_false (a b : ByteArray) : (a == b) = false ↔ a ≠ b := by
  rw [Ne, ← beq_ba a b, Bool.not_eq_true]
theorem beq_ba_self (a : ByteArray) : (a == a) = true := (beq_ba a a).2 rfl

/-- What a map's entries hold, in their order. -/
def Holds (es : Array MapEntry) (l : List (ByteArray × Value)) : Prop := es.toList.map (fun e => (e.key, e.val)) = l.map (fun p => (Value.string p.1, p.2))

/-- Block b of w is a map keyed by strings that holds l. -/
def StrMap (w : World) (b : Nat) (l : List (ByteArray × Value)) : Prop := ∃ es clock, w.heap[b]? = some (.map es clock) ∧ Holds es l

def put : List (ByteArray × Value) → ByteArray → Value → List (ByteArray × Value)
  | [], s, v => [(s, v)]
  | (k, x) :: r, s, v => if s == k then (s, v) :: r else (k, x) :: put r s v

theorem holds_cons {e : MapEntry} {es : List MapEntry} {l : List (ByteArray × Value)} (h : (e :: es).map (fun e => (e.key, e.val)) = l.map (fun p => (Value.string p.1, p.2))) :
    ∃ k v r, l = (k, v) :: r ∧ e.key = .string k ∧ e.val = v ∧ es.map (fun e => (e.key, e.val)) = r.map (fun p => (Value.string p.1, p.2)) := by
  cases l with
  | nil => simp at h
  | cons p r =>
    simp only [List.map_cons, List.cons.injEq, Prod.mk.injEq] at h
    exact ⟨p.1, p.2, r, rfl, h.1.1, h.1.2, h.2⟩

theorem findNow_str (s : ByteArray) : ∀ (es : List MapEntry) (l : List (ByteArray × Value)) (i : Nat), es.map (fun e => (e.key, e.val)) = l.map (fun p => (Value.string p.1, p.2)) →
    (l.lookup s = none ∧ Instr.findNow .string (.string s) es i = some none ∧ put l s = fun v => l ++ [(s, v)]) ∨
    (∃ j v, l.lookup s = some v ∧ Instr.findNow .string (.string s) es i = some (some (i + j, v)) ∧ (es[j]?).map (·.key) = some (.string s) ∧ put l s = fun x => l.set j (s, x))
  | [], l, i, h => by
    cases l with
    | nil => left; exact ⟨rfl, rfl, by funext v; rfl⟩
    | cons p r => simp at h
  | e :: es, l, i, h => by
    obtain ⟨k, v, r, rfl, hk, hv, hr⟩ := holds_cons h
    cases hs : (s == k) with
    | true =>
      right
      refine ⟨0, v, by simp [List.lookup, hs], by simp [Instr.findNow, hk, Instr.sameNow, hs, hv], ?_, ?_⟩
      · have e : s = k := (beq_ba s k).1 hs
        simp [hk, e]
      · funext x; simp [put, hs]
    | false =>
      rcases findNow_str s es r (i + 1) hr with ⟨h1, h2, h3⟩ | ⟨j, x, h1, h2, h3, h4⟩
      · left
        refine ⟨by simp [List.lookup, hs, h1], by simp [Instr.findNow, hk, Instr.sameNow, hs, h2], ?_⟩
        funext v; simp [put, hs, h3]
      · right
        refine ⟨j + 1, x, by simp [List.lookup, hs, h1], by simp [Instr.findNow, hk, Instr.sameNow, hs, h2]; omega, by simpa using h3, ?_⟩
        funext v; simp [put, hs, h4]

theorem key_str (s : ByteArray) : MapKept.IsKey .string (.string s) := by simp [MapKept.IsKey]

/-- 'm[s]' -/
theorem run_lookup {P : Program} {w : World} {b : Nat} {l : List (ByteArray × Value)} (h : StrMap w b l) {t k e : TypeId} (ht : P.underlying t = some (.map k e)) (hk : P.underlying k = some .string) {z : Value}
    (hz : (zeroValue e).run P w = .ok z w) (s : ByteArray) : (Instr.lookup t (.map (some b)) (.string s) false).run P w = .ok ((l.lookup s).getD z) w := by
  obtain ⟨es, clock, hb, hl⟩ := h
  rcases findNow_str s es.toList l 0 hl with ⟨h1, h2, _⟩ | ⟨j, x, h1, h2, _, _⟩
  · simp [Instr.lookup, run_underlying ht, MapKept.run_getObj_map hb, MapKept.run_checkKey hk (key_str s), MapKept.run_findKey hk h2, Result.andThen, h1, hz]
  · simp [Instr.lookup, run_underlying ht, MapKept.run_getObj_map hb, MapKept.run_checkKey hk (key_str s), MapKept.run_findKey hk h2, Result.andThen, h1]

/-- 'm[s] = v' -/
theorem run_update {P : Program} {w : World} {b : Nat} {l : List (ByteArray × Value)} (h : StrMap w b l) {t k e : TypeId} (ht : P.underlying t = some (.map k e)) (hk : P.underlying k = some .string) (s : ByteArray) (v : Value) :
    ∃ w', (Instr.mapUpdate t (.map (some b)) (.string s) v).run P w = .ok () w' ∧ StrMap w' b (put l s v) ∧ w.grownBy w' (some b) := by
  obtain ⟨es, clock, hb, hl⟩ := h
  rcases findNow_str s es.toList l 0 hl with ⟨h1, h2, h3⟩ | ⟨j, x, h1, h2, h3, h4⟩
  · refine ⟨ChangeMaps.setBlock w b (.map (es.push { key := .string s, val := v, born := clock }) (clock + 1)), ?_, ⟨_, _, ChangeMaps.heap_setBlock_same hb _, ?_⟩, ⟨rfl, rfl, rfl, by simp [ChangeMaps.setBlock], fun i _ hi => ChangeMaps.heap_setBlock_other hb _ (fun e => hi (by rw [e]))⟩⟩
    · simp [Instr.mapUpdate, run_underlying ht, MapKept.run_getObj_map hb, MapKept.run_checkKey hk (key_str s), MapKept.run_findKey hk h2, MapKept.run_setObj_map _ hb, Result.andThen, ChangeMaps.setBlock]
    · unfold Holds at hl ⊢
      rw [h3]
      simp [hl]
  · obtain ⟨e0, he0, hk0⟩ : ∃ e0, es.toList[j]? = some e0 ∧ e0.key = .string s := by
      cases he : es.toList[j]? with
      | none => simp [he] at h3
      | some e0 => exact ⟨e0, rfl, by simpa [he] using h3⟩
    have he1 : es[j]? = some e0 := by simpa using he0
    refine ⟨ChangeMaps.setBlock w b (.map (es.modify j fun e => { e with key := .string s, val := v }) clock), ?_, ⟨_, _, ChangeMaps.heap_setBlock_same hb _, ?_⟩, ⟨rfl, rfl, rfl, by simp [ChangeMaps.setBlock], fun i _ hi => ChangeMaps.heap_setBlock_other hb _ (fun e => hi (by rw [e]))⟩⟩
    · simp [Instr.mapUpdate, run_underlying ht, MapKept.run_getObj_map hb, MapKept.run_checkKey hk (key_str s), MapKept.run_findKey hk h2, he1, hk0, MapKept.run_keyThatStays (key_str s), MapKept.run_setObj_map _ hb, Result.andThen, ChangeMaps.setBlock]
    · unfold Holds at hl ⊢
      rw [h4]
      apply List.ext_getElem?
      intro i
      have hi := congrArg (fun l => l[i]?) hl
      simp only [List.getElem?_map] at hi ⊢
      rw [Array.toList_modify, ChangeMaps.modify_eq_set _ _ _ _ he0]
      by_cases hij : j = i
      · subst hij
        have hlt : j < es.size := (Array.getElem?_eq_some_iff.1 he1).1
        have hlen : es.toList.length = l.length := by simpa using congrArg List.length hl
        have hlt' : j < l.length := by simp at hlen; omega
        simp [hlt, hlt']
      · simp [hij] at hi ⊢
        exact hi

theorem StrMap.lt {w : World} {b : Nat} {l : List (ByteArray × Value)} (h : StrMap w b l) : b < w.heap.size := by
  obtain ⟨es, clock, hb, _⟩ := h
  exact (Array.getElem?_eq_some_iff.1 hb).1
theorem StrMap.grown {w w' : World} {b : Nat} {l : List (ByteArray × Value)} {row : Option Nat} (h : StrMap w b l) (hg : w.grownBy w' row) (hne : some b ≠ row) : StrMap w' b l := by
  have hlt := h.lt
  obtain ⟨es, clock, hb, hl⟩ := h
  exact ⟨es, clock, (hg.block b hlt hne).trans hb, hl⟩
theorem StrMap.alloc {w : World} {b : Nat} {l : List (ByteArray × Value)} (h : StrMap w b l) (o : Obj) : StrMap (w.alloc o) b l := h.grown (World.grownBy_alloc w o none) (by simp)
theorem StrMap.below {B : Nat} {w w' : World} {b : Nat} {l : List (ByteArray × Value)} (h : StrMap w b l) (hb : Below B w w') (hB : b < B) : StrMap w' b l := by
  obtain ⟨es, clock, hh, hl⟩ := h
  exact ⟨es, clock, (hb.block b hB).trans hh, hl⟩
theorem strMap_made (w : World) : StrMap (w.alloc (.map #[] 0)) w.heap.size [] := ⟨#[], 0, (MapKept.heap_alloc w _).1, rfl⟩

/-- What an append of the call's own leaves of old memory. -/
theorem push_below {w wr w1 : World} {B : Nat} {e : TypeId} {size n : Nat} {v : Value} {xs : List Value} {o : Obj} (hb : Below B w wr) (hB : B ≤ w.heap.size) (hown : wr.ownsRow B e size v n xs)
    (hg : (wr.alloc o).grownBy w1 v.ownBlock) : Below B w w1 :=
  (hb.alloc (Nat.le_trans hB hb.size) o).grown hg (by have := hb.size; simp only [World.size_alloc]; omega) (fun k hk => (hown.lt k hk).1)

theorem cells_laid (w : World) (xs : List Value) (e : TypeId) : ∀ j u, xs[j]? = some u → (w.alloc (.cells xs.toArray e)).cell? ((⟨w.heap.size, 0, none⟩ : Addr).add j) = some u := by
  intro j u hj
  have hadd : (⟨w.heap.size, 0, none⟩ : Addr).add j = ⟨w.heap.size, j, none⟩ := by unfold Addr.add; split <;> simp_all
  rw [hadd]
  have e1 := (MapKept.heap_alloc w (.cells xs.toArray e)).1
  simp only [World.cell?, e1]
  simpa using hj

/-- A law's end where the call has made memory, and nothing old has turned. -/
theorem post_below {H : Type} {enc : TypeId × Value → H} {P : Program} {f : Func} {s : ChangeSpec} {apart fresh handsOn again : Bool} {W W' : World} {args : Array Value} {v : Value} {ds gs : List (DataW H)} {before pa pv : List MemPlace}
    (hW : DataW.Whole enc P f.params.toList s.vars apart W args.toList ds gs before)
    (hres : ∀ (b : Nat) (sp : Nat → Bool) (hd : Bool), DataW.TrodAll enc P W' b sp hd f.resultTypes.toList (v.resultList f.resultTypes.size) (s.fn H (ds ++ gs)).results [])
    (hargs : ∀ sp : Nat → Bool, (∀ p ∈ before, sp p.block = true) → DataW.TrodAll enc P W' 0 sp true f.params.toList args.toList (s.fn H (ds ++ gs)).args pa)
    (hvars : ∀ sp : Nat → Bool, (∀ p ∈ before, sp p.block = true) → DataW.TrodVars enc P W' sp s.vars (s.fn H (ds ++ gs)).vars pv)
    (hps : before = pa ++ pv) (hb : Below W.heap.size W W')
    (hok : ∀ (j : Nat) (t : TypeId) (r : Value), f.resultTypes[j]? = some t → (v.resultList f.resultTypes.size)[j]? = some r → Value.okWide P W' .any 0 t r) :
    s.post enc P f apart fresh handsOn again W args v W' := by
  have hlt := hW.lt
  have hold : ∀ p ∈ before, (fun b => decide (b < W.heap.size)) p.block = true := fun p hp => by simpa using hlt p hp
  refine ⟨ds, gs, before, [], pa, pv, hW, hres _ _ _, hargs _ hold, hvars _ hold, World.keptBut_mono (fun p hp => ⟨hp, ?_⟩) (hb.frame (· ∈ before)), fun _ => ?_⟩
  · exact Or.inr (by simpa [hps] using hp)
  · obtain ⟨_, _, _, _, _, hz, hn⟩ := hW
    refine ⟨hok, _, _, ([] ++ pa) ++ pv, ⟨[] ++ pa, pv, ChangeShapes.trodAll_append (hargs _ (fun _ _ => rfl)) (hres _ _ _), hvars _ (fun _ _ => rfl), rfl, ?_, ?_⟩, ?_⟩
    · intro b off hp
      have hm : MemPlace.cell b off ∈ before := by rw [hps]; simpa using hp
      have := hlt _ hm
      rw [hb.frozen (p := ⟨b, off, none⟩) this]
      exact hz b off hm
    · intro ha
      have := hn ha
      rw [hps] at this
      simpa using this
    · intro p hp _
      rw [hps]
      simpa using hp

end Kn
