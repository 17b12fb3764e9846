/- kin: a set of places forgets, where none remembers anything (seat of Reads). -/
import Derived.Test.YtkghmgoefiepeaaDoorTab
namespace Go.Proofs.YtkghmgoefiepeaaDoor.reads
open Go.ChangeShapes Go.WideShapes Go.ChangeAt Go.RowKit Kn Go.Proofs.YtkghmgoefiepeaaDoor.img
set_option linter.unusedSimpArgs false
set_option linter.unusedVariables false

theorem NoMem.cell {w : World} {p : Nat} (h : NoMem w p) : w.cell? ⟨p, 0, none⟩ = some (.iface 136 (.agg #[])) := by unfold NoMem at h; simp only [World.cell?, h]; rfl
theorem NoMem.set {w : World} {p q : Nat} (h : NoMem w p) : NoMem (w.setCell ⟨q, 0, none⟩ (.iface 136 (.agg #[]))) p := by
  by_cases e : p = q
  · subst e
    unfold NoMem at h ⊢
    simp only [World.setCell, Array.getElem?_modify, if_pos, h]; rfl
  · exact (Below.heap_setCell w _ _ p e).trans h
theorem NoMem.same {w w' : World} {p : Nat} (h : NoMem w p) (e : w'.heap[p]? = w.heap[p]?) : NoMem w' p := e.trans h

set_option maxHeartbeats 1000000 in
set_option maxRecDepth 100000 in
theorem eforget_any (w : World) (v : Value) : Calls Tryd.prog 89 #[.agg #[], v] w fun e w' => e = .returned (.iface 136 (.agg #[])) ∧ Below w.heap.size w w' := by
  go_enter Tryd.func89, Tryd.ntmps89
  go_wp2
  go_ret
  exact ⟨rfl, (Below.refl _ _).alloc (Nat.le_refl _) _⟩

/-- What a step of a loop over a map leaves: the iterator's block alone has turned. -/
theorem iter_step {wr w1 : World} {r : Nat} {o o' : Obj} (hw1 : w1 = wr ∨ w1 = wr.drew) (hit : wr.heap[r]? = some o) : (ChangeMaps.setBlock w1 r o').heap[r]? = some o' ∧ (∀ k, k ≠ r → (ChangeMaps.setBlock w1 r o').heap[k]? = wr.heap[k]?) ∧ (ChangeMaps.setBlock w1 r o').heap.size = wr.heap.size ∧ Chg wr (ChangeMaps.setBlock w1 r o') (fun k => k = r) := by
  have hl : r < wr.heap.size := (Array.getElem?_eq_some_iff.1 hit).1
  have hh : w1.heap = wr.heap ∧ w1.os = wr.os ∧ w1.tape = wr.tape ∧ w1.output = wr.output := by rcases hw1 with h | h <;> subst h <;> exact ⟨rfl, rfl, rfl, rfl⟩
  have key : ∀ k, k ≠ r → (ChangeMaps.setBlock w1 r o').heap[k]? = wr.heap[k]? := by
    intro k hk
    show (w1.heap.setIfInBounds r o')[k]? = _
    rw [hh.1]
    simp [Array.getElem?_setIfInBounds, Ne.symm hk]
  have hsz : (ChangeMaps.setBlock w1 r o').heap.size = wr.heap.size := by
    show (w1.heap.setIfInBounds r o').size = _
    rw [hh.1]; simp
  refine ⟨?_, key, hsz, ⟨hh.2.1, hh.2.2.1, hh.2.2.2, by omega, fun k _ hk => key k hk⟩⟩
  show (w1.heap.setIfInBounds r o')[r]? = _
  rw [hh.1]
  simp [Array.getElem?_setIfInBounds, hl]

set_option maxHeartbeats 1000000 in
set_option maxRecDepth 100000 in
theorem pforget_no (ib : Nat) (ps : List Nat) (v : Value) (w : World) (h : PSet w ib ps) (hp : ∀ p ∈ ps, NoMem w p) :
    Calls Tryd.prog 55 #[.map (some ib), v] w fun e w' => e = .returned (.tuple #[]) ∧ (∀ p ∈ ps, NoMem w' p) ∧ Chg w w' (fun k => k ∈ ps) := by
  obtain ⟨es, clock, hb, hkeys, hbn, hnd⟩ := h
  have hrg := run_range_map (P := Tryd.prog) w 126 _ _ ib es clock Tryd.underlying126 hb
  go_enter Tryd.func55, Tryd.ntmps55
  go_wp2
  go_loopw [7] (fun _ wr => ∃ seen, wr.heap[w.heap.size]? = some (.mapIter (some ib) clock seen clock) ∧ (∀ p ∈ ps, NoMem wr p) ∧ Chg w wr (fun k => k ∈ ps)) (fun _ wr => (leftOf es (wr.iterSeen w.heap.size)).size)
  case atStart => exact ⟨#[], (MapKept.heap_alloc w _).1, fun p hq => (hp p hq).same (Below.heap_alloc w _ p (hp p hq).lt), (Chg.refl w _).alloc _⟩
  case round =>
    obtain ⟨seen, hit, hpr, hch⟩ := hrel
    have hbr : wr.heap[ib]? = some (.map es clock) := (hch.block ib (Array.getElem?_eq_some_iff.1 hb).1 (fun e => by have := hp ib e; unfold NoMem at this; rw [hb] at this; cases this)).trans hb
    rcases run_next_at (P := Tryd.prog) wr 0 w.heap.size ib clock clock seen es clock hit hbr (fun x hx => hbn.1 x hx) (Nat.le_refl _) with ⟨hl0, hnx⟩ | ⟨en, hen, w1, hw1, hnx⟩
    · have HC : Hid ((∀ p ∈ ps, NoMem wr p) ∧ Chg w wr (fun k => k ∈ ps)) := ⟨hpr, hch⟩
      clear hpr hch hrg
      go_wp2
      go_end0
      exact ⟨rfl, HC.out⟩
    · have hem := (mem_left hen).1
      obtain ⟨q, hq, hqk⟩ : ∃ q ∈ ps, en.key = pkey q := by
        have : en.key ∈ es.toList.map (·.key) := List.mem_map.2 ⟨en, hem, rfl⟩
        rw [hkeys] at this
        obtain ⟨q, hq, e⟩ := List.mem_map.1 this
        exact ⟨q, hq, e.symm⟩
      obtain ⟨i1, i2, i3, i4⟩ := iter_step (o' := .mapIter (some ib) clock (seen.push en.born) clock) hw1 hit
      obtain ⟨W2, hW2⟩ : ∃ W2, W2 = ChangeMaps.setBlock w1 w.heap.size (.mapIter (some ib) clock (seen.push en.born) clock) := ⟨_, rfl⟩
      rw [← hW2] at i1 i2 i3 i4 hnx
      clear hW2
      have hrl : ¬ w.heap.size ∈ ps := fun e => by have := (hp _ e).lt; omega
      have hne : ∀ p ∈ ps, p ≠ w.heap.size := fun p hq e => hrl (e ▸ hq)
      have hib : ib ≠ w.heap.size := by have := (Array.getElem?_eq_some_iff.1 hb).1; omega
      have hent := run_entry_at (P := Tryd.prog) W2 w.heap.size ib clock seen es clock en i1 ((i2 ib hib).trans hbr) hem hbn.2
      rw [hqk, pkey] at hnx hent
      have HL : Hid ((leftOf es (seen.push en.born)).size < (leftOf es seen).size) := left_shrinks es seen en hen
      have HS : Hid (wr.iterSeen w.heap.size = seen) := by
        have hx1 : wr.iterSeen w.heap.size = seen := by unfold World.iterSeen; rw [hit]
        exact hx1
      have HP : Hid (∀ p ∈ ps, NoMem W2 p) := by
        have hx1 : ∀ p ∈ ps, NoMem W2 p := fun p hq => (hpr p hq).same (i2 p (hne p hq))
        exact hx1
      have HC : Hid (Chg w W2 (fun k => k ∈ ps)) := hch.then i4 (fun k hk e => by omega)
      clear hpr hch hrg i2 i4 hbr hit hen hem hw1
      have c0 := (HP.out q hq).cell
      have cf := fun o => (HP.out q hq).cel.free o
      have cl := (HP.out q hq).lt
      go_wp2_with fail
      refine (eforget_any W2 v).mono ?_
      rintro e W3 ⟨rfl, hb3⟩
      have HP3 : Hid (∀ p ∈ ps, NoMem W3 p) := by
        have hx1 : ∀ p ∈ ps, NoMem W3 p := fun p hq => (HP.out p hq).same (hb3.block p (HP.out p hq).lt)
        exact hx1
      have HI3 : Hid (W3.heap[w.heap.size]? = some (.mapIter (some ib) clock (seen.push en.born) clock)) := (hb3.block _ (Array.getElem?_eq_some_iff.1 i1).1).trans i1
      have HC3 : Hid (Chg w W3 (fun k => k ∈ ps)) := HC.out.trans (Chg.of_below hb3 _)
      have c3 := (HP3.out q hq).cell
      have cf3 := fun o => (HP3.out q hq).cel.free o
      clear hb3 c0 cf cl hnx hent i1
      go_wp2
      go_roundw
      case rel =>
        exact ⟨seen.push en.born, (Below.heap_setCell _ _ _ _ (fun e => hne q hq e.symm)).trans HI3.out, fun p hq' => (HP3.out p hq').set, HC3.out.setCell _ _ (fun _ => hq)⟩
      case measure =>
        have e1 : (W3.setCell ⟨q, 0, none⟩ (.iface 136 (.agg #[]))).iterSeen w.heap.size = seen.push en.born := by
          unfold World.iterSeen
          rw [(Below.heap_setCell _ _ _ _ (fun e => hne q hq e.symm)).trans HI3.out]
        rw [e1, HS.out]
        exact HL.out

end Go.Proofs.YtkghmgoefiepeaaDoor.reads
