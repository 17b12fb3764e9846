/- kin: a set of places forgets, where none remembers anything (seat of Reads). -/
import Derived.Test.YtkghmgoefiepeaaDoorTab
namespace Go.Proofs.YtkghmgoefiepeaaDoor.reads
open Go.ChangeShapes Go.WideShapes Go.ChangeAt Go.RowKit Kn Go.Proofs.YtkghmgoefiepeaaDoor.img
set_option linter.unusedSimpArgs false
set_option linter.unusedVariables false

theorem NoMem.cell {w : World} {p : Nat} (h : NoMem w p) : w.cell? ⟨p, 0, none⟩ = some (.iface 136 (.agg #[])) := by unfold NoMem at h; simp only [World.cell?, h]; rfl
theorem NoMem.set {w : World} {p q : Nat} (h : NoMem w p) : NoMem (w.setCell ⟨q, 0, none⟩ (.iface 136 (.agg #[]))) p := by
  by_cases e : p = q
  · subst e
    unfold NoMem at h ⊢
    simp only [World.setCell, Array.getElem?_modify, if_pos, h]; rfl
  · exact (Below.heap_setCell w _ _ p e).trans h
theorem NoMem.same {w w' : World} {p : Nat} (h : NoMem w p) (e : w'.heap[p]? = w.heap[p]?) : NoMem w' p := e.trans h

set_option maxHeartbeats 1000000 in
set_option maxRecDepth 100000 in
theorem eforget_any (w : World) (v : Value) : Calls Tryd.prog 89 #[.agg #[], v] w fun e w' => e = .returned (.iface 136 (.agg #[])) ∧ Below w.heap.size w w' := by
  go_enter Tryd.func89, Tryd.ntmps89
  go_wp2
  go_ret
  exact ⟨rfl, (Below.refl _ _).alloc (Nat.le_refl _) _⟩

/-- What a step of a loop over a map leaves: the iterator's block alone has turned. -/
theorem iter_step {wr w1 : World} {r : Nat} {o o' : Obj} (hw1 : w1 = wr ∨ w1 = wr.drew) (hit : wr.heap[r]? = some o) : (ChangeMaps.setBlock w1 r o').heap[r]? = some o' ∧ (∀ k, k ≠ r → (ChangeMaps.setBlock w1 r o').heap[k]? = wr.heap[k]?) ∧ (ChangeMaps.setBlock w1 r o').heap.size = wr.heap.size ∧ Chg wr (ChangeMaps.setBlock w1 r o') (fun k => k = r) := by
  have hl : r < wr.heap.size := (Array.getElem?_eq_some_iff.1 hit).1
  have hh : w1.heap = wr.heap ∧ w1.os = wr.os ∧ w1.tape = wr.tape ∧ w1.output = wr.output := by rcases hw1 with h | h <;> subst h <;> exact ⟨rfl, rfl, rfl, rfl⟩
  have key : ∀ k, k ≠ r → (ChangeMaps.setBlock w1 r o').heap[k]? = wr.heap[k]? := by
    intro k hk
    show (w1.heap.setIfInBounds r o')[k]? = _
    rw [hh.1]
    simp [Array.getElem?_setIfInBounds, Ne.symm hk]
  have hsz : (ChangeMaps.setBlock w1 r o').heap.size = wr.heap.size := by
    show (w1.heap.setIfInBounds r o').size = _
    rw [hh.1]; simp
  refine ⟨?_, key, hsz, ⟨hh.2.1, hh.2.2.1, hh.2.2.2, by omega, fun k _ hk => key k hk⟩⟩
  show (w1.heap.setIfInBounds r o')[r]? = _
  rw [hh.1]
  simp [Array.getElem?_setIfInBounds, hl]

set_option maxHeartbeats 1000000 in
set_option maxRecDepth 100000 in
theorem pforget_no (ib : Nat) (ps : List Nat) (v : Value) (w : World) (h : PSet w ib ps) (hp : ∀ p ∈ ps, NoMem w p) :
    Calls Tryd.prog 55 #[.map (some ib), v] w fun e w' => e = .returned (.tuple #[]) ∧ (∀ p ∈ ps, NoMem w' p) ∧ Chg w w' (fun k => k ∈ ps) := by
  obtain ⟨es, clock, hb, hkeys, hbn, hnd⟩ := h
  have hrg := run_range_map (P := Tryd.prog) w 126 _ _ ib es clock Tryd.underlying126 hb
  go_enter Tryd.func55, Tryd.ntmps55
  go_wp2
  go_loopw [7] (fun _ wr => ∃ seen, wr.heap[w.heap.size]? = some (.mapIter (some ib) clock seen clock) ∧ (∀ p ∈ ps, NoMem wr p) ∧ Chg w wr (fun k => k ∈ ps)) (fun _ wr => (leftOf es (wr.iterSeen w.heap.size)).size)
  case atStart => exact ⟨#[], (MapKept.heap_alloc w _).1, fun p hq => (hp p hq).same (Below.heap_alloc w _ p (hp p hq).lt), (Chg.refl w _).alloc _⟩
  case round =>
    obtain ⟨seen, hit, hpr, hch⟩ := hrel
    have hbr : wr.heap[ib]? = some (.map es clock) := (hch.block ib (Array.getElem?_eq_some_iff.1 hb).1 (fun e => by have := hp ib e; unfold NoMem at this; rw [hb] at this; cases this)).trans hb
    rcases run_next_at (P := Tryd.prog) wr 0 w.heap.size ib clock clock seen es clock hit hbr (fun x hx => hbn.1 x hx) (Nat.le_refl _) with ⟨hl0, hnx⟩ | ⟨en, hen, w1, hw1, hnx⟩
    · have HC : Hid ((∀ p ∈ ps, NoMem wr p) ∧ Chg w wr (fun k => k ∈ ps)) := ⟨hpr, hch⟩
      clear hpr hch hrg
      go_wp2
      go_end0
      exact ⟨rfl, HC.out⟩
    · have hem := (mem_left hen).1
      obtain ⟨q, hq, hqk⟩ : ∃ q ∈ ps, en.key = pkey q := by
        have : en.key ∈ es.toList.map (·.key) := List.mem_map.2 ⟨en, hem, rfl⟩
        rw [hkeys] at this
        obtain ⟨q, hq, e⟩ := List.mem_map.1 this
        exact ⟨q, hq, e.symm⟩
      obtain ⟨i1, i2, i3, i4⟩ := iter_step (o' := .mapIter (some ib) clock (seen.push en.born) clock) hw1 hit
      obtain ⟨W2, hW2⟩ : ∃ W2, W2 = ChangeMaps.setBlock w1 w.heap.size (.mapIter (some ib) clock (seen.push en.born) clock) := ⟨_, rfl⟩
      rw [← hW2] at i1 i2 i3 i4 hnx
      clear hW2
      have hrl : ¬ w.heap.size ∈ ps := fun e => by have := (hp _ e).lt; omega
      have hne : ∀ p ∈ ps, p ≠ w.heap.size := fun p hq e => hrl (e ▸ hq)
      have hib : ib ≠ w.heap.size := by have := (Array.getElem?_eq_some_iff.1 hb).1; omega
      have hent := run_entry_at (P := Tryd.prog) W2 w.heap.size ib clock seen es clock en i1 ((i2 ib hib).trans hbr) hem hbn.2
      rw [hqk, pkey] at hnx hent
      have HL : Hid ((leftOf es (seen.push en.born)).size < (leftOf es seen).size) := left_shrinks es seen en hen
      have HS : Hid (wr.iterSeen w.heap.size = seen) := by
        have hx1 : wr.iterSeen w.heap.size = seen := by unfold World.iterSeen; rw [hit]
        exact hx1
      have HP : Hid (∀ p ∈ ps, NoMem W2 p) := by
        have hx1 : ∀ p ∈ ps, NoMem W2 p := fun p hq => (hpr p hq).same (i2 p (hne p hq))
        exact hx1
      have HC : Hid (Chg w W2 (fun k => k ∈ ps)) := hch.then i4 (fun k hk e => by omega)
      clear hpr hch hrg i2 i4 hbr hit hen hem hw1
      have c0 := (HP.out q hq).cell
      have cf := fun o => (HP.out q hq).cel.free o
      have cl := (HP.out q hq).lt
      go_wp2_with fail
      refine (eforget_any W2 v).mono ?_
      rintro e W3 ⟨rfl, hb3⟩
      have HP3 : Hid (∀ p ∈ ps, NoMem W3 p) := by
        have hx1 : ∀ p ∈ ps, NoMem W3 p := fun p hq => (HP.out p hq).same (hb3.block p (HP.out p hq).lt)
        exact hx1
      have HI3 : Hid (W3.heap[w.heap.size]? = some (.mapIter (some ib) clock (seen.push en.born) clock)) := (hb3.block _ (Array.getElem?_eq_some_iff.1 i1).1).trans i1
      have HC3 : Hid (Chg w W3 (fun k => k ∈ ps)) := HC.out.trans (Chg.of_below hb3 _)
      have c3 := (HP3.out q hq).cell
      have cf3 := fun o => (HP3.out q hq).cel.free o
      clear hb3 c0 cf cl hnx hent i1
      go_wp2
      go_roundw
      case rel =>
        exact ⟨seen.push en.born, (Below.heap_setCell _ _ _ _ (fun e => hne q hq e.symm)).trans HI3.out, fun p hq' => (HP3.out p hq').set, HC3.out.setCell _ _ (fun _ => hq)⟩
      case measure =>
        have e1 : (W3.setCell ⟨q, 0, none⟩ (.iface 136 (.agg #[]))).iterSeen w.heap.size = seen.push en.born := by
          unfold World.iterSeen
          rw [(Below.heap_setCell _ _ _ _ (fun e => hne q hq e.symm)).trans HI3.out]
        rw [e1, HS.out]
        exact HL.out

end Go.Proofs.YtkghmgoefiepeaaDoor.reads

/- kin: a method has changed, in an image that remembers nothing (seat of Reads). -/
namespace Go.Proofs.YtkghmgoefiepeaaDoor.reads
open Go.ChangeShapes Go.WideShapes Go.ChangeAt Go.RowKit Kn Go.Proofs.YtkghmgoefiepeaaDoor.img
set_option linter.unusedSimpArgs false
set_option linter.unusedVariables false

theorem pforget_nil (v : Value) (w : World) : Calls Tryd.prog 55 #[.map none, v] w fun e w' => e = .returned (.tuple #[]) ∧ Below w.heap.size w w' := by
  have hrg := run_range_nilMap (P := Tryd.prog) w 126 _ _ Tryd.underlying126
  have hnx := run_next_nilMap (P := Tryd.prog) w 0 0 0 #[]
  go_enter Tryd.func55, Tryd.ntmps55
  go_wp2
  refine wp_loop_rounds 1 ?_
  rw [rounds_succ]
  go_wp2
  go_end0
  exact ⟨rfl, (Below.refl _ _).alloc (Nat.le_refl _) _⟩

/-- Of a row of another selector the closure says no. -/
theorem leansD (sel : ByteArray) (x y : Nat) : Leans 53 x y (fun _ => false) (fun W => W.cell? ⟨x, 0, none⟩ = some (.string sel)) (fun r => r.sel ≠ sel) := by
  refine ⟨fun args W => by simp [go_sem], fun W r hW hr => ?_⟩
  have hne := ba_apart hr
  have hxl := World.block_lt_of_cell? W ⟨x, 0, none⟩ hW
  unfold Rw4.val
  go_enter Tryd.func53, Tryd.ntmps53
  go_wp2
  go_ret
  exact ⟨rfl, (Below.refl _ _).alloc (Nat.le_refl _) _⟩

set_option maxHeartbeats 1000000 in
set_option maxRecDepth 100000 in
theorem changed_no (b c sb n : Nat) (l : List (ByteArray × Value)) (ps : Nat → List Nat) (R : Nat → Rw4) (sel : ByteArray) (w : World) (hb : w.cell? ⟨b, 5, none⟩ = some (.map (some sb))) (hs : SndAt w sb l ps) (ht : TabAt w b n R) (hr : ∀ i, i < n → (R i).sel ≠ sel)
    (hp : ∀ q, Reg l ps sel q → NoMem w q) :
    Calls Tryd.prog 42 #[.pointer (some ⟨b, 0, none⟩), .pointer (some ⟨c, 0, none⟩), .string sel] w fun e w' => e = .returned (.tuple #[]) ∧ Chg w w' (fun k => k = b ∨ Reg l ps sel k) := by
  have hmf : ∀ (fn : Fn) (first cap : Array Value) (w : World), (Instr.makeFunc fn first cap).run Tryd.prog w = .ok (.func fn first cap) w := fun _ _ _ _ => rfl
  have HS : Hid (SndAt w sb l ps ∧ TabAt w b n R ∧ (∀ i, i < n → (R i).sel ≠ sel) ∧ (∀ q, Reg l ps sel q → NoMem w q)) := ⟨hs, ht, hr, hp⟩
  have hbl := ht.cel.lt
  clear hs ht hr hp
  go_enter Tryd.func42, Tryd.ntmps42
  go_wp2_with fail
  have hz1 : ((w.alloc (.cells #[.pointer (some ⟨c, 0, none⟩)] 39)).alloc (.cells #[.string sel] 9)).heap[w.heap.size + 1]? = some (.cells #[.string sel] 9) := by
    have := (MapKept.heap_alloc (w.alloc (.cells #[.pointer (some ⟨c, 0, none⟩)] 39)) (.cells #[.string sel] 9)).1
    rw [World.size_alloc] at this
    exact this
  have hb0 : ((w.alloc (.cells #[.pointer (some ⟨c, 0, none⟩)] 39)).alloc (.cells #[.string sel] 9)).cell? ⟨b, 5, none⟩ = some (.map (some sb)) := by go_keep
  have hch0 : Chg w ((w.alloc (.cells #[.pointer (some ⟨c, 0, none⟩)] 39)).alloc (.cells #[.string sel] 9)) (fun _ => False) := ((Chg.refl w _).alloc _).alloc _
  revert hz1 hb0 hch0
  generalize (w.alloc (.cells #[.pointer (some ⟨c, 0, none⟩)] 39)).alloc (.cells #[.string sel] 9) = W0
  intro hz1 hb0 hch0
  obtain ⟨hs, ht, hr, hp⟩ := HS.out
  have hs0 := hs.chg hch0 (fun h => h) (fun _ _ _ h => h) (fun _ _ _ _ _ h => h.elim)
  have HS0 : Hid (SndAt W0 sb l ps) := hs0
  have HC0 : Hid (Chg w W0 (fun _ => False)) := hch0
  have zc : W0.cell? ⟨w.heap.size + 1, 0, none⟩ = some (.string sel) := by simp only [World.cell?, hz1]; rfl
  have HT0 : Hid (TabAt W0 b n R) := ht.same (hch0.block b hbl (fun h => h))
  have hnb : b ≠ w.heap.size + 1 := by omega
  have HM : Hid (∀ q, Reg l ps sel q → NoMem W0 q ∧ q < w.heap.size) := by
    have hx1 : ∀ q, Reg l ps sel q → NoMem W0 q ∧ q < w.heap.size := fun q hq => ⟨(hp q hq).same (hch0.block q (hp q hq).lt (fun h => h)), (hp q hq).lt⟩
    exact hx1
  clear hs ht hr hp hs0 hch0 hmf hb
  cases hl : l.lookup sel with
  | none =>
    have lk : (Instr.lookup 38 (.map (some sb)) (.string sel) false).run Tryd.prog W0.drew = .ok (.map none) W0.drew := by rw [lookup_snd W0.drew sb l HS0.out.drew.map, hl]; rfl
    have zl := World.block_lt_of_cell? W0 ⟨w.heap.size + 1, 0, none⟩ zc
    have bl' := World.block_lt_of_cell? W0 ⟨b, 5, none⟩ hb0
    refine wp_region_noPanic ?_
    refine wp_region_held_drew (S := (fun w' => w'.cell? ⟨b, 5, none⟩ = some (.map (some sb)) ∧ w'.cell? ⟨w.heap.size + 1, 0, none⟩ = some (.string sel))) (by kernel_rfl) (by go_keep) (fun hHeld => ?_)
    refine wpAnyH_take (i := 0) (oi := _) (v := ?_) rfl (by kernel_rfl) (by kernel_rfl) (by kernel_rfl) (fun _ _ _ h => h) (Or.inl ⟨by rfl, ?_⟩) (by assumption) ?_
    rotate_left
    · intro w hSw; (try dsimp only at hSw); go_simp <;> with_reducible rfl
    simp only [Act.put, List.getElem_toArray, List.getElem_cons_zero, List.getElem_cons_succ, List.setIfInBounds_toArray, List.set_cons_zero, List.set_cons_succ]
    refine wpAnyH_take (i := 1) (oi := _) (v := ?_) rfl (by kernel_rfl) (by kernel_rfl) (by kernel_rfl) (fun _ _ _ h => h) (Or.inl ⟨by rfl, ?_⟩) (by assumption) ?_
    rotate_left
    · intro w hSw; (try dsimp only at hSw); go_simp <;> with_reducible rfl
    simp only [Act.put, List.getElem_toArray, List.getElem_cons_zero, List.getElem_cons_succ, List.setIfInBounds_toArray, List.set_cons_zero, List.set_cons_succ]
    refine wpAnyH_take (i := 2) (oi := _) (v := ?_) rfl (by kernel_rfl) (by kernel_rfl) (by kernel_rfl) (fun _ _ _ h => h) (Or.inl ⟨by rfl, ?_⟩) (by assumption) ?_
    rotate_left
    · intro w hSw; (try dsimp only at hSw); go_simp <;> with_reducible rfl
    simp only [Act.put, List.getElem_toArray, List.getElem_cons_zero, List.getElem_cons_succ, List.setIfInBounds_toArray, List.set_cons_zero, List.set_cons_succ]
    refine wpAnyH_take (i := 3) (oi := _) (v := ?_) rfl (by kernel_rfl) (by kernel_rfl) (by kernel_rfl) (fun _ _ _ h => h) (Or.inl ⟨by rfl, ?_⟩) (by assumption) ?_
    rotate_left
    · intro w hSw; (try dsimp only at hSw); go_simp <;> with_reducible rfl
    simp only [Act.put, List.getElem_toArray, List.getElem_cons_zero, List.getElem_cons_succ, List.setIfInBounds_toArray, List.set_cons_zero, List.set_cons_succ]
    refine wpAnyH_take (i := 4) (oi := _) (v := ?_) rfl (by kernel_rfl) (by kernel_rfl) (by kernel_rfl) (fun _ _ _ h => h) (Or.inl ⟨by rfl, ?_⟩) (by assumption) ?_
    rotate_left
    · intro w hSw; (try dsimp only at hSw); go_simp <;> with_reducible rfl
    simp only [Act.put, List.getElem_toArray, List.getElem_cons_zero, List.getElem_cons_succ, List.setIfInBounds_toArray, List.set_cons_zero, List.set_cons_succ]
    refine wpAnyH_take (i := 6) (oi := _) (v := ?_) rfl (by kernel_rfl) (by kernel_rfl) (by kernel_rfl) (fun _ _ _ h => h) (Or.inl ⟨by rfl, ?_⟩) (by assumption) ?_
    rotate_left
    · intro w hSw; (try dsimp only at hSw); go_simp <;> with_reducible rfl
    simp only [Act.put, List.getElem_toArray, List.getElem_cons_zero, List.getElem_cons_succ, List.setIfInBounds_toArray, List.set_cons_zero, List.set_cons_succ]
    refine wpAnyH_ready (rs := [5]) (by kernel_rfl) (by simp) ?_
    refine AllReadyH.cons (o := _) rfl (fun K hK => ?_) AllReadyH.nil
    go_simp
    refine hK.out _ _ (by go_keep) (fun hHeld => ?_)
    clear hK K
    try simp only [Act.put, List.getElem_toArray, List.getElem_cons_zero, List.getElem_cons_succ, List.setIfInBounds_toArray, List.set_cons_zero, List.set_cons_succ]
    refine wpAnyH_ready (rs := [7]) (by kernel_rfl) (by simp) ?_
    refine AllReadyH.cons (o := _) rfl (fun K hK => ?_) AllReadyH.nil
    go_simp
    refine (pforget_nil _ _).mono ?_; rintro e w2 ⟨rfl, hb2⟩; have hb3 : w2.cell? ⟨b, 5, none⟩ = some (.map (some sb)) := (hb2.cell (p := ⟨b, 5, none⟩) bl').trans hb0; have zc3 : w2.cell? ⟨w.heap.size + 1, 0, none⟩ = some (.string sel) := (hb2.cell (p := ⟨w.heap.size + 1, 0, none⟩) zl).trans zc
    try go_wp2_with fail
    refine hK.out _ _ (by go_keep) (fun hHeld => ?_)
    clear hK K
    try simp only [Act.put, List.getElem_toArray, List.getElem_cons_zero, List.getElem_cons_succ, List.setIfInBounds_toArray, List.set_cons_zero, List.set_cons_succ]
    refine wpAnyH_done (by kernel_rfl) ?_ _
    refine NoPanic.normal ?_
    have HT2 : Hid (TabAt w2 b n R) := HT0.out.same (hb2.block b bl')
    have HC2 : Hid (Chg w w2 (fun k => k = b ∨ Reg l ps sel k)) := (HC0.out.mono (fun _ _ h => h.elim)).drew.trans (Chg.of_below hb2 _)
    clear hb2 hb0 zc bl' zl lk
    clear hHeld
    clear hHeld
    clear hHeld
    go_wp2_with fail
    refine (tforget_any b n _ (w.heap.size + 1) w.heap.size (fun _ => false) _ _ R w2 (leansD sel _ _) HS.out.2.2.1 (fun W hW => (World.cell?_of_block (a := ⟨w.heap.size + 1, 0, none⟩) (hW.block _ (World.block_lt_of_cell? w2 ⟨w.heap.size + 1, 0, none⟩ zc3) (fun e => hnb e.symm))).trans zc3) HT2.out).mono ?_
    rintro e w3 ⟨rfl, ht3, hc3⟩
    go_wp2
    go_end0
    exact ⟨rfl, HC2.out.then hc3 (fun k _ e => .inl e)⟩
  | some v =>
    obtain ⟨ib, rfl, hset, _⟩ := HS0.out.inn sel v hl
    have lk : (Instr.lookup 38 (.map (some sb)) (.string sel) false).run Tryd.prog W0.drew = .ok (.map (some ib)) W0.drew := by rw [lookup_snd W0.drew sb l HS0.out.drew.map, hl]; rfl
    have zl := World.block_lt_of_cell? W0 ⟨w.heap.size + 1, 0, none⟩ zc
    have bl' := World.block_lt_of_cell? W0 ⟨b, 5, none⟩ hb0
    have HSET : Hid (PSet W0.drew ib (ps ib)) := hset.same rfl
    have HPN : Hid (∀ p ∈ ps ib, NoMem W0.drew p) := by
      have hx1 : ∀ p ∈ ps ib, NoMem W0.drew p := fun p hp => (HM.out p ⟨ib, hl, hp⟩).1.same rfl
      exact hx1
    have hbn : b ∉ ps ib := fun e => by
      have h1 := (HM.out b ⟨ib, hl, e⟩).1
      unfold NoMem at h1
      simp [World.cell?, h1] at hb0
    have hzn : w.heap.size + 1 ∉ ps ib := fun e => by have := (HM.out _ ⟨ib, hl, e⟩).2; omega
    have HL : Hid (l.lookup sel = some (.map (some ib))) := hl
    clear hset hl
    refine wp_region_noPanic ?_
    refine wp_region_held_drew (S := (fun w' => w'.cell? ⟨b, 5, none⟩ = some (.map (some sb)) ∧ w'.cell? ⟨w.heap.size + 1, 0, none⟩ = some (.string sel))) (by kernel_rfl) (by go_keep) (fun hHeld => ?_)
    refine wpAnyH_take (i := 0) (oi := _) (v := ?_) rfl (by kernel_rfl) (by kernel_rfl) (by kernel_rfl) (fun _ _ _ h => h) (Or.inl ⟨by rfl, ?_⟩) (by assumption) ?_
    rotate_left
    · intro w hSw; (try dsimp only at hSw); go_simp <;> with_reducible rfl
    simp only [Act.put, List.getElem_toArray, List.getElem_cons_zero, List.getElem_cons_succ, List.setIfInBounds_toArray, List.set_cons_zero, List.set_cons_succ]
    refine wpAnyH_take (i := 1) (oi := _) (v := ?_) rfl (by kernel_rfl) (by kernel_rfl) (by kernel_rfl) (fun _ _ _ h => h) (Or.inl ⟨by rfl, ?_⟩) (by assumption) ?_
    rotate_left
    · intro w hSw; (try dsimp only at hSw); go_simp <;> with_reducible rfl
    simp only [Act.put, List.getElem_toArray, List.getElem_cons_zero, List.getElem_cons_succ, List.setIfInBounds_toArray, List.set_cons_zero, List.set_cons_succ]
    refine wpAnyH_take (i := 2) (oi := _) (v := ?_) rfl (by kernel_rfl) (by kernel_rfl) (by kernel_rfl) (fun _ _ _ h => h) (Or.inl ⟨by rfl, ?_⟩) (by assumption) ?_
    rotate_left
    · intro w hSw; (try dsimp only at hSw); go_simp <;> with_reducible rfl
    simp only [Act.put, List.getElem_toArray, List.getElem_cons_zero, List.getElem_cons_succ, List.setIfInBounds_toArray, List.set_cons_zero, List.set_cons_succ]
    refine wpAnyH_take (i := 3) (oi := _) (v := ?_) rfl (by kernel_rfl) (by kernel_rfl) (by kernel_rfl) (fun _ _ _ h => h) (Or.inl ⟨by rfl, ?_⟩) (by assumption) ?_
    rotate_left
    · intro w hSw; (try dsimp only at hSw); go_simp <;> with_reducible rfl
    simp only [Act.put, List.getElem_toArray, List.getElem_cons_zero, List.getElem_cons_succ, List.setIfInBounds_toArray, List.set_cons_zero, List.set_cons_succ]
    refine wpAnyH_take (i := 4) (oi := _) (v := ?_) rfl (by kernel_rfl) (by kernel_rfl) (by kernel_rfl) (fun _ _ _ h => h) (Or.inl ⟨by rfl, ?_⟩) (by assumption) ?_
    rotate_left
    · intro w hSw; (try dsimp only at hSw); go_simp <;> with_reducible rfl
    simp only [Act.put, List.getElem_toArray, List.getElem_cons_zero, List.getElem_cons_succ, List.setIfInBounds_toArray, List.set_cons_zero, List.set_cons_succ]
    refine wpAnyH_take (i := 6) (oi := _) (v := ?_) rfl (by kernel_rfl) (by kernel_rfl) (by kernel_rfl) (fun _ _ _ h => h) (Or.inl ⟨by rfl, ?_⟩) (by assumption) ?_
    rotate_left
    · intro w hSw; (try dsimp only at hSw); go_simp <;> with_reducible rfl
    simp only [Act.put, List.getElem_toArray, List.getElem_cons_zero, List.getElem_cons_succ, List.setIfInBounds_toArray, List.set_cons_zero, List.set_cons_succ]
    refine wpAnyH_ready (rs := [5]) (by kernel_rfl) (by simp) ?_
    refine AllReadyH.cons (o := _) rfl (fun K hK => ?_) AllReadyH.nil
    go_simp
    refine hK.out _ _ (by go_keep) (fun hHeld => ?_)
    clear hK K
    try simp only [Act.put, List.getElem_toArray, List.getElem_cons_zero, List.getElem_cons_succ, List.setIfInBounds_toArray, List.set_cons_zero, List.set_cons_succ]
    refine wpAnyH_ready (rs := [7]) (by kernel_rfl) (by simp) ?_
    refine AllReadyH.cons (o := _) rfl (fun K hK => ?_) AllReadyH.nil
    go_simp
    refine (pforget_no ib (ps ib) _ W0.drew HSET.out HPN.out).mono ?_; rintro e w2 ⟨rfl, hp2, hb2⟩; have hb3 : w2.cell? ⟨b, 5, none⟩ = some (.map (some sb)) := (World.cell?_of_block (a := ⟨b, 5, none⟩) (hb2.block b bl' hbn)).trans hb0; have zc3 : w2.cell? ⟨w.heap.size + 1, 0, none⟩ = some (.string sel) := (World.cell?_of_block (a := ⟨w.heap.size + 1, 0, none⟩) (hb2.block _ zl hzn)).trans zc
    try go_wp2_with fail
    refine hK.out _ _ (by go_keep) (fun hHeld => ?_)
    clear hK K
    try simp only [Act.put, List.getElem_toArray, List.getElem_cons_zero, List.getElem_cons_succ, List.setIfInBounds_toArray, List.set_cons_zero, List.set_cons_succ]
    refine wpAnyH_done (by kernel_rfl) ?_ _
    refine NoPanic.normal ?_
    have HT2 : Hid (TabAt w2 b n R) := HT0.out.same (hb2.block b bl' hbn)
    have HC2 : Hid (Chg w w2 (fun k => k = b ∨ Reg l ps sel k)) := (HC0.out.mono (fun _ _ h => h.elim)).drew.then hb2 (fun k _ e => .inr ⟨ib, HL.out, e⟩)
    clear hb2 hb0 zc bl' zl lk hp2
    clear hHeld
    clear hHeld
    clear hHeld
    go_wp2_with fail
    refine (tforget_any b n _ (w.heap.size + 1) w.heap.size (fun _ => false) _ _ R w2 (leansD sel _ _) HS.out.2.2.1 (fun W hW => (World.cell?_of_block (a := ⟨w.heap.size + 1, 0, none⟩) (hW.block _ (World.block_lt_of_cell? w2 ⟨w.heap.size + 1, 0, none⟩ zc3) (fun e => hnb e.symm))).trans zc3) HT2.out).mono ?_
    rintro e w3 ⟨rfl, ht3, hc3⟩
    go_wp2
    go_end0
    exact ⟨rfl, HC2.out.then hc3 (fun k _ e => .inl e)⟩

end Go.Proofs.YtkghmgoefiepeaaDoor.reads
