/- kin: a method has changed, in an image that remembers nothing (seat of Reads). -/
import Derived.Test.YtkghmgoefiepeaaDoorSetD
namespace Go.Proofs.YtkghmgoefiepeaaDoor.reads
open Go.ChangeShapes Go.WideShapes Go.ChangeAt Go.RowKit Kn Go.Proofs.YtkghmgoefiepeaaDoor.img
set_option linter.unusedSimpArgs false
set_option linter.unusedVariables false

theorem pforget_nil (v : Value) (w : World) : Calls Tryd.prog 55 #[.map none, v] w fun e w' => e = .returned (.tuple #[]) ∧ Below w.heap.size w w' := by
  have hrg := run_range_nilMap (P := Tryd.prog) w 126 _ _ Tryd.underlying126
  have hnx := run_next_nilMap (P := Tryd.prog) w 0 0 0 #[]
  go_enter Tryd.func55, Tryd.ntmps55
  go_wp2
  refine wp_loop_rounds 1 ?_
  rw [rounds_succ]
  go_wp2
  go_end0
  exact ⟨rfl, (Below.refl _ _).alloc (Nat.le_refl _) _⟩

/-- Of a row of another selector the closure says no. -/
theorem leansD (sel : ByteArray) (x y : Nat) : Leans 53 x y (fun _ => false) (fun W => W.cell? ⟨x, 0, none⟩ = some (.string sel)) (fun r => r.sel ≠ sel) := by
  refine ⟨fun args W => by simp [go_sem], fun W r hW hr => ?_⟩
  have hne := ba_apart hr
  have hxl := World.block_lt_of_cell? W ⟨x, 0, none⟩ hW
  unfold Rw4.val
  go_enter Tryd.func53, Tryd.ntmps53
  go_wp2
  go_ret
  exact ⟨rfl, (Below.refl _ _).alloc (Nat.le_refl _) _⟩

set_option maxHeartbeats 1000000 in
set_option maxRecDepth 100000 in
theorem changed_no (b c sb n : Nat) (l : List (ByteArray × Value)) (ps : Nat → List Nat) (R : Nat → Rw4) (sel : ByteArray) (w : World) (hb : w.cell? ⟨b, 5, none⟩ = some (.map (some sb))) (hs : SndAt w sb l ps) (ht : TabAt w b n R) (hr : ∀ i, i < n → (R i).sel ≠ sel)
    (hp : ∀ q, Reg l ps sel q → NoMem w q) :
    Calls Tryd.prog 42 #[.pointer (some ⟨b, 0, none⟩), .pointer (some ⟨c, 0, none⟩), .string sel] w fun e w' => e = .returned (.tuple #[]) ∧ Chg w w' (fun k => k = b ∨ Reg l ps sel k) := by
  have hmf : ∀ (fn : Fn) (first cap : Array Value) (w : World), (Instr.makeFunc fn first cap).run Tryd.prog w = .ok (.func fn first cap) w := fun _ _ _ _ => rfl
  have HS : Hid (SndAt w sb l ps ∧ TabAt w b n R ∧ (∀ i, i < n → (R i).sel ≠ sel) ∧ (∀ q, Reg l ps sel q → NoMem w q)) := ⟨hs, ht, hr, hp⟩
  have hbl := ht.cel.lt
  clear hs ht hr hp
  go_enter Tryd.func42, Tryd.ntmps42
  go_wp2_with fail
  have hz1 : ((w.alloc (.cells #[.pointer (some ⟨c, 0, none⟩)] 39)).alloc (.cells #[.string sel] 9)).heap[w.heap.size + 1]? = some (.cells #[.string sel] 9) := by
    have := (MapKept.heap_alloc (w.alloc (.cells #[.pointer (some ⟨c, 0, none⟩)] 39)) (.cells #[.string sel] 9)).1
    rw [World.size_alloc] at this
    exact this
  have hb0 : ((w.alloc (.cells #[.pointer (some ⟨c, 0, none⟩)] 39)).alloc (.cells #[.string sel] 9)).cell? ⟨b, 5, none⟩ = some (.map (some sb)) := by go_keep
  have hch0 : Chg w ((w.alloc (.cells #[.pointer (some ⟨c, 0, none⟩)] 39)).alloc (.cells #[.string sel] 9)) (fun _ => False) := ((Chg.refl w _).alloc _).alloc _
  revert hz1 hb0 hch0
  generalize (w.alloc (.cells #[.pointer (some ⟨c, 0, none⟩)] 39)).alloc (.cells #[.string sel] 9) = W0
  intro hz1 hb0 hch0
  obtain ⟨hs, ht, hr, hp⟩ := HS.out
  have hs0 := hs.chg hch0 (fun h => h) (fun _ _ _ h => h) (fun _ _ _ _ _ h => h.elim)
  have HS0 : Hid (SndAt W0 sb l ps) := hs0
  have HC0 : Hid (Chg w W0 (fun _ => False)) := hch0
  have zc : W0.cell? ⟨w.heap.size + 1, 0, none⟩ = some (.string sel) := by simp only [World.cell?, hz1]; rfl
  have HT0 : Hid (TabAt W0 b n R) := ht.same (hch0.block b hbl (fun h => h))
  have hnb : b ≠ w.heap.size + 1 := by omega
  have HM : Hid (∀ q, Reg l ps sel q → NoMem W0 q ∧ q < w.heap.size) := by
    have hx1 : ∀ q, Reg l ps sel q → NoMem W0 q ∧ q < w.heap.size := fun q hq => ⟨(hp q hq).same (hch0.block q (hp q hq).lt (fun h => h)), (hp q hq).lt⟩
    exact hx1
  clear hs ht hr hp hs0 hch0 hmf hb
  cases hl : l.lookup sel with
  | none =>
    have lk : (Instr.lookup 38 (.map (some sb)) (.string sel) false).run Tryd.prog W0.drew = .ok (.map none) W0.drew := by rw [lookup_snd W0.drew sb l HS0.out.drew.map, hl]; rfl
    have zl := World.block_lt_of_cell? W0 ⟨w.heap.size + 1, 0, none⟩ zc
    have bl' := World.block_lt_of_cell? W0 ⟨b, 5, none⟩ hb0
    refine wp_region_noPanic ?_
    refine wp_region_held_drew (S := (fun w' => w'.cell? ⟨b, 5, none⟩ = some (.map (some sb)) ∧ w'.cell? ⟨w.heap.size + 1, 0, none⟩ = some (.string sel))) (by kernel_rfl) (by go_keep) (fun hHeld => ?_)
    refine wpAnyH_take (i := 0) (oi := _) (v := ?_) rfl (by kernel_rfl) (by kernel_rfl) (by kernel_rfl) (fun _ _ _ h => h) (Or.inl ⟨by rfl, ?_⟩) (by assumption) ?_
    rotate_left
    · intro w hSw; (try dsimp only at hSw); go_simp <;> with_reducible rfl
    simp only [Act.put, List.getElem_toArray, List.getElem_cons_zero, List.getElem_cons_succ, List.setIfInBounds_toArray, List.set_cons_zero, List.set_cons_succ]
    refine wpAnyH_take (i := 1) (oi := _) (v := ?_) rfl (by kernel_rfl) (by kernel_rfl) (by kernel_rfl) (fun _ _ _ h => h) (Or.inl ⟨by rfl, ?_⟩) (by assumption) ?_
    rotate_left
    · intro w hSw; (try dsimp only at hSw); go_simp <;> with_reducible rfl
    simp only [Act.put, List.getElem_toArray, List.getElem_cons_zero, List.getElem_cons_succ, List.setIfInBounds_toArray, List.set_cons_zero, List.set_cons_succ]
    refine wpAnyH_take (i := 2) (oi := _) (v := ?_) rfl (by kernel_rfl) (by kernel_rfl) (by kernel_rfl) (fun _ _ _ h => h) (Or.inl ⟨by rfl, ?_⟩) (by assumption) ?_
    rotate_left
    · intro w hSw; (try dsimp only at hSw); go_simp <;> with_reducible rfl
    simp only [Act.put, List.getElem_toArray, List.getElem_cons_zero, List.getElem_cons_succ, List.setIfInBounds_toArray, List.set_cons_zero, List.set_cons_succ]
    refine wpAnyH_take (i := 3) (oi := _) (v := ?_) rfl (by kernel_rfl) (by kernel_rfl) (by kernel_rfl) (fun _ _ _ h => h) (Or.inl ⟨by rfl, ?_⟩) (by assumption) ?_
    rotate_left
    · intro w hSw; (try dsimp only at hSw); go_simp <;> with_reducible rfl
    simp only [Act.put, List.getElem_toArray, List.getElem_cons_zero, List.getElem_cons_succ, List.setIfInBounds_toArray, List.set_cons_zero, List.set_cons_succ]
    refine wpAnyH_take (i := 4) (oi := _) (v := ?_) rfl (by kernel_rfl) (by kernel_rfl) (by kernel_rfl) (fun _ _ _ h => h) (Or.inl ⟨by rfl, ?_⟩) (by assumption) ?_
    rotate_left
    · intro w hSw; (try dsimp only at hSw); go_simp <;> with_reducible rfl
    simp only [Act.put, List.getElem_toArray, List.getElem_cons_zero, List.getElem_cons_succ, List.setIfInBounds_toArray, List.set_cons_zero, List.set_cons_succ]
    refine wpAnyH_take (i := 6) (oi := _) (v := ?_) rfl (by kernel_rfl) (by kernel_rfl) (by kernel_rfl) (fun _ _ _ h => h) (Or.inl ⟨by rfl, ?_⟩) (by assumption) ?_
    rotate_left
    · intro w hSw; (try dsimp only at hSw); go_simp <;> with_reducible rfl
    simp only [Act.put, List.getElem_toArray, List.getElem_cons_zero, List.getElem_cons_succ, List.setIfInBounds_toArray, List.set_cons_zero, List.set_cons_succ]
    refine wpAnyH_ready (rs := [5]) (by kernel_rfl) (by simp) ?_
    refine AllReadyH.cons (o := _) rfl (fun K hK => ?_) AllReadyH.nil
    go_simp
    refine hK.out _ _ (by go_keep) (fun hHeld => ?_)
    clear hK K
    try simp only [Act.put, List.getElem_toArray, List.getElem_cons_zero, List.getElem_cons_succ, List.setIfInBounds_toArray, List.set_cons_zero, List.set_cons_succ]
    refine wpAnyH_ready (rs := [7]) (by kernel_rfl) (by simp) ?_
    refine AllReadyH.cons (o := _) rfl (fun K hK => ?_) AllReadyH.nil
    go_simp
    refine (pforget_nil _ _).mono ?_; rintro e w2 ⟨rfl, hb2⟩; have hb3 : w2.cell? ⟨b, 5, none⟩ = some (.map (some sb)) := (hb2.cell (p := ⟨b, 5, none⟩) bl').trans hb0; have zc3 : w2.cell? ⟨w.heap.size + 1, 0, none⟩ = some (.string sel) := (hb2.cell (p := ⟨w.heap.size + 1, 0, none⟩) zl).trans zc
    try go_wp2_with fail
    refine hK.out _ _ (by go_keep) (fun hHeld => ?_)
    clear hK K
    try simp only [Act.put, List.getElem_toArray, List.getElem_cons_zero, List.getElem_cons_succ, List.setIfInBounds_toArray, List.set_cons_zero, List.set_cons_succ]
    refine wpAnyH_done (by kernel_rfl) ?_ _
    refine NoPanic.normal ?_
    have HT2 : Hid (TabAt w2 b n R) := HT0.out.same (hb2.block b bl')
    have HC2 : Hid (Chg w w2 (fun k => k = b ∨ Reg l ps sel k)) := (HC0.out.mono (fun _ _ h => h.elim)).drew.trans (Chg.of_below hb2 _)
    clear hb2 hb0 zc bl' zl lk
    clear hHeld
    clear hHeld
    clear hHeld
    go_wp2_with fail
    refine (tforget_any b n _ (w.heap.size + 1) w.heap.size (fun _ => false) _ _ R w2 (leansD sel _ _) HS.out.2.2.1 (fun W hW => (World.cell?_of_block (a := ⟨w.heap.size + 1, 0, none⟩) (hW.block _ (World.block_lt_of_cell? w2 ⟨w.heap.size + 1, 0, none⟩ zc3) (fun e => hnb e.symm))).trans zc3) HT2.out).mono ?_
    rintro e w3 ⟨rfl, ht3, hc3⟩
    go_wp2
    go_end0
    exact ⟨rfl, HC2.out.then hc3 (fun k _ e => .inl e)⟩
  | some v =>
    obtain ⟨ib, rfl, hset, _⟩ := HS0.out.inn sel v hl
    have lk : (Instr.lookup 38 (.map (some sb)) (.string sel) false).run Tryd.prog W0.drew = .ok (.map (some ib)) W0.drew := by rw [lookup_snd W0.drew sb l HS0.out.drew.map, hl]; rfl
    have zl := World.block_lt_of_cell? W0 ⟨w.heap.size + 1, 0, none⟩ zc
    have bl' := World.block_lt_of_cell? W0 ⟨b, 5, none⟩ hb0
    have HSET : Hid (PSet W0.drew ib (ps ib)) := hset.same rfl
    have HPN : Hid (∀ p ∈ ps ib, NoMem W0.drew p) := by
      have hx1 : ∀ p ∈ ps ib, NoMem W0.drew p := fun p hp => (HM.out p ⟨ib, hl, hp⟩).1.same rfl
      exact hx1
    have hbn : b ∉ ps ib := fun e => by
      have h1 := (HM.out b ⟨ib, hl, e⟩).1
      unfold NoMem at h1
      simp [World.cell?, h1] at hb0
    have hzn : w.heap.size + 1 ∉ ps ib := fun e => by have := (HM.out _ ⟨ib, hl, e⟩).2; omega
    have HL : Hid (l.lookup sel = some (.map (some ib))) := hl
    clear hset hl
    refine wp_region_noPanic ?_
    refine wp_region_held_drew (S := (fun w' => w'.cell? ⟨b, 5, none⟩ = some (.map (some sb)) ∧ w'.cell? ⟨w.heap.size + 1, 0, none⟩ = some (.string sel))) (by kernel_rfl) (by go_keep) (fun hHeld => ?_)
    refine wpAnyH_take (i := 0) (oi := _) (v := ?_) rfl (by kernel_rfl) (by kernel_rfl) (by kernel_rfl) (fun _ _ _ h => h) (Or.inl ⟨by rfl, ?_⟩) (by assumption) ?_
    rotate_left
    · intro w hSw; (try dsimp only at hSw); go_simp <;> with_reducible rfl
    simp only [Act.put, List.getElem_toArray, List.getElem_cons_zero, List.getElem_cons_succ, List.setIfInBounds_toArray, List.set_cons_zero, List.set_cons_succ]
    refine wpAnyH_take (i := 1) (oi := _) (v := ?_) rfl (by kernel_rfl) (by kernel_rfl) (by kernel_rfl) (fun _ _ _ h => h) (Or.inl ⟨by rfl, ?_⟩) (by assumption) ?_
    rotate_left
    · intro w hSw; (try dsimp only at hSw); go_simp <;> with_reducible rfl
    simp only [Act.put, List.getElem_toArray, List.getElem_cons_zero, List.getElem_cons_succ, List.setIfInBounds_toArray, List.set_cons_zero, List.set_cons_succ]
    refine wpAnyH_take (i := 2) (oi := _) (v := ?_) rfl (by kernel_rfl) (by kernel_rfl) (by kernel_rfl) (fun _ _ _ h => h) (Or.inl ⟨by rfl, ?_⟩) (by assumption) ?_
    rotate_left
    · intro w hSw; (try dsimp only at hSw); go_simp <;> with_reducible rfl
    simp only [Act.put, List.getElem_toArray, List.getElem_cons_zero, List.getElem_cons_succ, List.setIfInBounds_toArray, List.set_cons_zero, List.set_cons_succ]
    refine wpAnyH_take (i := 3) (oi := _) (v := ?_) rfl (by kernel_rfl) (by kernel_rfl) (by kernel_rfl) (fun _ _ _ h => h) (Or.inl ⟨by rfl, ?_⟩) (by assumption) ?_
    rotate_left
    · intro w hSw; (try dsimp only at hSw); go_simp <;> with_reducible rfl
    simp only [Act.put, List.getElem_toArray, List.getElem_cons_zero, List.getElem_cons_succ, List.setIfInBounds_toArray, List.set_cons_zero, List.set_cons_succ]
    refine wpAnyH_take (i := 4) (oi := _) (v := ?_) rfl (by kernel_rfl) (by kernel_rfl) (by kernel_rfl) (fun _ _ _ h => h) (Or.inl ⟨by rfl, ?_⟩) (by assumption) ?_
    rotate_left
    · intro w hSw; (try dsimp only at hSw); go_simp <;> with_reducible rfl
    simp only [Act.put, List.getElem_toArray, List.getElem_cons_zero, List.getElem_cons_succ, List.setIfInBounds_toArray, List.set_cons_zero, List.set_cons_succ]
    refine wpAnyH_take (i := 6) (oi := _) (v := ?_) rfl (by kernel_rfl) (by kernel_rfl) (by kernel_rfl) (fun _ _ _ h => h) (Or.inl ⟨by rfl, ?_⟩) (by assumption) ?_
    rotate_left
    · intro w hSw; (try dsimp only at hSw); go_simp <;> with_reducible rfl
    simp only [Act.put, List.getElem_toArray, List.getElem_cons_zero, List.getElem_cons_succ, List.setIfInBounds_toArray, List.set_cons_zero, List.set_cons_succ]
    refine wpAnyH_ready (rs := [5]) (by kernel_rfl) (by simp) ?_
    refine AllReadyH.cons (o := _) rfl (fun K hK => ?_) AllReadyH.nil
    go_simp
    refine hK.out _ _ (by go_keep) (fun hHeld => ?_)
    clear hK K
    try simp only [Act.put, List.getElem_toArray, List.getElem_cons_zero, List.getElem_cons_succ, List.setIfInBounds_toArray, List.set_cons_zero, List.set_cons_succ]
    refine wpAnyH_ready (rs := [7]) (by kernel_rfl) (by simp) ?_
    refine AllReadyH.cons (o := _) rfl (fun K hK => ?_) AllReadyH.nil
    go_simp
    refine (pforget_no ib (ps ib) _ W0.drew HSET.out HPN.out).mono ?_; rintro e w2 ⟨rfl, hp2, hb2⟩; have hb3 : w2.cell? ⟨b, 5, none⟩ = some (.map (some sb)) := (World.cell?_of_block (a := ⟨b, 5, none⟩) (hb2.block b bl' hbn)).trans hb0; have zc3 : w2.cell? ⟨w.heap.size + 1, 0, none⟩ = some (.string sel) := (World.cell?_of_block (a := ⟨w.heap.size + 1, 0, none⟩) (hb2.block _ zl hzn)).trans zc
    try go_wp2_with fail
    refine hK.out _ _ (by go_keep) (fun hHeld => ?_)
    clear hK K
    try simp only [Act.put, List.getElem_toArray, List.getElem_cons_zero, List.getElem_cons_succ, List.setIfInBounds_toArray, List.set_cons_zero, List.set_cons_succ]
    refine wpAnyH_done (by kernel_rfl) ?_ _
    refine NoPanic.normal ?_
    have HT2 : Hid (TabAt w2 b n R) := HT0.out.same (hb2.block b bl' hbn)
    have HC2 : Hid (Chg w w2 (fun k => k = b ∨ Reg l ps sel k)) := (HC0.out.mono (fun _ _ h => h.elim)).drew.then hb2 (fun k _ e => .inr ⟨ib, HL.out, e⟩)
    clear hb2 hb0 zc bl' zl lk hp2
    clear hHeld
    clear hHeld
    clear hHeld
    go_wp2_with fail
    refine (tforget_any b n _ (w.heap.size + 1) w.heap.size (fun _ => false) _ _ R w2 (leansD sel _ _) HS.out.2.2.1 (fun W hW => (World.cell?_of_block (a := ⟨w.heap.size + 1, 0, none⟩) (hW.block _ (World.block_lt_of_cell? w2 ⟨w.heap.size + 1, 0, none⟩ zc3) (fun e => hnb e.symm))).trans zc3) HT2.out).mono ?_
    rintro e w3 ⟨rfl, ht3, hc3⟩
    go_wp2
    go_end0
    exact ⟨rfl, HC2.out.then hc3 (fun k _ e => .inl e)⟩

end Go.Proofs.YtkghmgoefiepeaaDoor.reads
