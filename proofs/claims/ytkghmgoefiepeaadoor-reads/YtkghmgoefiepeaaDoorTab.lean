/- kin: the table of rows: entries, forget. -/
import Derived.Test.YtkghmgoefiepeaaDoorHom
namespace Go.Proofs.YtkghmgoefiepeaaDoor.reads
open Go.ChangeShapes Go.WideShapes Go.ChangeAt Go.RowKit Kn Go.Proofs.YtkghmgoefiepeaaDoor.img
set_option linter.unusedSimpArgs false
set_option linter.unusedVariables false

/-- A row: the class that was looked from, the selector, the class that has the method, the method. -/
structure Rw4 where
  fr : Option Addr
  sel : ByteArray
  hm : Option Addr
  mt : Option Addr
def Rw4.val (r : Rw4) : Value := .agg #[.pointer r.fr, .string r.sel, .pointer r.hm, .pointer r.mt]
def noRow : Rw4 := ⟨none, ⟨#[]⟩, none, none⟩
/-- The table of image b: its size n, its rows. -/
structure TabAt (w : World) (b n : Nat) (R : Nat → Rw4) : Prop where
  cel : Cel w b
  n1 : 1 ≤ n
  n64 : n ≤ 64
  sz : w.cell? ⟨b, 262, none⟩ = some (.int .i64 (n : Nat))
  c0 : ∀ i, i < 64 → w.cell? ⟨b, 6 + i * 4, none⟩ = some (.pointer (R i).fr)
  c1 : ∀ i, i < 64 → w.cell? ⟨b, 6 + i * 4 + 1, none⟩ = some (.string (R i).sel)
  c2 : ∀ i, i < 64 → w.cell? ⟨b, 6 + i * 4 + 2, none⟩ = some (.pointer (R i).hm)
  c3 : ∀ i, i < 64 → w.cell? ⟨b, 6 + i * 4 + 3, none⟩ = some (.pointer (R i).mt)
theorem TabAt.same {w w' : World} {b n : Nat} {R : Nat → Rw4} (h : TabAt w b n R) (e : w'.heap[b]? = w.heap[b]?) : TabAt w' b n R := by
  have hc : ∀ o, w'.cell? ⟨b, o, none⟩ = w.cell? ⟨b, o, none⟩ := fun o => World.cell?_of_block e
  exact ⟨h.cel.same e, h.n1, h.n64, (hc _).trans h.sz, fun i hi => (hc _).trans (h.c0 i hi), fun i hi => (hc _).trans (h.c1 i hi), fun i hi => (hc _).trans (h.c2 i hi), fun i hi => (hc _).trans (h.c3 i hi)⟩

theorem size_row : (Tryd.prog.info? 46).map (·.size) = some 4 := by kernel_rfl
theorem slice_tab (b n : Nat) (w : World) (h : n ≤ 64) : (Instr.sliceAt 47 (.pointer (some ⟨b, 6, none⟩)) none (some (.int .i64 (n : Nat))) none).run Tryd.prog w = .ok (.slice (some ⟨b, 6, none⟩) n 64) w := by
  have hs := size_row
  cases hi : Tryd.prog.info? 46 with
  | none => rw [hi] at hs; cases hs
  | some i =>
    rw [hi] at hs
    simp at hs
    have h1 : ¬ ((n : Int) < 0) := by omega
    have h2 : ¬ ((64 : Int) < (n : Int)) := by omega
    simp [Instr.sliceAt, Instr.sureAddr, Instr.sliceBounds, Instr.sliceBound, run_underlying Tryd.underlying47, Go.sizeOf, typeInfo, hi, hs, h1, h2, Addr.add, h, asIntOf]

set_option maxRecDepth 100000 in
theorem entries_any (b n : Nat) (R : Nat → Rw4) (w : World) (h : TabAt w b n R) :
    Calls Tryd.prog 64 #[.pointer (some ⟨b, 6, none⟩)] w fun e w' => e = .returned (.slice (some ⟨b, 6, none⟩) n 64) ∧ w' = w.drew := by
  have hs := h.sz
  have h1 := h.n1
  have h2 := h.n64
  have hbl := h.cel.lt
  have hsl := slice_tab b n w.drew h.n64
  clear h
  go_enter Tryd.func64, Tryd.ntmps64
  go_wp2
  go_region
  go_wp2
  go_ret
  exact ⟨rfl, rfl⟩

theorem TabAt.empty {w : World} {b n : Nat} {R : Nat → Rw4} (h : TabAt w b n R) {i : Nat} (hi : i < 64) :
    TabAt ((((w.setCell ⟨b, 6 + i * 4, none⟩ (.pointer none)).setCell ⟨b, 6 + i * 4 + 1, none⟩ (.string ⟨#[]⟩)).setCell ⟨b, 6 + i * 4 + 2, none⟩ (.pointer none)).setCell ⟨b, 6 + i * 4 + 3, none⟩ (.pointer none)) b n (fun j => if j = i then noRow else R j) := by
  have ho : ∀ (W : World) (v : Value) (o p : Nat), o ≠ p → (W.setCell ⟨b, p, none⟩ v).cell? ⟨b, o, none⟩ = W.cell? ⟨b, o, none⟩ := fun W v o p hne => cs_other (by intro e; injection e with e1 e2; omega)
  refine ⟨(((h.cel.setCell _ _).setCell _ _).setCell _ _).setCell _ _, h.n1, h.n64, ?_, fun j hj => ?_, fun j hj => ?_, fun j hj => ?_, fun j hj => ?_⟩
  · rw [ho _ _ _ _ (by omega), ho _ _ _ _ (by omega), ho _ _ _ _ (by omega), ho _ _ _ _ (by omega)]; exact h.sz
  · by_cases e : j = i
    · subst e
      rw [ho _ _ _ _ (by omega), ho _ _ _ _ (by omega), ho _ _ _ _ (by omega), cs_same (h.c0 j hj)]
      simp [noRow]
    · rw [ho _ _ _ _ (by omega), ho _ _ _ _ (by omega), ho _ _ _ _ (by omega), ho _ _ _ _ (by omega), h.c0 j hj]
      simp [e]
  · by_cases e : j = i
    · subst e
      rw [ho _ _ _ _ (by omega), ho _ _ _ _ (by omega), cs_same ((ho _ _ _ _ (by omega)).trans (h.c1 j hj))]
      simp [noRow]
    · rw [ho _ _ _ _ (by omega), ho _ _ _ _ (by omega), ho _ _ _ _ (by omega), ho _ _ _ _ (by omega), h.c1 j hj]
      simp [e]
  · by_cases e : j = i
    · subst e
      rw [ho _ _ _ _ (by omega), cs_same (((ho _ _ _ _ (by omega)).trans (ho _ _ _ _ (by omega))).trans (h.c2 j hj))]
      simp [noRow]
    · rw [ho _ _ _ _ (by omega), ho _ _ _ _ (by omega), ho _ _ _ _ (by omega), ho _ _ _ _ (by omega), h.c2 j hj]
      simp [e]
  · by_cases e : j = i
    · subst e
      rw [cs_same ((((ho _ _ _ _ (by omega)).trans (ho _ _ _ _ (by omega))).trans (ho _ _ _ _ (by omega))).trans (h.c3 j hj))]
      simp [noRow]
    · rw [ho _ _ _ _ (by omega), ho _ _ _ _ (by omega), ho _ _ _ _ (by omega), ho _ _ _ _ (by omega), h.c3 j hj]
      simp [e]

/-- A closure of two captured cells that tells of a row whether it leans, in every world of a kind. -/
structure Leans (f : Nat) (x y : Nat) (φ : Rw4 → Bool) (I : World → Prop) (Q : Rw4 → Prop) : Prop where
  ent : ∀ args W, (callFunc f args).run Tryd.prog W = .ok (.enter f args) W
  says : ∀ W r, I W → Q r → Calls Tryd.prog f #[r.val, .pointer (some ⟨x, 0, none⟩), .pointer (some ⟨y, 0, none⟩)] W fun e W' => e = .returned (.bool (φ r)) ∧ Below W.heap.size W W'

set_option maxHeartbeats 1000000 in
set_option maxRecDepth 100000 in
theorem tforget_any (b n f : Nat) (x y : Nat) (φ : Rw4 → Bool) (I : World → Prop) (Q : Rw4 → Prop) (R : Nat → Rw4) (w : World) (hf : Leans f x y φ I Q) (hQ : ∀ i, i < n → Q (R i)) (hI : ∀ W, Chg w W (fun k => k = b) → I W) (h : TabAt w b n R) :
    Calls Tryd.prog 56 #[.pointer (some ⟨b, 6, none⟩), .func (.func f) #[] #[.pointer (some ⟨x, 0, none⟩), .pointer (some ⟨y, 0, none⟩)]] w fun e w' => e = .returned (.tuple #[]) ∧
      TabAt w' b n (fun i => if i < n ∧ φ (R i) = true then noRow else R i) ∧ Chg w w' (fun k => k = b) := by
  have HT : Hid (TabAt w b n R) := h
  have h1 := h.n1
  have h2 := h.n64
  clear h
  go_enter Tryd.func56, Tryd.ntmps56
  go_wp2_with fail
  refine (entries_any b n R w HT.out).mono ?_
  rintro e w1 ⟨rfl, rfl⟩
  go_wp2
  go_loopw [11] (fun i wr => ∃ k : Nat, i = .int .i64 k ∧ k ≤ n ∧ TabAt wr b n (fun i => if i < k ∧ φ (R i) = true then noRow else R i) ∧ Chg w wr (fun k => k = b)) (fun i _ => n - (intOf i).toNat)
  case atStart => exact ⟨0, rfl, by omega, by have := HT.out.same (w' := w.drew) rfl; simpa using this, (Chg.refl w _).drew⟩
  case round =>
    obtain ⟨k, rfl, hk, ht, hch⟩ := hrel
    have HR : Hid (TabAt wr b n (fun i => if i < k ∧ φ (R i) = true then noRow else R i) ∧ Chg w wr (fun k => k = b)) := ⟨ht, hch⟩
    by_cases hkn : k < n
    · have c0 := ht.c0 k (by omega)
      have c1 := ht.c1 k (by omega)
      have c2 := ht.c2 k (by omega)
      have c3 := ht.c3 k (by omega)
      rw [if_neg (by omega)] at c0 c1 c2 c3
      have hbl := ht.cel.lt
      have hbf := fun o => ht.cel.free o
      have hent := hf.ent
      clear ht hch
      go_wp2_with fail
      refine (hf.says _ (R k) (hI _ (HR.out.2.alloc _)) (hQ k hkn)).mono ?_
      rintro e w2 ⟨rfl, hb2⟩
      have hw2 : w2.heap[b]? = wr.heap[b]? := (hb2.block b (by simp; omega)).trans (Below.heap_alloc wr _ b hbl)
      have hc2 : Chg w w2 (fun k => k = b) := (HR.out.2.alloc _).trans (Chg.of_below hb2 _)
      have ht2 := HR.out.1.same hw2
      have HR2 : Hid (TabAt w2 b n (fun i => if i < k ∧ φ (R i) = true then noRow else R i) ∧ Chg w w2 (fun k => k = b)) := ⟨ht2, hc2⟩
      clear hb2 hw2 hc2 c0 c1 c2 c3 hbf hbl hent
      cases hφ : φ (R k) with
      | false =>
        have HP : Hid (φ (R k) = false) := hφ
        clear ht2 hφ
        go_wp2
        go_roundw
        case rel =>
          refine ⟨k + 1, by go_num, by omega, ?_, HR2.out.2⟩
          have e : (fun i => if i < k + 1 ∧ φ (R i) = true then noRow else R i) = (fun i => if i < k ∧ φ (R i) = true then noRow else R i) := by
            funext i
            by_cases hi : i = k
            · subst hi; simp [HP.out]
            · have : (i < k + 1) ↔ (i < k) := by omega
              simp [this]
          rw [e]
          exact HR2.out.1
        case measure => simp [intOf] <;> omega
      | true =>
        have HP : Hid (φ (R k) = true) := hφ
        have c0 := ht2.c0 k (by omega)
        have c1 := ht2.c1 k (by omega)
        have c2 := ht2.c2 k (by omega)
        have c3 := ht2.c3 k (by omega)
        have hbl := ht2.cel.lt
        have hbf := fun o => ht2.cel.free o
        clear ht2 hφ
        go_wp2
        go_roundw
        case rel =>
          refine ⟨k + 1, by go_num, by omega, ?_, (((HR2.out.2.setCell _ _ (fun _ => rfl)).setCell _ _ (fun _ => rfl)).setCell _ _ (fun _ => rfl)).setCell _ _ (fun _ => rfl)⟩
          have e : (fun i => if i < k + 1 ∧ φ (R i) = true then noRow else R i) = (fun j => if j = k then noRow else (fun i => if i < k ∧ φ (R i) = true then noRow else R i) j) := by
            funext i
            by_cases hi : i = k
            · subst hi; simp [HP.out]
            · have : (i < k + 1) ↔ (i < k) := by omega
              simp [this, hi]
          rw [e]
          exact HR2.out.1.empty (by omega)
        case measure => simp [intOf] <;> omega
    · obtain rfl : k = n := by omega
      clear ht hch
      go_wp2
      go_end0
      exact ⟨rfl, HR.out.1, HR.out.2⟩

end Go.Proofs.YtkghmgoefiepeaaDoor.reads

/- kin: a new image: it remembers nothing. -/
namespace Go.Proofs.YtkghmgoefiepeaaDoor.reads
open Go.ChangeShapes Go.WideShapes Go.ChangeAt Go.RowKit Kn Go.Proofs.YtkghmgoefiepeaaDoor.img
set_option linter.unusedSimpArgs false
set_option linter.unusedVariables false

theorem noRows_len : ∀ k, (noRows k).length = k * 4
  | 0 => rfl
  | k + 1 => by simp [noRows, noRows_len k]; omega
theorem noRows_get : ∀ (k i j : Nat), i < k → j < 4 → (noRows k)[i * 4 + j]? = ([.pointer none, .string ⟨#[]⟩, .pointer none, .pointer none] : List Value)[j]?
  | 0, i, j, h, _ => by omega
  | k + 1, 0, j, _, hj => by
    match j, hj with
    | 0, _ => rfl
    | 1, _ => rfl
    | 2, _ => rfl
    | 3, _ => rfl
  | k + 1, i + 1, j, h, hj => by
    have ih := noRows_get k i j (by omega) hj
    rw [show (i + 1) * 4 + j = i * 4 + j + 4 from by omega]
    exact ih
theorem img_cell (mb sb : Nat) (p n : Int) (o : Nat) : (newImg mb sb p n)[6 + o]? = (noRows 64 ++ [Value.int .i64 n])[o]? := by
  rw [Nat.add_comm]
  unfold newImg
  simp only [List.getElem?_toArray]
  rfl
theorem new_tab {w : World} {b mb sb : Nat} {p : Int} {n : Nat} (h : w.heap[b]? = some (.cells (newImg mb sb p (n : Nat)) 52)) (h1 : 1 ≤ n) (h2 : n ≤ 64) : TabAt w b n (fun _ => noRow) := by
  have hc : ∀ o, w.cell? ⟨b, 6 + o, none⟩ = (noRows 64 ++ [Value.int .i64 (n : Nat)])[o]? := fun o => by
    simp only [World.cell?, h]
    exact img_cell _ _ _ _ _
  have hr : ∀ i j, i < 64 → j < 4 → w.cell? ⟨b, 6 + (i * 4 + j), none⟩ = ([.pointer none, .string ⟨#[]⟩, .pointer none, .pointer none] : List Value)[j]? := fun i j hi hj => by
    rw [hc, List.getElem?_append_left (by rw [noRows_len]; omega), noRows_get 64 i j hi hj]
  refine ⟨⟨_, _, h⟩, h1, h2, ?_, fun i hi => hr i 0 hi (by omega), fun i hi => hr i 1 hi (by omega), fun i hi => hr i 2 hi (by omega), fun i hi => hr i 3 hi (by omega)⟩
  have := hc 256
  rw [List.getElem?_append_right (by rw [noRows_len]; omega), noRows_len] at this
  exact this
theorem img_heads {w : World} {b mb sb : Nat} {p n : Int} (h : w.heap[b]? = some (.cells (newImg mb sb p n) 52)) :
    w.cell? ⟨b, 0, none⟩ = some (.map (some mb)) ∧ w.cell? ⟨b, 1, none⟩ = some (.slice none 0 0) ∧ w.cell? ⟨b, 2, none⟩ = some (.int .i64 0) ∧ w.cell? ⟨b, 3, none⟩ = some (.int .i64 0) ∧ w.cell? ⟨b, 4, none⟩ = some (.int .i64 p) ∧ w.cell? ⟨b, 5, none⟩ = some (.map (some sb)) := by
  refine ⟨?_, ?_, ?_, ?_, ?_, ?_⟩ <;> (simp only [World.cell?, h]; rfl)
theorem new_snd {w : World} {sb : Nat} (h : w.heap[sb]? = some (.map #[] 0)) : SndAt w sb [] (fun _ => []) :=
  ⟨sMap_empty h, fun s v hv => by simp [List.lookup] at hv, fun s t ib hs => by simp [List.lookup] at hs, fun s ib p hs => by simp [List.lookup] at hs⟩

end Go.Proofs.YtkghmgoefiepeaaDoor.reads
