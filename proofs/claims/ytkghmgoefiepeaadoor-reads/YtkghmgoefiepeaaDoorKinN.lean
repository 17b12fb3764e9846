import Derived.Test.YtkghmgoefiepeaaDoorKinM
import Derived.Test.YtkghmgoefiepeaaDoorSpecB
import Derived.BigRegion
/- kin: the walk through a method: its memory, and what is known of it. -/
namespace Go.Proofs.YtkghmgoefiepeaaDoor.reads
open Go.ChangeShapes Go.WideShapes Go.ChangeAt Go.RowKit Kn
set_option linter.unusedSimpArgs false
set_option linter.unusedVariables false

/-- A walk's cells: the words, the heights, what failed, what lies ahead. -/
structure Wk (w : World) (b : Nat) (vw : Value) (H : Nat → Nat) (Fd : Nat → Bool) (va : Value) : Prop where
  lt : b < w.heap.size
  c0 : w.cell? ⟨b, 0, none⟩ = some vw
  ch : ∀ i, i < 40 → w.cell? ⟨b, 1 + i, none⟩ = some (.int .u32 (H i : Nat))
  cf : ∀ i, i < 40 → w.cell? ⟨b, 41 + i, none⟩ = some (.bool (Fd i))
  ca : w.cell? ⟨b, 81, none⟩ = some va
  free : ∀ i, w.frozen? ⟨b, i, none⟩ = false

theorem Wk.same {w w' : World} {b : Nat} {vw va : Value} {H : Nat → Nat} {Fd : Nat → Bool} (h : Wk w b vw H Fd va) (hs : w'.heap[b]? = w.heap[b]?) : Wk w' b vw H Fd va := by
  have hc : ∀ o, w'.cell? ⟨b, o, none⟩ = w.cell? ⟨b, o, none⟩ := fun o => World.cell?_of_block hs
  have hf : ∀ o, w'.frozen? ⟨b, o, none⟩ = w.frozen? ⟨b, o, none⟩ := fun o => World.frozen?_of_block hs
  refine ⟨?_, (hc _).trans h.c0, fun i hi => (hc _).trans (h.ch i hi), fun i hi => (hc _).trans (h.cf i hi), (hc _).trans h.ca, fun i => (hf _).trans (h.free i)⟩
  have := h.lt
  have hx : w.heap[b]? = some w.heap[b] := Array.getElem?_eq_getElem this
  rw [hx] at hs
  exact (Array.getElem?_eq_some_iff.1 hs).1

theorem Wk.setH {w : World} {b : Nat} {vw va : Value} {H : Nat → Nat} {Fd : Nat → Bool} (h : Wk w b vw H Fd va) {i : Nat} (hi : i < 40) (n : Nat) : Wk (w.setCell ⟨b, 1 + i, none⟩ (.int .u32 (n : Nat))) b vw (fun k => if k = i then n else H k) Fd va := by
  refine ⟨by simpa [World.setCell] using h.lt, ?_, fun k hk => ?_, fun k hk => ?_, ?_, fun k => (World.frozen?_setCell _ _ _ _).trans (h.free k)⟩
  · rw [cs_other (by intro e; injection e with e1 e2; omega)]; exact h.c0
  · by_cases e : k = i
    · subst e; rw [cs_same (h.ch k hk)]; simp
    · rw [cs_other (by intro e'; injection e' with e1 e2; omega), h.ch k hk]; simp [e]
  · rw [cs_other (by intro e'; injection e' with e1 e2; omega)]; exact h.cf k hk
  · rw [cs_other (by intro e'; injection e' with e1 e2; omega)]; exact h.ca

theorem Wk.setF {w : World} {b : Nat} {vw va : Value} {H : Nat → Nat} {Fd : Nat → Bool} (h : Wk w b vw H Fd va) {i : Nat} (hi : i < 40) : Wk (w.setCell ⟨b, 41 + i, none⟩ (.bool true)) b vw H (markB Fd i) va := by
  refine ⟨by simpa [World.setCell] using h.lt, ?_, fun k hk => ?_, fun k hk => ?_, ?_, fun k => (World.frozen?_setCell _ _ _ _).trans (h.free k)⟩
  · rw [cs_other (by intro e; injection e with e1 e2; omega)]; exact h.c0
  · rw [cs_other (by intro e'; injection e' with e1 e2; omega)]; exact h.ch k hk
  · by_cases e : k = i
    · subst e; rw [cs_same (h.cf k hk)]; simp [markB]
    · rw [cs_other (by intro e'; injection e' with e1 e2; omega), h.cf k hk]; simp [markB, e]
  · rw [cs_other (by intro e'; injection e' with e1 e2; omega)]; exact h.ca

theorem Wk.setA {w : World} {b : Nat} {vw va : Value} {H : Nat → Nat} {Fd : Nat → Bool} (h : Wk w b vw H Fd va) (v : Value) : Wk (w.setCell ⟨b, 81, none⟩ v) b vw H Fd v := by
  refine ⟨by simpa [World.setCell] using h.lt, ?_, fun k hk => ?_, fun k hk => ?_, cs_same h.ca, fun k => (World.frozen?_setCell _ _ _ _).trans (h.free k)⟩
  · rw [cs_other (by intro e; injection e with e1 e2; omega)]; exact h.c0
  · rw [cs_other (by intro e'; injection e' with e1 e2; omega)]; exact h.ch k hk
  · rw [cs_other (by intro e'; injection e' with e1 e2; omega)]; exact h.cf k hk

/-- Which heights are marked: the bits; behind the last word all that are come to. -/
noncomputable def mks (ws : List (W × Nat)) (H : Nat → Nat) : Nat → Nat → Bool := fun i h => if i < ws.length then (H i).testBit h else @decide (Kn.Reach ws i h) (Classical.propDecidable _)

def acells : List (Nat × Nat) → List Value
  | [] => []
  | x :: r => .int .i64 (x.1 : Nat) :: .int .i64 (x.2 : Nat) :: acells r
theorem acells_len : ∀ l : List (Nat × Nat), (acells l).length = l.length * 2
  | [] => rfl
  | x :: r => by simp only [acells, List.length_cons, acells_len r]; omega
theorem acells_append : ∀ (l r : List (Nat × Nat)), acells (l ++ r) = acells l ++ acells r
  | [], r => rfl
  | x :: l, r => by simp only [List.cons_append, acells, acells_append l r]

/-- What is so all along the walk; X: what is gone on from just now. -/
structure Wi (w0 w : World) (ws : List (W × Nat)) (vw : Value) (b : Nat) (H : Nat → Nat) (Fd : Nat → Bool) (va : Value) (A : List (Nat × Nat)) (X : Nat → Nat → Prop) : Prop where
  wk : Wk w b vw H Fd va
  lo : w0.heap.size ≤ b
  below : Below w0.heap.size w0 w
  own : w.ownsRow (b + 1) 106 2 va A.length (acells A)
  hH : ∀ i, i < ws.length → H i < 2 ^ 17
  reach : ∀ i h, mks ws H i h = true → Kn.Reach ws i h
  bad : ∀ i, Fd i = true → ∃ h, Kn.Reach ws i h ∧ ¬ okAt ws i h
  inA : ∀ x ∈ A, x.1 < ws.length ∧ x.2 ≤ 16 ∧ (H x.1).testBit x.2 = true
  gone : ∀ i h, i < ws.length → h ≤ 16 → X i h ∨ (i, h) ∈ A ∨ Gone ws (mks ws H) Fd i h

theorem mks_in {ws : List (W × Nat)} {H : Nat → Nat} {i : Nat} (hi : i < ws.length) (h : Nat) : mks ws H i h = (H i).testBit h := by unfold mks; rw [if_pos hi]
theorem mks_end {ws : List (W × Nat)} {H : Nat → Nat} {h : Nat} (hr : Kn.Reach ws ws.length h) : mks ws H ws.length h = true := by unfold mks; rw [if_neg (by omega)]; simp [hr]
theorem mks_mark {ws : List (W × Nat)} {H : Nat → Nat} {a k : Nat} (ha : a < ws.length) : mks ws (fun i => if i = a then H a ||| 2 ^ k else H i) = Kn.mark (mks ws H) a k := by
  funext i h
  unfold Kn.mark
  by_cases hi : i < ws.length
  · rw [mks_in hi, mks_in hi]
    by_cases e : i = a
    · subst e; simp only [if_true, or_bit]; simp
    · rw [if_neg e]; simp [e]
  · have : i ≠ a := by omega
    unfold mks
    rw [if_neg hi, if_neg hi]
    simp [this]

theorem Wi.mono {w0 w w' : World} {ws : List (W × Nat)} {vw va : Value} {b : Nat} {H : Nat → Nat} {Fd : Nat → Bool} {A : List (Nat × Nat)} {X : Nat → Nat → Prop} (h : Wi w0 w ws vw b H Fd va A X) (hb : Below w.heap.size w w') : Wi w0 w' ws vw b H Fd va A X :=
  ⟨h.wk.same (hb.block b h.wk.lt), h.lo, h.below.trans (hb.mono h.below.size), own_below h.own hb, h.hH, h.reach, h.bad, h.inA, h.gone⟩

theorem own_pop {w : World} {B : Nat} {e : TypeId} {size n cap : Nat} {p : Option Addr} {xs ys : List Value} (h : w.ownsRow B e size (.slice p (n + 1) cap) (n + 1) (xs ++ ys)) (hx : xs.length = n * size) : w.ownsRow B e size (.slice p n cap) n xs := by
  refine ⟨hx, ?_⟩
  rcases h.2 with ⟨_, h0⟩ | ⟨g, cap', cur, hv, hb, hg, hn, hm, hs, ht⟩
  · omega
  · injection hv with h1 h2 h3
    subst h1 h3
    refine .inr ⟨g, cap, cur, rfl, hb, hg, by omega, hm, hs, ?_⟩
    have : cur.toList.take (n * size) = (cur.toList.take ((n + 1) * size)).take (n * size) := by rw [List.take_take, Nat.min_eq_left (Nat.mul_le_mul_right _ (by omega))]
    rw [this, ht, ← hx, List.take_left]

/-- The last of them, and what is left. -/
theorem wi_pop {w0 w : World} {ws : List (W × Nat)} {vw : Value} {b : Nat} {H : Nat → Nat} {Fd : Nat → Bool} {p : Option Addr} {n cap : Nat} {A : List (Nat × Nat)} {x : Nat × Nat} (h : Wi w0 w ws vw b H Fd (.slice p (n + 1) cap) (A ++ [x]) (fun _ _ => False)) (hn : A.length = n) :
    Wi w0 (w.setCell ⟨b, 81, none⟩ (.slice p n cap)) ws vw b H Fd (.slice p n cap) A (fun i k => i = x.1 ∧ k = x.2) := by
  refine ⟨h.wk.setA _, h.lo, h.below.setCell (by show w0.heap.size ≤ b; exact h.lo) _, ?_, h.hH, h.reach, h.bad, fun y hy => h.inA y (List.mem_append_left _ hy), fun i k hi hk => ?_⟩
  · have ho := h.own
    rw [List.length_append, acells_append] at ho
    simp only [List.length_singleton, hn] at ho
    have hp := own_pop ho (by rw [acells_len, hn])
    rw [hn]
    exact hp.kept (row := some b) ⟨rfl, rfl, rfl, by simp [World.setCell], fun k hk hne => Below.heap_setCell _ _ _ _ (by intro e; exact hne (by rw [e]))⟩ (.inr (fun e => by have := (hp.lt b e).1; omega))
  · rcases h.gone i k hi hk with hf | hm | hg
    · exact hf.elim
    · rcases List.mem_append.1 hm with hm | hm
      · exact .inr (.inl hm)
      · simp at hm; exact .inl ⟨by rw [← hm], by rw [← hm]⟩
    · exact .inr (.inr hg)

theorem gone_mark {ws : List (W × Nat)} {M : Nat → Nat → Bool} {Bd : Nat → Bool} {i h a k : Nat} (hg : Gone ws M Bd i h) (hne : ¬ (i = a ∧ h = k)) : Gone ws (Kn.mark M a k) Bd i h := fun hm => by
  rcases mark_iff.1 hm with e | e
  · exact absurd e hne
  · exact ⟨fun ho t ht => mark_of _ _ ((hg e).1 ho t ht), (hg e).2⟩

end Go.Proofs.YtkghmgoefiepeaaDoor.reads

/- kin: walk.arrive. -/
namespace Go.Proofs.YtkghmgoefiepeaaDoor.reads
open Go.ChangeShapes Go.WideShapes Go.ChangeAt Go.RowKit Kn
set_option linter.unusedSimpArgs false
set_option linter.unusedVariables false

theorem shift_pow (h : Nat) (hh : h ≤ 16) : IntKind.u32.wrap ((2 : Int) ^ h) = 2 ^ h := by
  have hp : (2 : Nat) ^ h < 2 ^ 17 := Nat.pow_lt_pow_right (by omega) (by omega)
  have e : ((2 : Int) ^ h) = ((2 ^ h : Nat) : Int) := by push_cast; rfl
  rw [e, IntKind.wrap_u32]
  generalize 2 ^ h = q at *
  omega

theorem wi_mark {w0 w w' : World} {ws : List (W × Nat)} {vw va va' : Value} {b : Nat} {H : Nat → Nat} {Fd : Nat → Bool} {A : List (Nat × Nat)} {X : Nat → Nat → Prop} {a k : Nat} (h : Wi w0 w ws vw b H Fd va A X) (ha : a < ws.length) (hk : k ≤ 16) (hr : Kn.Reach ws a k)
    (hwk : Wk w' b vw (fun i => if i = a then H a ||| 2 ^ k else H i) Fd va') (hb : Below w0.heap.size w0 w') (hown : w'.ownsRow (b + 1) 106 2 va' (A.length + 1) (acells A ++ [.int .i64 (a : Nat), .int .i64 (k : Nat)])) :
    Wi w0 w' ws vw b (fun i => if i = a then H a ||| 2 ^ k else H i) Fd va' (A ++ [(a, k)]) X := by
  refine ⟨hwk, h.lo, hb, ?_, fun i hi => ?_, fun i j hm => ?_, h.bad, fun x hx => ?_, fun i j hi hj => ?_⟩
  · rw [List.length_append, acells_append]; exact hown
  · by_cases e : i = a
    · subst e; simp only [if_true]; exact or_lt _ _ (h.hH i hi) hk
    · rw [if_neg e]; exact h.hH i hi
  · rw [mks_mark ha] at hm
    rcases mark_iff.1 hm with ⟨rfl, rfl⟩ | hm
    · exact hr
    · exact h.reach i j hm
  · rcases List.mem_append.1 hx with hx | hx
    · obtain ⟨h1, h2, h3⟩ := h.inA x hx
      refine ⟨h1, h2, ?_⟩
      by_cases e : x.1 = a
      · rw [if_pos e, or_bit, ← e, h3, Bool.or_true]
      · rw [if_neg e]; exact h3
    · simp at hx; subst hx
      refine ⟨ha, hk, ?_⟩
      simp only [if_true, or_bit]; simp
  · rw [mks_mark ha]
    by_cases e : i = a ∧ j = k
    · exact .inr (.inl (List.mem_append_right _ (by simp [e.1, e.2])))
    · rcases h.gone i j hi hj with hx | hm | hg
      · exact .inl hx
      · exact .inr (.inl (List.mem_append_left _ hm))
      · exact .inr (.inr (gone_mark hg e))

theorem info_arrival : (Tryd.prog.info? 106).map (fun i => (i.zero, i.size, i.bytes)) = some (some (.agg #[.int .i64 0, .int .i64 0]), 2, 16) := by kernel_rfl

set_option maxHeartbeats 2000000 in
set_option maxRecDepth 100000 in
theorem arrive_any (ws : List (W × Nat)) (p : Option Addr) (cap b a h : Nat) (H : Nat → Nat) (Fd : Nat → Bool) (va : Value) (A : List (Nat × Nat)) (X : Nat → Nat → Prop) (w0 w : World) (hn : ws.length ≤ 40) (ha : a ≤ ws.length) (hh : h ≤ 16) (hr : Kn.Reach ws a h) (hA : A.length ≤ 5000)
    (hi : Wi w0 w ws (.slice p ws.length cap) b H Fd va A X) :
    Calls Tryd.prog 38 #[.pointer (some ⟨b, 0, none⟩), .int .i64 a, .int .i64 h] w fun e w' => e = .returned (.tuple #[]) ∧ ∃ (H' : Nat → Nat) (va' : Value) (A' : List (Nat × Nat)), Wi w0 w' ws (.slice p ws.length cap) b H' Fd va' A' X ∧
      mks ws H' a h = true ∧ (∀ i k, mks ws H i k = true → mks ws H' i k = true) ∧ A'.length + 2 * unm ws.length (mks ws H') ≤ A.length + 2 * unm ws.length (mks ws H) ∧
      w.heap.size ≤ w'.heap.size ∧ ∀ k, k < w.heap.size → k ≠ b → va.ownBlock ≠ some k → w'.heap[k]? = w.heap[k]? := by
  have c0 := hi.wk.c0
  have HI : Hid (Wi w0 w ws (.slice p ws.length cap) b H Fd va A X) := hi
  have HR : Hid (Kn.Reach ws a h) := hr
  clear hi hr
  by_cases hae : a = ws.length
  · subst hae
    go_enter Tryd.func38, Tryd.ntmps38
    go_wp2
    go_quiet (fail)
    go_wp2
    refine bodyPost_ret (results_none rfl _ _ _) rfl ?_
    exact ⟨rfl, H, va, A, HI.out.mono ⟨rfl, rfl, rfl, Nat.le_refl _, fun _ _ => rfl⟩, mks_end HR.out, fun _ _ h => h, Nat.le_refl _, Nat.le_refl _, fun _ _ _ _ => rfl⟩
  · have hal : a < ws.length := by omega
    have c1 := HI.out.wk.ch a (by omega)
    have cf := HI.out.wk.free (1 + a)
    have te : ((a : Int) == (ws.length : Int)) = false := by simp; omega
    have hHa := HI.out.hH a hal
    have h2 : (2 : Int) ^ h % 4294967296 = 2 ^ h := by have := shift_pow h hh; rw [IntKind.wrap_u32] at this; exact this
    have tand : bits .and .u32 (H a : Nat) ((2 : Int) ^ h % 4294967296) = if (H a).testBit h = true then 2 ^ h else 0 := by rw [h2]; exact Kn.u32_and (H a) h hHa hh
    have tor : bits .or .u32 (H a : Nat) ((2 : Int) ^ h % 4294967296) = ((H a ||| 2 ^ h : Nat) : Int) := by rw [h2]; exact Kn.u32_or (H a) h hHa hh
    have tor' : bits .or .u32 (H a : Nat) (IntKind.u32.wrap ((2 : Int) ^ h)) = ((H a ||| 2 ^ h : Nat) : Int) := by rw [shift_pow h hh]; exact Kn.u32_or (H a) h hHa hh
    have h40 : (a : Int) < 40 := by omega
    have hpos : ((2 : Int) ^ h) ≠ 0 := Int.pow_ne_zero (by omega)
    cases hbit : (H a).testBit h
    · have tb : (bits .and .u32 (H a : Nat) ((2 : Int) ^ h % 4294967296) != 0) = false := by rw [tand, hbit]; simp
      clear tand hpos h2
      go_enter Tryd.func38, Tryd.ntmps38
      go_wp2
      go_quiet (fail)
      go_wp2
      go_region
      have hwk1 : Wk ((w.drewN (nq + 1)).setCell ⟨b, 1 + a, none⟩ (.int .u32 ((H a ||| 2 ^ h : Nat) : Int))) b (.slice p ws.length cap) (fun i => if i = a then H a ||| 2 ^ h else H i) Fd va := (HI.out.wk.same (w' := w.drewN (nq + 1)) rfl).setH (by omega) _
      have hbl1 : Below w0.heap.size w0 ((w.drewN (nq + 1)).setCell ⟨b, 1 + a, none⟩ (.int .u32 ((H a ||| 2 ^ h : Nat) : Int))) := (HI.out.below.drewN' _).setCell (by show w0.heap.size ≤ b; exact HI.out.lo) _
      have hown1 : ((w.drewN (nq + 1)).setCell ⟨b, 1 + a, none⟩ (.int .u32 ((H a ||| 2 ^ h : Nat) : Int))).ownsRow (b + 1) 106 2 va A.length (acells A) :=
        HI.out.own.kept (row := some b) ⟨rfl, rfl, rfl, by simp [World.setCell], fun k hk hne => Below.heap_setCell _ _ _ _ (by intro e; exact hne (by rw [e]))⟩ (.inr (fun e => by have := (HI.out.own.lt b e).1; omega))
      have hfr1 : ∀ k, k ≠ b → ((w.drewN (nq + 1)).setCell ⟨b, 1 + a, none⟩ (.int .u32 ((H a ||| 2 ^ h : Nat) : Int))).heap[k]? = w.heap[k]? := fun k hk => Below.heap_setCell _ _ _ _ hk
      have hsz1 : w.heap.size ≤ ((w.drewN (nq + 1)).setCell ⟨b, 1 + a, none⟩ (.int .u32 ((H a ||| 2 ^ h : Nat) : Int))).heap.size := by simp [World.setCell]
      revert hwk1 hbl1 hown1 hfr1 hsz1
      generalize (w.drewN (nq + 1)).setCell ⟨b, 1 + a, none⟩ (.int .u32 ((H a ||| 2 ^ h : Nat) : Int)) = W1
      intro hwk1 hbl1 hown1 hfr1 hsz1
      have ca := hwk1.ca
      have fa := hwk1.free 81
      have hbW := hwk1.lt
      have hnews := cells_laid W1 [.int .i64 (a : Nat), .int .i64 (h : Nat)] 106
      have HFR : Hid (∀ k, k ≠ b → W1.heap[k]? = w.heap[k]?) := hfr1
      clear hfr1
      have HWK : Hid (Wk W1 b (.slice p ws.length cap) (fun i => if i = a then H a ||| 2 ^ h else H i) Fd va) := hwk1
      clear hwk1 c0 c1 cf tor tor' tb
      obtain ⟨i0, hi0, hz0, hz1, hz2⟩ := info_parts info_arrival
      go_wp2_with first
        | (at_builtin; refine wpList_append_own_at _ rfl _ _ 101 rfl (b + 1) 106 i0 (.agg #[.int .i64 0, .int .i64 0]) 2 16 Tryd.underlying101 hi0 hz0 hz1 hz2 rfl (by decide) _ _ _ rfl (hown1.alloc _) ⟨W1.heap.size, 0, none⟩ 1 1 [.int .i64 (a : Nat), .int .i64 (h : Nat)] rfl rfl hnews (by simp [Value.oneCell']) (by unfold maxLen; omega) (by omega) (by simp only [World.size_alloc]; omega) ?_)
        | fail
      intro v2 W2 hown2 hg2 _ _
      have hne : some b ≠ va.ownBlock := fun e => by have := (hown1.lt b e.symm).1; omega
      have hwk2 : Wk W2 b (.slice p ws.length cap) (fun i => if i = a then H a ||| 2 ^ h else H i) Fd va := HWK.out.same (by
        rw [hg2.block b (by simp only [World.size_alloc]; omega) hne]
        exact Below.heap_alloc W1 _ b hbW)
      have hbl2 : Below w0.heap.size w0 W2 := push_below hbl1 (Nat.le_refl _) (own_mono hown1 (by have := HI.out.lo; omega)) hg2
      obtain ⟨q, c2, rfl⟩ := own_len hown2
      have ca := hwk2.ca
      have fa := hwk2.free 81
      have HWK2 : Hid (Wk W2 b (.slice p ws.length cap) (fun i => if i = a then H a ||| 2 ^ h else H i) Fd va) := hwk2
      have HF2 : Hid (∀ k, k < w.heap.size → k ≠ b → va.ownBlock ≠ some k → W2.heap[k]? = w.heap[k]?) := by
        have hx1 : ∀ k, k < w.heap.size → k ≠ b → va.ownBlock ≠ some k → W2.heap[k]? = w.heap[k]? := fun k hk hkb hkv => by
          rw [hg2.block k (by simp only [World.size_alloc]; omega) (fun e => hkv e.symm), Below.heap_alloc W1 _ k (by omega)]
          exact HFR.out k hkb
        exact hx1
      have hsz2 : w.heap.size ≤ W2.heap.size := by have := hg2.size; simp only [World.size_alloc] at this; omega
      clear hwk2 hg2 hnews
      go_wp2
      go_end0
      refine ⟨rfl, _, _, _, wi_mark HI.out hal hh HR.out (HWK2.out.setA _) (hbl2.setCell (by show w0.heap.size ≤ b; exact HI.out.lo) _) ?_, ?_, ?_, ?_, by simpa [World.setCell] using hsz2, fun k hk hkb hkv => (Below.heap_setCell _ _ _ _ hkb).trans (HF2.out k hk hkb hkv)⟩
      · exact hown2.kept (row := some b) ⟨rfl, rfl, rfl, by simp [World.setCell], fun k hk hne => Below.heap_setCell _ _ _ _ (by intro e; exact hne (by rw [e]))⟩ (.inr (fun e => by have := (hown2.lt b e).1; omega))
      · rw [mks_mark hal]; exact Kn.mark_self _ _ _
      · intro i k hm; rw [mks_mark hal]; exact mark_of _ _ hm
      · rw [mks_mark hal, List.length_append]
        have hm : mks ws H a h = false := by rw [mks_in hal]; exact hbit
        have := unm_mark (n := ws.length) (by omega : a ≤ ws.length) hh hm
        simp only [List.length_singleton]
        omega
    · have tb : (bits .and .u32 (H a : Nat) ((2 : Int) ^ h % 4294967296) != 0) = true := by rw [tand, hbit]; simpa using hpos
      clear tand hpos h2
      go_enter Tryd.func38, Tryd.ntmps38
      go_wp2
      go_quiet (fail)
      go_wp2
      refine bodyPost_ret (results_none rfl _ _ _) rfl ?_
      exact ⟨rfl, H, va, A, HI.out.mono ⟨rfl, rfl, rfl, Nat.le_refl _, fun _ _ => rfl⟩, by rw [mks_in hal]; exact hbit, fun _ _ h => h, Nat.le_refl _, Nat.le_refl _, fun _ _ _ _ => rfl⟩

end Go.Proofs.YtkghmgoefiepeaaDoor.reads
