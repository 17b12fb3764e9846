/- kin: senders: addHome. -/
import Derived.Test.YtkghmgoefiepeaaDoorPlc
import Derived.BigRegion
namespace Go.Proofs.YtkghmgoefiepeaaDoor.reads
open Go.ChangeShapes Go.WideShapes Go.ChangeAt Go.RowKit Kn Go.Proofs.YtkghmgoefiepeaaDoor.img
set_option linter.unusedSimpArgs false
set_option linter.unusedVariables false

/-- The senders: by selectors, sets of places. -/
structure SndAt (w : World) (sb : Nat) (l : List (ByteArray × Value)) (ps : Nat → List Nat) : Prop where
  map : SMap w sb l
  inn : ∀ s v, l.lookup s = some v → ∃ ib, v = .map (some ib) ∧ PSet w ib (ps ib) ∧ ib ≠ sb
  inj : ∀ s t ib, l.lookup s = some (.map (some ib)) → l.lookup t = some (.map (some ib)) → s = t
  cel : ∀ s ib p, l.lookup s = some (.map (some ib)) → p ∈ ps ib → Cel w p
def Reg (l : List (ByteArray × Value)) (ps : Nat → List Nat) (s : ByteArray) (p : Nat) : Prop := ∃ ib, l.lookup s = some (.map (some ib)) ∧ p ∈ ps ib
theorem cel_ne_map {w : World} {p b : Nat} {l : List (ByteArray × Value)} (h : Cel w p) (h' : SMap w b l) : p ≠ b := by
  rintro rfl
  obtain ⟨_, _, h⟩ := h
  obtain ⟨_, _, h', _⟩ := h'
  rw [h] at h'; cases h'
theorem cel_ne_set {w : World} {p b : Nat} {l : List Nat} (h : Cel w p) (h' : PSet w b l) : p ≠ b := by
  rintro rfl
  obtain ⟨_, _, h⟩ := h
  obtain ⟨_, _, h', _⟩ := h'
  rw [h] at h'; cases h'
theorem SndAt.same {w w' : World} {sb : Nat} {l : List (ByteArray × Value)} {ps : Nat → List Nat} (h : SndAt w sb l ps) (h1 : w'.heap[sb]? = w.heap[sb]?) (h2 : ∀ s ib, l.lookup s = some (.map (some ib)) → w'.heap[ib]? = w.heap[ib]?) (h3 : ∀ p, Cel w p → Cel w' p) : SndAt w' sb l ps :=
  ⟨h.map.same h1, fun s v hv => by obtain ⟨ib, rfl, h4, h5⟩ := h.inn s v hv; exact ⟨ib, rfl, h4.same (h2 s ib hv), h5⟩, h.inj, fun s ib p hs hp => h3 p (h.cel s ib p hs hp)⟩
theorem lookup_snd (w : World) (sb : Nat) (l : List (ByteArray × Value)) (h : SMap w sb l) (s : ByteArray) : (Instr.lookup 38 (.map (some sb)) (.string s) false).run Tryd.prog w = .ok ((l.lookup s).getD (.map none)) w :=
  run_lookup h.str Tryd.underlying38 Tryd.underlying9 (Tryd.zeroValue126 w) s
theorem eql_set_some (ib : Nat) (w : World) : (binOp .eql 126 (.map (some ib)) (.map none)).run Tryd.prog w = .ok (.bool false) w := by kernel_rfl
theorem eql_set_none (w : World) : (binOp .eql 126 (.map none) (.map none)).run Tryd.prog w = .ok (.bool true) w := by kernel_rfl
theorem size_place : (Tryd.prog.info? 132).map (·.size) = some 1 := by kernel_rfl
theorem key_place : PtrKey Tryd.prog 90 := by
  have h := size_place
  cases hi : Tryd.prog.info? 132 with
  | none => rw [hi] at h; cases h
  | some i => rw [hi] at h; simp at h; exact ⟨_, i, Tryd.underlying90, hi, by omega⟩

theorem SndAt.chg {w w' : World} {sb : Nat} {l : List (ByteArray × Value)} {ps : Nat → List Nat} {S : Nat → Prop} (h : SndAt w sb l ps) (hc : Chg w w' S) (h1 : ¬ S sb) (h2 : ∀ s ib, l.lookup s = some (.map (some ib)) → ¬ S ib) (h3 : ∀ s ib p, l.lookup s = some (.map (some ib)) → p ∈ ps ib → S p → Cel w' p) : SndAt w' sb l ps := by
  refine ⟨h.map.same (hc.block _ h.map.lt h1), fun s v hv => ?_, h.inj, fun s ib p hs hp => ?_⟩
  · obtain ⟨ib, rfl, h4, h5⟩ := h.inn s v hv
    exact ⟨ib, rfl, h4.same (hc.block _ h4.lt (h2 s ib hv)), h5⟩
  · by_cases hS : S p
    · exact h3 s ib p hs hp hS
    · exact (h.cel s ib p hs hp).same (hc.block _ (h.cel s ib p hs hp).lt hS)
theorem mapv_inj {a b : Nat} (h : (some (Value.map (some a)) : Option Value) = some (.map (some b))) : a = b := by simpa using h
theorem SndAt.drew {w : World} {sb : Nat} {l : List (ByteArray × Value)} {ps : Nat → List Nat} (h : SndAt w sb l ps) : SndAt w.drew sb l ps := h.same rfl (fun _ _ _ => rfl) (fun _ h => h.same rfl)
/-- A place comes into the set that a selector has. -/
theorem snd_old {W : World} {sb : Nat} {l : List (ByteArray × Value)} {ps : Nat → List Nat} (h : SndAt W sb l ps) {s : ByteArray} {ib q : Nat} (hl : l.lookup s = some (.map (some ib))) (hq : Cel W q) (v : Value) :
    ∃ W' ps', (Instr.mapUpdate 126 (.map (some ib)) (pkey q) v).run Tryd.prog W = .ok () W' ∧ SndAt W' sb l ps' ∧ (∀ t r, Reg l ps' t r ↔ Reg l ps t r ∨ (t = s ∧ r = q)) ∧ W.grownBy W' (some ib) := by
  obtain ⟨ib', e, hset, hne⟩ := h.inn s _ hl
  injection e with e; injection e with e; subst e
  obtain ⟨W', psn, hrun, hp, hmem, hg, hsz⟩ := run_pput (P := Tryd.prog) hset (fun p hp => h.cel s ib p hl hp) Tryd.underlying126 key_place hq v
  have keep : ∀ p, Cel W p → Cel W' p := fun p hc => hc.same (hg.block p hc.lt (fun e => by injection e with e; exact cel_ne_set hc hset e))
  refine ⟨W', fun k => if k = ib then psn else ps k, hrun, ⟨h.map.same (hg.block _ h.map.lt (fun e => by injection e with e; exact hne e.symm)), fun t u hu => ?_, h.inj, fun t jb p ht hp' => ?_⟩, fun t r => ?_, hg⟩
  · obtain ⟨jb, rfl, h4, h5⟩ := h.inn t u hu
    by_cases e : jb = ib
    · subst e; exact ⟨jb, rfl, by simpa using hp, h5⟩
    · exact ⟨jb, rfl, by simp only [e, if_false]; exact h4.same (hg.block _ h4.lt (fun e' => by injection e' with e'; exact e e')), h5⟩
  · by_cases e : jb = ib
    · subst e
      simp only [if_true] at hp'
      rcases (hmem p).1 hp' with h6 | rfl
      · exact keep p (h.cel t jb p ht h6)
      · exact keep p hq
    · simp only [e, if_false] at hp'
      exact keep p (h.cel t jb p ht hp')
  · constructor
    · rintro ⟨jb, h6, h7⟩
      by_cases e : jb = ib
      · subst e
        simp only [if_true] at h7
        rcases (hmem r).1 h7 with h8 | rfl
        · exact .inl ⟨jb, h6, h8⟩
        · exact .inr ⟨h.inj t s jb h6 hl, rfl⟩
      · simp only [e, if_false] at h7
        exact .inl ⟨jb, h6, h7⟩
    · rintro (⟨jb, h6, h7⟩ | ⟨rfl, rfl⟩)
      · by_cases e : jb = ib
        · subst e; exact ⟨jb, h6, by simp only [if_true]; exact (hmem r).2 (.inl h7)⟩
        · exact ⟨jb, h6, by simp only [e, if_false]; exact h7⟩
      · exact ⟨ib, hl, by simp only [if_true]; exact (hmem r).2 (.inr rfl)⟩
/-- A selector that had no set has a new one. -/
theorem snd_new {W : World} {sb nb : Nat} {l : List (ByteArray × Value)} {ps : Nat → List Nat} (h : SndAt W sb l ps) {s : ByteArray} (hl : l.lookup s = none) (hn : W.heap[nb]? = some (.map #[] 0)) (hfr : ∀ t, l.lookup t ≠ some (.map (some nb))) (hns : nb ≠ sb) :
    ∃ W', (Instr.mapUpdate 38 (.map (some sb)) (.string s) (.map (some nb))).run Tryd.prog W = .ok () W' ∧ SndAt W' sb (put l s (.map (some nb))) (fun k => if k = nb then [] else ps k) ∧ (∀ t r, Reg (put l s (.map (some nb))) (fun k => if k = nb then [] else ps k) t r ↔ Reg l ps t r) ∧ W.grownBy W' (some sb) := by
  obtain ⟨W', hrun, hm, hg, hsz⟩ := run_put (P := Tryd.prog) h.map Tryd.underlying38 Tryd.underlying9 s (.map (some nb))
  have keep : ∀ p, Cel W p → Cel W' p := fun p hc => hc.same (hg.block p hc.lt (fun e => by injection e with e; exact cel_ne_map hc h.map e))
  refine ⟨W', hrun, ⟨hm, fun t u hu => ?_, fun t1 t2 ib h1 h2 => ?_, fun t jb p ht hp => ?_⟩, fun t r => ?_, hg⟩
  · rw [lookup_put] at hu
    by_cases e : t = s
    · rw [if_pos e] at hu
      injection hu with hu
      refine ⟨nb, hu.symm, ?_, hns⟩
      simp only [if_true]
      exact pSet_empty ((hg.block _ (Array.getElem?_eq_some_iff.1 hn).1 (fun e => by injection e with e; exact hns e)).trans hn)
    · rw [if_neg e] at hu
      obtain ⟨jb, rfl, h4, h5⟩ := h.inn t u hu
      have hj : jb ≠ nb := fun e => hfr t (by rw [← e]; exact hu)
      exact ⟨jb, rfl, by simp only [hj, if_false]; exact h4.same (hg.block _ h4.lt (fun e' => by injection e' with e'; exact h5 e')), h5⟩
  · rw [lookup_put] at h1 h2
    by_cases e1 : t1 = s
    · by_cases e2 : t2 = s
      · rw [e1, e2]
      · rw [if_pos e1] at h1
        rw [if_neg e2] at h2
        have h1 := mapv_inj h1
        subst h1
        exact absurd h2 (hfr t2)
    · rw [if_neg e1] at h1
      by_cases e2 : t2 = s
      · rw [if_pos e2] at h2
        have h2 := mapv_inj h2
        subst h2
        exact absurd h1 (hfr t1)
      · rw [if_neg e2] at h2
        exact h.inj t1 t2 ib h1 h2
  · rw [lookup_put] at ht
    by_cases e : t = s
    · rw [if_pos e] at ht
      have ht := mapv_inj ht
      subst ht
      simp at hp
    · rw [if_neg e] at ht
      have hj : jb ≠ nb := fun e => hfr t (by rw [← e]; exact ht)
      simp only [hj, if_false] at hp
      exact keep p (h.cel t jb p ht hp)
  · constructor
    · rintro ⟨jb, h1, h2⟩
      rw [lookup_put] at h1
      by_cases e : t = s
      · rw [if_pos e] at h1
        have h1 := mapv_inj h1
        subst h1
        simp at h2
      · rw [if_neg e] at h1
        have hj : jb ≠ nb := fun e => hfr t (by rw [← e]; exact h1)
        simp only [hj, if_false] at h2
        exact ⟨jb, h1, h2⟩
    · rintro ⟨jb, h1, h2⟩
      have hj : jb ≠ nb := fun e => hfr t (by rw [← e]; exact h1)
      refine ⟨jb, ?_, by simp only [hj, if_false]; exact h2⟩
      rw [lookup_put]
      by_cases e : t = s
      · subst e; rw [hl] at h1; cases h1
      · rw [if_neg e]; exact h1

theorem step_reg {ws : List (W × Nat)} {pl : Nat → Nat} {k : Nat} {x : W × Nat} (hx : ws[k]? = some x) (hs : sendsW x.1 = true) {R0 R R' : ByteArray → Nat → Prop}
    (h : ∀ s q, R s q ↔ R0 s q ∨ ∃ i x, i < k ∧ ws[i]? = some x ∧ sendsW x.1 = true ∧ ofL x.1.sel = s ∧ q = pl i) (h' : ∀ t r, R' t r ↔ R t r ∨ t = ofL x.1.sel ∧ r = pl k) :
    ∀ s q, R' s q ↔ R0 s q ∨ ∃ i x, i < k + 1 ∧ ws[i]? = some x ∧ sendsW x.1 = true ∧ ofL x.1.sel = s ∧ q = pl i := by
  intro s q
  rw [h' s q, h s q]
  constructor
  · rintro ((h | ⟨i, y, hi, h⟩) | ⟨rfl, rfl⟩)
    · exact .inl h
    · exact .inr ⟨i, y, by omega, h⟩
    · exact .inr ⟨k, x, by omega, hx, hs, rfl, rfl⟩
  · rintro (h | ⟨i, y, hi, hy, h1, h2, h3⟩)
    · exact .inl (.inl h)
    · by_cases e : i = k
      · subst e
        rw [hx] at hy
        injection hy with hy
        subst hy
        exact .inr ⟨h2.symm, h3⟩
      · exact .inl (.inr ⟨i, y, by omega, hy, h1, h2, h3⟩)

set_option maxHeartbeats 2000000 in
set_option maxRecDepth 100000 in
theorem addHome_first (b m sb g cap : Nat) (p : Option Addr) (ws : List (W × Nat)) (pl : Nat → Nat) (l0 : List (ByteArray × Value)) (ps0 : Nat → List Nat) (h : Int) (w : World) (hn : ws.length ≤ 40) (hh : Go.RowKit.wrap64 (h + 1) ≤ 1)
    (hb : w.cell? ⟨b, 5, none⟩ = some (.map (some sb))) (hbc : Cel w b) (hm : w.heap[m]? = some (.cells #[.slice p ws.length cap, .int .i64 h] 112)) (hbm : b ≠ m) (hgm : 1 ≤ ws.length → g ≠ m)
    (hw : MAt w p g ws pl ws.length) (hpl : ∀ i x, ws[i]? = some x → sendsW x.1 = true → Cel w (pl i)) (hs : SndAt w sb l0 ps0) :
    Calls Tryd.prog 40 #[.pointer (some ⟨b, 0, none⟩), .pointer (some ⟨m, 0, none⟩)] w fun e w' => e = .returned (.tuple #[]) ∧ ∃ l ps, SndAt w' sb l ps ∧
      (∀ s ib, l.lookup s = some (.map (some ib)) → l0.lookup s = some (.map (some ib)) ∨ w.heap.size ≤ ib) ∧
      (∀ s q, Reg l ps s q ↔ Reg l0 ps0 s q ∨ ∃ i x, ws[i]? = some x ∧ sendsW x.1 = true ∧ ofL x.1.sel = s ∧ q = pl i) ∧
      w'.heap[m]? = some (.cells #[.slice p ws.length cap, .int .i64 (Go.RowKit.wrap64 (h + 1))] 112) ∧ Chg w w' (fun k => k = m ∨ k = sb ∨ ∃ s, l0.lookup s = some (.map (some k))) := by
  have hmc : Cel w m := ⟨_, _, hm⟩
  have m0 : w.cell? ⟨m, 0, none⟩ = some (.slice p ws.length cap) := by simp only [World.cell?, hm]; rfl
  have m1 : w.cell? ⟨m, 1, none⟩ = some (.int .i64 h) := by simp only [World.cell?, hm]; rfl
  have mf := fun o => hmc.free o
  have hgc : 1 ≤ ws.length → Cel w g := hw.cel
  have HI : Hid (MAt w p g ws pl ws.length ∧ (∀ i x, ws[i]? = some x → sendsW x.1 = true → Cel w (pl i)) ∧ SndAt w sb l0 ps0 ∧ Cel w b ∧ w.heap[m]? = some (.cells #[.slice p ws.length cap, .int .i64 h] 112)) := ⟨hw, hpl, hs, hbc, hm⟩
  have hbl := hbc.lt
  have hml := hmc.lt
  clear hw hpl hs hbc hm hmc hgc
  go_enter Tryd.func40, Tryd.ntmps40
  go_wp2
  go_loopw [23] (fun i wr => ∃ (k : Nat) (l : List (ByteArray × Value)) (ps : Nat → List Nat), i = .int .i64 k ∧ k ≤ ws.length ∧ SndAt wr sb l ps ∧
      (∀ s ib, l.lookup s = some (.map (some ib)) → l0.lookup s = some (.map (some ib)) ∨ w.heap.size ≤ ib) ∧
      (∀ s q, Reg l ps s q ↔ Reg l0 ps0 s q ∨ ∃ i x, i < k ∧ ws[i]? = some x ∧ sendsW x.1 = true ∧ ofL x.1.sel = s ∧ q = pl i) ∧
      Chg (w.setCell ⟨m, 1, none⟩ (.int .i64 (Go.RowKit.wrap64 (h + 1)))) wr (fun k => k = sb ∨ ∃ s, l0.lookup s = some (.map (some k)))) (fun i _ => ws.length - (intOf i).toNat)
  case atStart =>
    obtain ⟨hw, hpl, hs0, hbc, hm⟩ := HI.out
    have hmc : Cel w m := ⟨_, _, hm⟩
    refine ⟨0, l0, ps0, rfl, by omega, hs0.chg ((Chg.refl w (fun k => k = m)).setCell _ _ (fun _ => rfl)) (fun e => cel_ne_map hmc hs0.map e.symm) (fun s ib hs e => ?_) (fun s ib q hs hq e => by subst e; exact hmc.setCell _ _), fun s ib hs => .inl hs, fun s q => ?_, Chg.refl _ _⟩
    · obtain ⟨jb, e1, e2, _⟩ := hs0.inn s _ hs
      injection e1 with e1; injection e1 with e1
      subst e1
      exact cel_ne_set hmc e2 e.symm
    · exact ⟨.inl, fun h => by rcases h with h | ⟨i, x, hi, _⟩; exact h; omega⟩
  case round =>
    obtain ⟨k, l, ps, rfl, hk, hsn, hnew, hreg, hch⟩ := hrel
    obtain ⟨hw, hpl, hs0, hbc, hm⟩ := HI.out
    have hblk : ∀ j, Cel w j → j ≠ m → wr.heap[j]? = w.heap[j]? := fun j hj hjm =>
      (hch.block j (by simp only [World.setCell, Array.size_modify]; exact hj.lt) (fun e => by
        rcases e with e | ⟨t, e⟩
        · exact cel_ne_map hj hs0.map e
        · obtain ⟨ib, e1, e2, _⟩ := hs0.inn t _ e
          injection e1 with e1; injection e1 with e1
          subst e1
          exact cel_ne_set hj e2 rfl)).trans (Below.heap_setCell w _ _ j hjm)
    have hbr : wr.cell? ⟨b, 5, none⟩ = some (.map (some sb)) := (World.cell?_of_block (a := ⟨b, 5, none⟩) (hblk b hbc hbm)).trans hb
    have hbrl : b < wr.heap.size := World.block_lt_of_cell? wr ⟨b, 5, none⟩ hbr
    have HR : Hid (SndAt wr sb l ps ∧ (∀ s ib, l.lookup s = some (.map (some ib)) → l0.lookup s = some (.map (some ib)) ∨ w.heap.size ≤ ib) ∧
      (∀ s q, Reg l ps s q ↔ Reg l0 ps0 s q ∨ ∃ i x, i < k ∧ ws[i]? = some x ∧ sendsW x.1 = true ∧ ofL x.1.sel = s ∧ q = pl i) ∧
      Chg (w.setCell ⟨m, 1, none⟩ (.int .i64 (Go.RowKit.wrap64 (h + 1)))) wr (fun k => k = sb ∨ ∃ s, l0.lookup s = some (.map (some k)))) := ⟨hsn, hnew, hreg, hch⟩
    clear hsn hnew hreg hch
    by_cases hkn : k < ws.length
    · obtain ⟨x, hx⟩ : ∃ x, ws[k]? = some x := ⟨_, List.getElem?_eq_getElem hkn⟩
      obtain rfl : p = some ⟨g, 0, none⟩ := hw.head (by omega)
      have hwr := hw.same (hblk g (hw.cel (by omega)) (hgm (by omega)))
      have hgl := (hwr.cel (by omega)).lt
      have c0 := hwr.c0 k x hx
      have c1 := hwr.c1 k x hx
      have c2 := hwr.c2 k x hx
      have c3 := hwr.c3 k x hx
      have c4 := hwr.c4 k x hx
      have c5 := hwr.c5 k x hx
      have HX : Hid (ws[k]? = some x) := hx
      cases hsd : sendsW x.1
      · have HS : Hid (sendsW x.1 = false) := hsd
        rw [hsd, if_neg (by simp)] at c5
        clear hwr hw hpl hs0 hbc hm hblk hx hsd hb m0 m1 mf
        go_wp2
        go_roundw
        case rel =>
          obtain ⟨hsn, hnew, hreg, hch⟩ := HR.out
          refine ⟨k + 1, l, ps, by go_num, by omega, hsn.chg ((Chg.refl wr (fun _ => False)).alloc _) (fun h => h) (fun _ _ _ h => h) (fun _ _ _ _ _ h => h.elim), hnew, fun s q => ?_, hch.alloc _⟩
          rw [hreg s q]
          refine or_congr Iff.rfl ⟨?_, ?_⟩
          · rintro ⟨i, y, hi, h⟩; exact ⟨i, y, by omega, h⟩
          · rintro ⟨i, y, hi, hy, h1, h2⟩
            refine ⟨i, y, ?_, hy, h1, h2⟩
            by_cases e : i = k
            · subst e; rw [HX.out] at hy; injection hy with hy; subst hy; rw [HS.out] at h1; cases h1
            · omega
        case measure => simp [intOf] <;> omega
      · have HS : Hid (sendsW x.1 = true) := hsd
        have hq := hpl k x hx hsd
        rw [hsd, if_pos ⟨hkn, rfl⟩] at c5
        have hqr : Cel wr (pl k) := by
          by_cases e : pl k = m
          · rw [e]
            have hmr : wr.heap[m]? = (w.setCell ⟨m, 1, none⟩ (.int .i64 (Go.RowKit.wrap64 (h + 1)))).heap[m]? := HR.out.2.2.2.block m (by simp only [World.setCell, Array.size_modify]; exact hml) (fun e => by
              have hmc : Cel w m := ⟨_, _, hm⟩
              rcases e with e | ⟨t, e⟩
              · exact cel_ne_map hmc hs0.map e
              · obtain ⟨ib, e1, e2, _⟩ := hs0.inn t _ e
                injection e1 with e1; injection e1 with e1
                subst e1
                exact cel_ne_set hmc e2 rfl)
            exact (Cel.setCell (⟨_, _, hm⟩ : Cel w m) _ _).same hmr
          · exact hq.same (hblk _ hq e)
        have HQ : Hid (Cel (wr.alloc (.cells #[.int .i64 (kindOf x.1.k : Nat), .int .i64 x.1.n, .string (ofL x.1.a), .string (ofL x.1.sel), .string (ofL x.1.b), .pointer (some ⟨pl k, 0, none⟩)] 92)) (pl k)) := hqr.alloc _
        have HB0 : Hid (Cel (wr.alloc (.cells #[.int .i64 (kindOf x.1.k : Nat), .int .i64 x.1.n, .string (ofL x.1.a), .string (ofL x.1.sel), .string (ofL x.1.b), .pointer (some ⟨pl k, 0, none⟩)] 92)) b) := (hbc.same (hblk b hbc hbm)).alloc _
        have hz : (wr.alloc (.cells #[.int .i64 (kindOf x.1.k : Nat), .int .i64 x.1.n, .string (ofL x.1.a), .string (ofL x.1.sel), .string (ofL x.1.b), .pointer (some ⟨pl k, 0, none⟩)] 92)).heap[wr.heap.size]? = some (.cells #[.int .i64 (kindOf x.1.k : Nat), .int .i64 x.1.n, .string (ofL x.1.a), .string (ofL x.1.sel), .string (ofL x.1.b), .pointer (some ⟨pl k, 0, none⟩)] 92) := (MapKept.heap_alloc wr _).1
        have hb0 : (wr.alloc (.cells #[.int .i64 (kindOf x.1.k : Nat), .int .i64 x.1.n, .string (ofL x.1.a), .string (ofL x.1.sel), .string (ofL x.1.b), .pointer (some ⟨pl k, 0, none⟩)] 92)).cell? ⟨b, 5, none⟩ = some (.map (some sb)) := by go_keep
        have HN : Hid (SndAt (wr.alloc (.cells #[.int .i64 (kindOf x.1.k : Nat), .int .i64 x.1.n, .string (ofL x.1.a), .string (ofL x.1.sel), .string (ofL x.1.b), .pointer (some ⟨pl k, 0, none⟩)] 92)) sb l ps ∧ Chg (w.setCell ⟨m, 1, none⟩ (.int .i64 (Go.RowKit.wrap64 (h + 1)))) (wr.alloc (.cells #[.int .i64 (kindOf x.1.k : Nat), .int .i64 x.1.n, .string (ofL x.1.a), .string (ofL x.1.sel), .string (ofL x.1.b), .pointer (some ⟨pl k, 0, none⟩)] 92)) (fun k => k = sb ∨ ∃ s, l0.lookup s = some (.map (some k)))) := ⟨HR.out.1.chg ((Chg.refl wr (fun _ => False)).alloc _) (fun h => h) (fun _ _ _ h => h) (fun _ _ _ _ _ h => h.elim), HR.out.2.2.2.alloc _⟩
        clear hwr hw hpl hs0 hbc hm hblk hx hsd hb m0 m1 mf hq hqr
        go_wp2_with fail
        clear c0 c1 c2 c3 c4 c5 hbr hbrl hgl
        revert HQ hz hb0 HN HB0
        generalize wr.alloc (.cells #[.int .i64 (kindOf x.1.k : Nat), .int .i64 x.1.n, .string (ofL x.1.a), .string (ofL x.1.sel), .string (ofL x.1.b), .pointer (some ⟨pl k, 0, none⟩)] 92) = W0
        generalize wr.heap.size = z
        intro HQ HB0 hz hb0 HN
        have z3 : W0.cell? ⟨z, 3, none⟩ = some (.string (ofL x.1.sel)) := by simp only [World.cell?, hz]; rfl
        have z5 : W0.cell? ⟨z, 5, none⟩ = some (.pointer (some ⟨pl k, 0, none⟩)) := by simp only [World.cell?, hz]; rfl
        have HZ : Hid (Cel W0 z ∧ Cel W0 b) := ⟨⟨_, _, hz⟩, HB0.out⟩
        clear hz
        cases hl : l.lookup (ofL x.1.sel) with
        | some v =>
          obtain ⟨ib, rfl, _, _⟩ := HN.out.1.inn _ v hl
          have lk : (Instr.lookup 38 (.map (some sb)) (.string (ofL x.1.sel)) false).run Tryd.prog W0.drew = .ok (.map (some ib)) W0.drew := by rw [lookup_snd W0.drew sb l HN.out.1.drew.map, hl]; rfl
          have eq1 := eql_set_some ib
          go_region
          go_wp2_with fail
          have lk2 : (Instr.lookup 38 (.map (some sb)) (.string (ofL x.1.sel)) false).run Tryd.prog W0.drew.drew = .ok (.map (some ib)) W0.drew.drew := by rw [lookup_snd W0.drew.drew sb l HN.out.1.drew.drew.map, hl]; rfl
          obtain ⟨W', ps', hrun, hsn', hreg', hg'⟩ := snd_old HN.out.1.drew.drew hl (HQ.out.same rfl) (.agg #[])
          unfold pkey at hrun
          clear lk
          go_region
          have HW : Hid (SndAt W' sb l ps' ∧ (∀ t r, Reg l ps' t r ↔ Reg l ps t r ∨ t = ofL x.1.sel ∧ r = pl k) ∧ W0.grownBy W' (some ib) ∧ l.lookup (ofL x.1.sel) = some (.map (some ib))) := ⟨hsn', hreg', ⟨hg'.os, hg'.tape, hg'.output, hg'.size, hg'.block⟩, hl⟩
          clear hsn' hreg' hg' hl hrun lk2 z3 z5 hb0
          go_wp2
          go_roundw
          case rel =>
            obtain ⟨_, hnew, hreg, _⟩ := HR.out
            obtain ⟨_, hch⟩ := HN.out
            obtain ⟨hsn', hreg', hg', hl⟩ := HW.out
            refine ⟨k + 1, l, ps', by go_num, by omega, hsn', hnew, step_reg HX.out HS.out hreg hreg', hch.then (Chg.of_grown hg') (fun j hj e => ?_)⟩
            subst e
            rcases hnew _ _ hl with h1 | h1
            · exact .inr ⟨_, h1⟩
            · simp only [World.setCell, Array.size_modify] at hj; omega
          case measure => simp [intOf] <;> omega
        | none =>
          have lk : (Instr.lookup 38 (.map (some sb)) (.string (ofL x.1.sel)) false).run Tryd.prog W0.drew = .ok (.map none) W0.drew := by rw [lookup_snd W0.drew sb l HN.out.1.drew.map, hl]; rfl
          have eq1 := eql_set_none
          go_region
          clear lk eq1
          go_wp2_with fail
          have HN1 : Hid (SndAt W0.drew sb l ps ∧ Chg (w.setCell ⟨m, 1, none⟩ (.int .i64 (Go.RowKit.wrap64 (h + 1)))) W0.drew (fun k => k = sb ∨ ∃ s, l0.lookup s = some (.map (some k))) ∧ Cel W0.drew (pl k) ∧ Cel W0.drew z ∧ Cel W0.drew b) := ⟨HN.out.1.drew, HN.out.2.drew, HQ.out.same rfl, HZ.out.1.same rfl, HZ.out.2.same rfl⟩
          have z3' : W0.drew.cell? ⟨z, 3, none⟩ = some (.string (ofL x.1.sel)) := z3
          have z5' : W0.drew.cell? ⟨z, 5, none⟩ = some (.pointer (some ⟨pl k, 0, none⟩)) := z5
          have hb' : W0.drew.cell? ⟨b, 5, none⟩ = some (.map (some sb)) := hb0
          clear z3 z5 hb0 HN HQ HZ
          revert HN1 z3' z5' hb'
          generalize W0.drew = W1
          intro HN1 z3 z5 hb0
          obtain ⟨W2, hrun, hsn2, hreg2, hg2⟩ := snd_new (W := (W1.alloc (.map #[] 0)).drew) (nb := W1.heap.size) ((HN1.out.1.chg ((Chg.refl W1 (fun _ => False)).alloc (.map #[] 0)) (fun h => h) (fun _ _ _ h => h) (fun _ _ _ _ _ h => h.elim)).drew) hl (MapKept.heap_alloc W1 _).1
            (fun t e => by obtain ⟨jb, e1, e2, _⟩ := HN1.out.1.inn t _ e; injection e1 with e1; injection e1 with e1; have := e2.lt; omega) (by have := HN1.out.1.map.lt; omega)
          have hmm := @run_makeMap Tryd.prog
          have zl := World.block_lt_of_cell? W1 ⟨z, 3, none⟩ z3
          have bl' := World.block_lt_of_cell? W1 ⟨b, 5, none⟩ hb0
          have z3a : (W1.alloc (.map #[] 0)).drew.cell? ⟨z, 3, none⟩ = some (.string (ofL x.1.sel)) := by go_keep
          have hba : (W1.alloc (.map #[] 0)).drew.cell? ⟨b, 5, none⟩ = some (.map (some sb)) := by go_keep
          go_region
          have hcel : ∀ j, Cel W1 j → W2.heap[j]? = W1.heap[j]? := fun j hj => (hg2.block j (by show j < (W1.alloc _).heap.size; simp; have := hj.lt; omega) (fun e => by injection e with e; exact cel_ne_map hj HN1.out.1.map e)).trans (Below.heap_alloc W1 _ j hj.lt)
          have z3' : W2.cell? ⟨z, 3, none⟩ = some (.string (ofL x.1.sel)) := (World.cell?_of_block (a := ⟨z, 3, none⟩) (hcel z HN1.out.2.2.2.1)).trans z3
          have z5' : W2.cell? ⟨z, 5, none⟩ = some (.pointer (some ⟨pl k, 0, none⟩)) := (World.cell?_of_block (a := ⟨z, 5, none⟩) (hcel z HN1.out.2.2.2.1)).trans z5
          have hb' : W2.cell? ⟨b, 5, none⟩ = some (.map (some sb)) := (World.cell?_of_block (a := ⟨b, 5, none⟩) (hcel b HN1.out.2.2.2.2)).trans hb0
          have hq2 : Cel W2 (pl k) := HN1.out.2.2.1.same (hcel _ HN1.out.2.2.1)
          have hch2 : Chg (w.setCell ⟨m, 1, none⟩ (.int .i64 (Go.RowKit.wrap64 (h + 1)))) W2 (fun k => k = sb ∨ ∃ s, l0.lookup s = some (.map (some k))) := ((HN1.out.2.1.alloc (.map #[] 0)).then (Chg.of_grown ⟨hg2.os, hg2.tape, hg2.output, hg2.size, hg2.block⟩) (fun j _ e => .inl e))
          have hl2 : (put l (ofL x.1.sel) (.map (some W1.heap.size))).lookup (ofL x.1.sel) = some (.map (some W1.heap.size)) := by rw [lookup_put, if_pos rfl]
          have hnb : w.heap.size ≤ W1.heap.size := by have := HN1.out.2.1.size; simp only [World.setCell, Array.size_modify] at this; exact this
          have HN2 : Hid (SndAt W2 sb (put l (ofL x.1.sel) (.map (some W1.heap.size))) (fun k => if k = W1.heap.size then [] else ps k)) := hsn2
          have HR2 : Hid (∀ t r, Reg (put l (ofL x.1.sel) (.map (some W1.heap.size))) (fun k => if k = W1.heap.size then [] else ps k) t r ↔ Reg l ps t r) := hreg2
          have HC2 : Hid (Chg (w.setCell ⟨m, 1, none⟩ (.int .i64 (Go.RowKit.wrap64 (h + 1)))) W2 (fun k => k = sb ∨ ∃ s, l0.lookup s = some (.map (some k)))) := hch2
          clear z3 z5 hb0 HN1 hcel hsn2 hreg2 hg2 hrun z3a hba zl bl' hch2
          go_wp2_with fail
          have lk2 : (Instr.lookup 38 (.map (some sb)) (.string (ofL x.1.sel)) false).run Tryd.prog W2.drew = .ok (.map (some W1.heap.size)) W2.drew := by rw [lookup_snd W2.drew sb _ HN2.out.drew.map, hl2]; rfl
          obtain ⟨W', ps', hrun, hsn', hreg', hg'⟩ := snd_old HN2.out.drew hl2 (hq2.same rfl) (.agg #[])
          unfold pkey at hrun
          go_region
          have HW : Hid (SndAt W' sb (put l (ofL x.1.sel) (.map (some W1.heap.size))) ps' ∧ (∀ t r, Reg (put l (ofL x.1.sel) (.map (some W1.heap.size))) ps' t r ↔ Reg (put l (ofL x.1.sel) (.map (some W1.heap.size))) (fun k => if k = W1.heap.size then [] else ps k) t r ∨ t = ofL x.1.sel ∧ r = pl k) ∧ W2.grownBy W' (some W1.heap.size)) := ⟨hsn', hreg', ⟨hg'.os, hg'.tape, hg'.output, hg'.size, hg'.block⟩⟩
          clear hsn' hreg' hg' hrun lk2 z3' z5' hb' hq2 hl2
          go_wp2
          go_roundw
          case rel =>
            obtain ⟨_, hnew, hreg, _⟩ := HR.out
            obtain ⟨hsn', hreg', hg'⟩ := HW.out
            refine ⟨k + 1, _, ps', by go_num, by omega, hsn', fun s ib hs => ?_, step_reg HX.out HS.out hreg (fun t r => by rw [hreg' t r, HR2.out t r]), HC2.out.then (Chg.of_grown hg') (fun j hj e => ?_)⟩
            · rw [lookup_put] at hs
              by_cases e : s = ofL x.1.sel
              · rw [if_pos e] at hs
                have := mapv_inj hs
                exact .inr (by omega)
              · rw [if_neg e] at hs
                exact hnew s ib hs
            · subst e
              simp only [World.setCell, Array.size_modify] at hj
              omega
          case measure => simp [intOf] <;> omega
    · obtain rfl : k = ws.length := by omega
      clear hblk hw hpl hs0 hbc hbr hb m0 m1 mf
      go_wp2
      go_end0
      obtain ⟨hsn, hnew, hreg, hch⟩ := HR.out
      refine ⟨rfl, l, ps, hsn, hnew, fun s q => ?_, ?_, ?_⟩
      · rw [hreg s q]
        refine or_congr Iff.rfl ⟨?_, ?_⟩
        · rintro ⟨i, y, hi, h⟩; exact ⟨i, y, h⟩
        · rintro ⟨i, y, hy, h⟩; exact ⟨i, y, (List.getElem?_eq_some_iff.1 hy).1, hy, h⟩
      · obtain ⟨_, _, hs0, _, hm⟩ := HI.out
        have hmc : Cel w m := ⟨_, _, hm⟩
        refine (hch.block m (by simp only [World.setCell, Array.size_modify]; exact hml) (fun e => ?_)).trans ?_
        · rcases e with e | ⟨t, e⟩
          · exact cel_ne_map hmc hs0.map e
          · obtain ⟨ib, e1, e2, _⟩ := hs0.inn t _ e
            injection e1 with e1; injection e1 with e1
            subst e1
            exact cel_ne_set hmc e2 rfl
        · simp only [World.setCell, Array.getElem?_modify, if_pos, hm]; rfl
      · exact ((Chg.refl w _).setCell ⟨m, 1, none⟩ _ (fun _ => .inl rfl)).then hch (fun j _ e => .inr e)

end Go.Proofs.YtkghmgoefiepeaaDoor.reads

/- kin: a class is given a method by a selector that it had none by. -/
namespace Go.Proofs.YtkghmgoefiepeaaDoor.reads
open Go.ChangeShapes Go.WideShapes Go.ChangeAt Go.RowKit Kn Go.Proofs.YtkghmgoefiepeaaDoor.img
set_option linter.unusedSimpArgs false
set_option linter.unusedVariables false

theorem lookup_mth (w : World) (cm : Nat) (l : List (ByteArray × Value)) (h : SMap w cm l) (s : ByteArray) : (Instr.lookup 62 (.map (some cm)) (.string s) false).run Tryd.prog w = .ok ((l.lookup s).getD (.pointer none)) w :=
  run_lookup h.str Tryd.underlying62 Tryd.underlying9 (Tryd.zeroValue42 w) s

set_option maxHeartbeats 1000000 in
set_option maxRecDepth 100000 in
theorem give_new (b c cm m sb g cap : Nat) (p : Option Addr) (ws : List (W × Nat)) (pl : Nat → Nat) (lm l0 : List (ByteArray × Value)) (ps0 : Nat → List Nat) (h : Int) (sel : ByteArray) (w : World) (R : World → Prop) (hn : ws.length ≤ 40) (hh : Go.RowKit.wrap64 (h + 1) ≤ 1)
    (hc : w.cell? ⟨c, 4, none⟩ = some (.map (some cm))) (hcc : Cel w c) (hlm : SMap w cm lm) (hno : lm.lookup sel = none) (hcs : cm ≠ sb) (hci : ∀ s, l0.lookup s ≠ some (.map (some cm)))
    (hb : w.cell? ⟨b, 5, none⟩ = some (.map (some sb))) (hbc : Cel w b) (hm : w.heap[m]? = some (.cells #[.slice p ws.length cap, .int .i64 h] 112)) (hbm : b ≠ m) (hcm : c ≠ m) (hgm : 1 ≤ ws.length → g ≠ m)
    (hw : MAt w p g ws pl ws.length) (hpl : ∀ i x, ws[i]? = some x → sendsW x.1 = true → Cel w (pl i)) (hs : SndAt w sb l0 ps0)
    (chg : ∀ (w2 : World) (l : List (ByteArray × Value)) (ps : Nat → List Nat), SMap w2 cm (put lm sel (.pointer (some ⟨m, 0, none⟩))) → SndAt w2 sb l ps →
      (∀ s ib, l.lookup s = some (.map (some ib)) → l0.lookup s = some (.map (some ib)) ∨ w.heap.size ≤ ib) →
      (∀ s q, Reg l ps s q ↔ Reg l0 ps0 s q ∨ ∃ i x, ws[i]? = some x ∧ sendsW x.1 = true ∧ ofL x.1.sel = s ∧ q = pl i) →
      w2.heap[m]? = some (.cells #[.slice p ws.length cap, .int .i64 (Go.RowKit.wrap64 (h + 1))] 112) → Chg w w2 (fun k => k = cm ∨ k = m ∨ k = sb ∨ ∃ s, l0.lookup s = some (.map (some k))) →
      Calls Tryd.prog 42 #[.pointer (some ⟨b, 0, none⟩), .pointer (some ⟨c, 0, none⟩), .string sel] w2 fun e w' => e = .returned (.tuple #[]) ∧ R w') :
    Calls Tryd.prog 22 #[.pointer (some ⟨b, 0, none⟩), .pointer (some ⟨c, 0, none⟩), .string sel, .pointer (some ⟨m, 0, none⟩)] w fun e w' => e = .returned (.tuple #[]) ∧ R w' := by
  have lk := lookup_mth w cm lm hlm sel
  rw [hno] at lk
  simp only [Option.getD_none] at lk
  obtain ⟨w1, hrun, hm1, hg1, hsz1⟩ := run_put (P := Tryd.prog) hlm Tryd.underlying62 Tryd.underlying9 sel (.pointer (some ⟨m, 0, none⟩))
  have keep : ∀ k, Cel w k → w1.heap[k]? = w.heap[k]? := fun k hk => hg1.block k hk.lt (fun e => by injection e with e; exact cel_ne_map hk hlm e)
  have hmc : Cel w m := ⟨_, _, hm⟩
  have hb1 : w1.cell? ⟨b, 5, none⟩ = some (.map (some sb)) := (World.cell?_of_block (a := ⟨b, 5, none⟩) (keep b hbc)).trans hb
  have hs1 : SndAt w1 sb l0 ps0 := hs.same (hg1.block sb hs.map.lt (fun e => by injection e with e; exact hcs e.symm)) (fun s ib hsib => by
    obtain ⟨jb, e1, e2, _⟩ := hs.inn s _ hsib
    injection e1 with e1; injection e1 with e1
    subst e1
    exact hg1.block ib e2.lt (fun e => by injection e with e; exact hci s (by rw [← e]; exact hsib))) (fun q hq => hq.same (keep q hq))
  have hw1 : MAt w1 p g ws pl ws.length := by
    by_cases h1 : 1 ≤ ws.length
    · exact hw.same (keep g (hw.cel h1))
    · have hno : ∀ (i : Nat) (x : W × Nat), ws[i]? ≠ some x := fun i x hx => by have := (List.getElem?_eq_some_iff.1 hx).1; omega
      exact ⟨fun h => absurd h h1, fun h => absurd h h1, fun i x hx => absurd hx (hno i x), fun i x hx => absurd hx (hno i x), fun i x hx => absurd hx (hno i x), fun i x hx => absurd hx (hno i x), fun i x hx => absurd hx (hno i x), fun i x hx => absurd hx (hno i x)⟩
  have hadd := addHome_first b m sb g cap p ws pl l0 ps0 h w1 hn hh hb1 (hbc.same (keep b hbc)) ((keep m hmc).trans hm) hbm hgm hw1 (fun i x hx hsx => (hpl i x hx hsx).same (keep _ (hpl i x hx hsx))) hs1
  have HX : Hid (SMap w1 cm (put lm sel (.pointer (some ⟨m, 0, none⟩))) ∧ w.grownBy w1 (some cm) ∧ SndAt w sb l0 ps0 ∧ Cel w m) := ⟨hm1, hg1, hs, hmc⟩
  have hmcm : m ≠ cm := cel_ne_map hmc hlm
  have HS : Hid (w1.heap.size = w.heap.size) := hsz1
  clear hm1 hg1 hlm hs hs1 hw1 hw hpl hb1 hb hm keep hmc hsz1
  go_enter Tryd.func22, Tryd.ntmps22
  go_wp2_with fail
  refine hadd.mono ?_
  rintro e w2 ⟨rfl, l, ps, hsn, hnew, hreg, hm2, hch⟩
  obtain ⟨hm1, hg1, hs, hmc⟩ := HX.out
  have hsz := HS.out
  have hcm2 : SMap w2 cm (put lm sel (.pointer (some ⟨m, 0, none⟩))) := hm1.same (hch.block cm hm1.lt (fun e => by
    rcases e with e | e | ⟨s, e⟩
    · exact hmcm e.symm
    · exact hcs e
    · exact hci s e))
  have hcall := chg w2 l ps hcm2 hsn (fun s ib hsib => by rcases hnew s ib hsib with h | h; exact .inl h; exact .inr (by omega)) hreg hm2 (((Chg.of_grown hg1).mono (fun k _ e => .inl e)).then hch (fun k _ e => .inr e))
  clear hm1 hg1 hs hmc hcm2 hnew hreg hm2 hch hsn
  go_wp2_with fail
  refine hcall.mono ?_
  rintro e w3 ⟨rfl, hR⟩
  go_wp2
  go_end0
  exact ⟨rfl, hR⟩

end Go.Proofs.YtkghmgoefiepeaaDoor.reads
