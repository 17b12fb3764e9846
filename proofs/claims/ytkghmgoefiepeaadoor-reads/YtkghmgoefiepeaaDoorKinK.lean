/- kin's readWords. -/
import Derived.Test.YtkghmgoefiepeaaDoorKinJ
import Derived.Test.YtkghmgoefiepeaaDoorRefH
import Derived.Test.YtkghmgoefiepeaaDoorJumps
import Derived.Test.YtkghmgoefiepeaaDoorSpecB
namespace Go.Proofs.YtkghmgoefiepeaaDoor.reads
open Go.ChangeShapes Go.WideShapes Go.ChangeAt Go.RowKit Kn
set_option linter.unusedSimpArgs false
set_option linter.unusedVariables false

def kcellsWs (l : List (Kn.W × Nat)) : List Value := l.flatMap fun p => kcells p.1
def startsOf (l : List (Kn.W × Nat)) : List Value := l.map fun p => .int .i64 (p.2 : Nat)
theorem kcellsWs_snoc (l : List (Kn.W × Nat)) (p : W × Nat) : kcellsWs (l ++ [p]) = kcellsWs l ++ kcells p.1 := by simp [kcellsWs]
theorem startsOf_snoc (l : List (Kn.W × Nat)) (p : W × Nat) : startsOf (l ++ [p]) = startsOf l ++ [.int .i64 (p.2 : Nat)] := by simp [startsOf]
theorem kcells_one (x : W) : ∀ u ∈ kcells x, u.oneCell' = true := by
  intro u hu
  simp only [kcells, List.mem_cons, List.not_mem_nil, or_false] at hu
  rcases hu with rfl | rfl | rfl | rfl | rfl | rfl <;> rfl
theorem info_kword : (Tryd.prog.info? 92).map (fun i => (i.zero, i.size, i.bytes)) = some (some (.agg #[.int .i64 0, .int .i64 0, .string ⟨#[]⟩, .string ⟨#[]⟩, .string ⟨#[]⟩, .pointer none]), 6, 72) := by kernel_rfl
theorem info_int : (Tryd.prog.info? 3).map (fun i => (i.zero, i.size, i.bytes)) = some (some (.int .i64 0), 1, 8) := by kernel_rfl

/-- Amid readWords: the reader, the word under way, the two lists. -/
structure Rw (w W : World) (s : ByteArray) (j : Nat) (aw as_ : List (Kn.W × Nat)) (vw vs : Value) : Prop where
  rd : RdAt W w.heap.size s j
  hu : ∃ y0 y1 y2 y3 y4, ZAt W (w.heap.size + 1) y0 y1 y2 y3 y4
  ow : W.ownsRow (w.heap.size + 2) 92 6 vw aw.length (kcellsWs aw)
  os : W.ownsRow (w.heap.size + 2) 3 1 vs as_.length (startsOf as_)
  ne : vw.ownBlock = none ∨ vs.ownBlock = none ∨ vw.ownBlock ≠ vs.ownBlock
  below : Below w.heap.size w W

theorem own_ne {W : World} {B k : Nat} {e : TypeId} {size n : Nat} {v : Value} {xs : List Value} (h : W.ownsRow B e size v n xs) (hk : k < B) : v.ownBlock = none ∨ v.ownBlock ≠ some k := by
  cases hv : v.ownBlock with
  | none => exact .inl rfl
  | some g => exact .inr (fun e => by injection e with e; have := (h.lt g hv).1; omega)
theorem own_mono {W : World} {B B' : Nat} {e : TypeId} {size n : Nat} {v : Value} {xs : List Value} (h : W.ownsRow B e size v n xs) (hB : B' ≤ B) : W.ownsRow B' e size v n xs := by
  refine ⟨h.1, ?_⟩
  rcases h.2 with h2 | ⟨g, cap, cur, h1, h2, h3⟩
  · exact .inl h2
  · exact .inr ⟨g, cap, cur, h1, Nat.le_trans hB h2, h3⟩

theorem Rw.to {w W W' : World} {s : ByteArray} {j j' : Nat} {aw as_ : List (Kn.W × Nat)} {vw vs : Value} (h : Rw w W s j aw as_ vw vs) (t : RTo W W' w.heap.size s j') : Rw w W' s j' aw as_ vw vs := by
  obtain ⟨y0, y1, y2, y3, y4, hy⟩ := h.hu
  exact ⟨t.rd, ⟨_, _, _, _, _, hy.to t (by omega)⟩, h.ow.kept t.grown (own_ne h.ow (by omega)), h.os.kept t.grown (own_ne h.os (by omega)), h.ne, h.below.grown t.grown h.below.size (fun k hk => by injection hk with hk; omega)⟩
theorem grown_set5 (W : World) (u : Nat) (y0 y1 y2 y3 y4 : Value) : W.grownBy ((((((W.setCell ⟨u, 0, none⟩ y0).setCell ⟨u, 1, none⟩ y1).setCell ⟨u, 2, none⟩ y2).setCell ⟨u, 3, none⟩ y3).setCell ⟨u, 4, none⟩ y4).setCell ⟨u, 5, none⟩ (.pointer none)) (some u) :=
  (((((grown_set W ⟨u, 0, none⟩ y0).trans (grown_set _ ⟨u, 1, none⟩ y1)).trans (grown_set _ ⟨u, 2, none⟩ y2)).trans (grown_set _ ⟨u, 3, none⟩ y3)).trans (grown_set _ ⟨u, 4, none⟩ y4)).trans (grown_set _ ⟨u, 5, none⟩ _)
theorem Rw.setU {w W : World} {s : ByteArray} {j : Nat} {aw as_ : List (Kn.W × Nat)} {vw vs : Value} (h : Rw w W s j aw as_ vw vs) (y0 y1 y2 y3 y4 : Value) :
    Rw w ((((((W.setCell ⟨w.heap.size + 1, 0, none⟩ y0).setCell ⟨w.heap.size + 1, 1, none⟩ y1).setCell ⟨w.heap.size + 1, 2, none⟩ y2).setCell ⟨w.heap.size + 1, 3, none⟩ y3).setCell ⟨w.heap.size + 1, 4, none⟩ y4).setCell ⟨w.heap.size + 1, 5, none⟩ (.pointer none)) s j aw as_ vw vs ∧
    ZAt ((((((W.setCell ⟨w.heap.size + 1, 0, none⟩ y0).setCell ⟨w.heap.size + 1, 1, none⟩ y1).setCell ⟨w.heap.size + 1, 2, none⟩ y2).setCell ⟨w.heap.size + 1, 3, none⟩ y3).setCell ⟨w.heap.size + 1, 4, none⟩ y4).setCell ⟨w.heap.size + 1, 5, none⟩ (.pointer none)) (w.heap.size + 1) y0 y1 y2 y3 y4 := by
  obtain ⟨z0, z1, z2, z3, z4, hz⟩ := h.hu
  have hg := grown_set5 W (w.heap.size + 1) y0 y1 y2 y3 y4
  have hz5 := hz.set5 y0 y1 y2 y3 y4
  exact ⟨⟨(hg.block _ h.rd.lt (fun e => by injection e with e; omega)).trans h.rd, ⟨_, _, _, _, _, hz5⟩, h.ow.kept hg (own_ne h.ow (by omega)), h.os.kept hg (own_ne h.os (by omega)), h.ne, h.below.grown hg h.below.size (fun k hk => by injection hk with hk; omega)⟩, hz5⟩
theorem Rw.pushW {w W W' : World} {s : ByteArray} {j : Nat} {aw as_ : List (Kn.W × Nat)} {vw vs v' : Value} {o : Obj} {x : Kn.W × Nat} (h : Rw w W s j aw as_ vw vs) (hown : W'.ownsRow (w.heap.size + 2) 92 6 v' (aw.length + 1) (kcellsWs aw ++ kcells x.1))
    (hg : (W.alloc o).grownBy W' vw.ownBlock) (hb : v'.ownBlock = vw.ownBlock ∨ v'.ownBlock = some (W.heap.size + 1)) : Rw w W' s j (aw ++ [x]) as_ v' vs := by
  obtain ⟨z0, z1, z2, z3, z4, hz⟩ := h.hu
  have hlow : ∀ k, k < w.heap.size + 2 → k < W.heap.size → W'.heap[k]? = W.heap[k]? := fun k hk hlt =>
    (hg.block k (by simp; omega) (fun e => by have := (h.ow.lt k e.symm).1; omega)).trans (Below.heap_alloc W o k hlt)
  have hos : W'.ownsRow (w.heap.size + 2) 3 1 vs as_.length (startsOf as_) := (h.os.alloc o).kept hg (by
    rcases h.ne with e | e | e
    · cases hv : vs.ownBlock with
      | none => exact .inl rfl
      | some g => rw [e]; exact .inr (by simp)
    · exact .inl e
    · exact .inr (fun e' => e e'.symm))
  refine ⟨(hlow _ (by omega) h.rd.lt).trans h.rd, ⟨_, _, _, _, _, (hlow _ (by omega) hz.lt).trans hz⟩, by rw [kcellsWs_snoc, List.length_append]; exact hown, hos, ?_, ?_⟩
  · rcases hb with e | e
    · rw [e]; exact h.ne
    · cases hv : vs.ownBlock with
      | none => exact .inr (.inl rfl)
      | some g =>
        have := (h.os.lt g hv).2
        refine .inr (.inr ?_)
        rw [e]
        intro e'
        injection e' with e'
        omega
  · exact push_below h.below (Nat.le_refl _) (own_mono h.ow (by omega)) hg
theorem Rw.pushS {w W W' : World} {s : ByteArray} {j : Nat} {aw as_ : List (Kn.W × Nat)} {vw vs v' : Value} {o : Obj} {x : Kn.W × Nat} (h : Rw w W s j aw as_ vw vs) (hown : W'.ownsRow (w.heap.size + 2) 3 1 v' (as_.length + 1) (startsOf as_ ++ [.int .i64 (x.2 : Nat)]))
    (hg : (W.alloc o).grownBy W' vs.ownBlock) (hb : v'.ownBlock = vs.ownBlock ∨ v'.ownBlock = some (W.heap.size + 1)) : Rw w W' s j aw (as_ ++ [x]) vw v' := by
  obtain ⟨z0, z1, z2, z3, z4, hz⟩ := h.hu
  have hlow : ∀ k, k < w.heap.size + 2 → k < W.heap.size → W'.heap[k]? = W.heap[k]? := fun k hk hlt =>
    (hg.block k (by simp; omega) (fun e => by have := (h.os.lt k e.symm).1; omega)).trans (Below.heap_alloc W o k hlt)
  have how : W'.ownsRow (w.heap.size + 2) 92 6 vw aw.length (kcellsWs aw) := (h.ow.alloc o).kept hg (by
    rcases h.ne with e | e | e
    · exact .inl e
    · cases hv : vw.ownBlock with
      | none => exact .inl rfl
      | some g => rw [e]; exact .inr (by simp)
    · exact .inr e)
  refine ⟨(hlow _ (by omega) h.rd.lt).trans h.rd, ⟨_, _, _, _, _, (hlow _ (by omega) hz.lt).trans hz⟩, how, by rw [startsOf_snoc, List.length_append]; exact hown, ?_, ?_⟩
  · rcases hb with e | e
    · rw [e]; exact h.ne
    · cases hv : vw.ownBlock with
      | none => exact .inl rfl
      | some g =>
        have := (h.ow.lt g hv).2
        refine .inr (.inr ?_)
        rw [e]
        intro e'
        injection e' with e'
        omega
  · exact push_below h.below (Nat.le_refl _) (own_mono h.os (by omega)) hg

/-- What holds at a jump, with n to go. -/
def RWJ (s : ByteArray) (w : World) (n l : Nat) (a : Act) (W : World) : Prop :=
  (l = 0 ∧ ∃ (j : Nat) (acc : List (Kn.W × Nat)) (vw vs x7 x10 x11 x12 x13 x14 x15 x16 x17 x18 x19 x20 x21 x22 x23 x24 x25 x26 x27 x28 x29 x30 x31 x32 x33 x34 x35 x36 x37 x38 x39 : Value), a = { tmps := #[.string s, undef, vw, vs, .int .i64 0, .pointer (some ⟨w.heap.size, 0, none⟩), .pointer (some ⟨w.heap.size + 1, 0, none⟩), x7, .string s, .agg #[.string s, .int .i64 0], x10, x11, x12, x13, x14, x15, x16, x17, x18, x19, x20, x21, x22, x23, x24, x25, x26, x27, x28, x29, x30, x31, x32, x33, x34, x35, x36, x37, x38, x39], defers := [] } ∧ j ≤ s.size ∧ n = s.size - j + 1 ∧ WordsTo (bl s) j acc ∧ Rw w W s j acc acc vw vs) ∨
  (l = 1 ∧ ∃ (j : Nat) (vw vs x10 x11 x12 x13 x14 x15 x16 x17 x18 x19 x20 x21 x22 x23 x24 x25 x26 x27 x28 x29 x30 x31 x32 x33 x34 x35 x36 x37 x38 x39 : Value), a = { tmps := #[.string s, undef, vw, vs, .int .i64 0, .pointer (some ⟨w.heap.size, 0, none⟩), .pointer (some ⟨w.heap.size + 1, 0, none⟩), .int .i64 (j : Nat), .string s, .agg #[.string s, .int .i64 0], x10, x11, x12, x13, x14, x15, x16, x17, x18, x19, x20, x21, x22, x23, x24, x25, x26, x27, x28, x29, x30, x31, x32, x33, x34, x35, x36, x37, x38, x39], defers := [] } ∧ n = 0 ∧ wordsAll (bl s) = ([], (j : Int)) ∧ Below w.heap.size w W)
theorem rwj_zero {s : ByteArray} {w W : World} {j : Nat} {acc : List (Kn.W × Nat)} {vw vs x7 x10 x11 x12 x13 x14 x15 x16 x17 x18 x19 x20 x21 x22 x23 x24 x25 x26 x27 x28 x29 x30 x31 x32 x33 x34 x35 x36 x37 x38 x39 : Value} (hj : j ≤ s.size) (hw : WordsTo (bl s) j acc) (h : Rw w W s j acc acc vw vs) : RWJ s w (s.size - j + 1) 0 { tmps := #[.string s, undef, vw, vs, .int .i64 0, .pointer (some ⟨w.heap.size, 0, none⟩), .pointer (some ⟨w.heap.size + 1, 0, none⟩), x7, .string s, .agg #[.string s, .int .i64 0], x10, x11, x12, x13, x14, x15, x16, x17, x18, x19, x20, x21, x22, x23, x24, x25, x26, x27, x28, x29, x30, x31, x32, x33, x34, x35, x36, x37, x38, x39], defers := [] } W :=
  .inl ⟨rfl, j, acc, vw, vs, x7, x10, x11, x12, x13, x14, x15, x16, x17, x18, x19, x20, x21, x22, x23, x24, x25, x26, x27, x28, x29, x30, x31, x32, x33, x34, x35, x36, x37, x38, x39, rfl, hj, rfl, hw, h⟩
theorem rwj_one {s : ByteArray} {w W : World} {j : Nat} {vw vs x10 x11 x12 x13 x14 x15 x16 x17 x18 x19 x20 x21 x22 x23 x24 x25 x26 x27 x28 x29 x30 x31 x32 x33 x34 x35 x36 x37 x38 x39 : Value} (hz : wordsAll (bl s) = ([], (j : Int))) (h : Below w.heap.size w W) : RWJ s w 0 1 { tmps := #[.string s, undef, vw, vs, .int .i64 0, .pointer (some ⟨w.heap.size, 0, none⟩), .pointer (some ⟨w.heap.size + 1, 0, none⟩), .int .i64 (j : Nat), .string s, .agg #[.string s, .int .i64 0], x10, x11, x12, x13, x14, x15, x16, x17, x18, x19, x20, x21, x22, x23, x24, x25, x26, x27, x28, x29, x30, x31, x32, x33, x34, x35, x36, x37, x38, x39], defers := [] } W :=
  .inr ⟨rfl, j, vw, vs, x10, x11, x12, x13, x14, x15, x16, x17, x18, x19, x20, x21, x22, x23, x24, x25, x26, x27, x28, x29, x30, x31, x32, x33, x34, x35, x36, x37, x38, x39, rfl, rfl, hz, h⟩
theorem rw_start {w : World} {s : ByteArray} {y0 y1 y2 y3 y4 : Value} : Rw w ((w.alloc (.cells #[.string s, .int .i64 0] 86)).alloc (.cells #[y0, y1, y2, y3, y4, .pointer none] 92)) s 0 [] [] (.slice none 0 0) (.slice none 0 0) :=
  have e : (w.alloc (.cells #[.string s, .int .i64 0] 86)).heap.size = w.heap.size + 1 := World.size_alloc w _
  ⟨(rd_new_at w s).alloc _, ⟨_, _, _, _, _, e ▸ zat_new _ y0 y1 y2 y3 y4⟩, World.ownsRow_nil _ _ _ _, World.ownsRow_nil _ _ _ _, .inl rfl, ((Below.refl _ _).alloc (Nat.le_refl _) _).alloc (by simp) _⟩
theorem kind_pos {x : W} (h : Fine0 x) : kindOf x.k ≠ 0 := by
  have hk := h.kind
  unfold kinds at hk
  simp only [List.mem_cons, List.not_mem_nil, or_false] at hk
  rcases hk with e | e | e | e | e | e | e | e | e | e | e | e | e | e | e | e | e | e | e | e | e | e <;> rw [e] <;> decide
theorem atEnd_iff {l : List UInt8} {j n : Nat} (hn : n ≤ (l.drop j).length) (hj : j ≤ l.length) : (n = (l.drop j).length ∨ (l.drop j)[n]? = some 32) ↔ atEndB l (j + n) = true := by
  rw [List.length_drop] at hn ⊢
  rw [List.getElem?_drop]
  unfold atEndB
  simp only [Bool.or_eq_true, decide_eq_true_eq]
  constructor
  · rintro (h | h)
    · exact .inl (by omega)
    · exact .inr h
  · rintro (h | h)
    · exact .inl (by omega)
    · exact .inr h

set_option maxHeartbeats 4000000 in
set_option maxRecDepth 100000 in
theorem readWords_any (s : ByteArray) (w : World) (hs : s.size ≤ 120) (hg1 : 2 < w.heap.size) (hg2 : 1 < w.heap.size) (hT1 : HasPlains w) (hT2 : HasHeads w) :
    Calls Tryd.prog 18 #[.string s] w fun e w' => ∃ vw vs : Value, e = .returned (.tuple #[vw, vs, .int .i64 (wordsAll (bl s)).2]) ∧
      ((wordsAll (bl s)).2 = -1 → w'.ownsRow w.heap.size 92 6 vw (wordsAll (bl s)).1.length (kcellsWs (wordsAll (bl s)).1) ∧ w'.ownsRow w.heap.size 3 1 vs (wordsAll (bl s)).1.length (startsOf (wordsAll (bl s)).1)) ∧ Below w.heap.size w w' := by
  obtain ⟨i0, hi, hz0, hz1, hz2⟩ := info_parts info_kword
  obtain ⟨i1, hj, hy0, hy1, hy2⟩ := info_parts info_int
  have P1 : Hid (HasPlains w) := hT1
  have P2 : Hid (HasHeads w) := hT2
  have hs2 : s.size ≤ 140737488355328 := by omega
  clear hT1 hT2
  go_enter Tryd.func18, Tryd.ntmps18
  go_wp2
  refine wp_scope_from (RWJ s w) ?_ ?_
  · intro n0 l a W hJ G HR HG
    rcases hJ with ⟨rfl, j, acc, vw, vs, x7, x10, x11, x12, x13, x14, x15, x16, x17, x18, x19, x20, x21, x22, x23, x24, x25, x26, x27, x28, x29, x30, x31, x32, x33, x34, x35, x36, x37, x38, x39, rfl, hjs, rfl, hwt, hrw⟩ | ⟨rfl, j, vw, vs, x10, x11, x12, x13, x14, x15, x16, x17, x18, x19, x20, x21, x22, x23, x24, x25, x26, x27, x28, x29, x30, x31, x32, x33, x34, x35, x36, x37, x38, x39, rfl, rfl, hz, hb⟩
    · refine ⟨_, rfl, ?_⟩
      have HRw : Hid (Rw w W s j acc acc vw vs) := hrw
      have HW : Hid (WordsTo (bl s) j acc) := hwt
      clear hrw hwt
      go_wp2_with fail
      by_cases hlt : j < s.size
      · have hg := bl_getD s j hlt
        have hdn : (bl s).drop j ≠ [] := by intro e; have := congrArg List.length e; rw [List.length_drop, bl_length] at this; simp at this; omega
        by_cases h32 : s[j].toNat = 32
        · have HB : Hid ((bl s)[j]?.getD 0 = 32) := by
            have hx : (bl s)[j]?.getD 0 = 32 := by rw [hg]; exact UInt8.toNat_inj.1 (by rw [h32]; rfl)
            exact hx
          refine (take_yes w.heap.size s j 32 _ hs2 hlt h32 HRw.out.rd).mono ?_
          rintro e W1 ⟨rfl, hto⟩
          have H1 : Hid (Rw w W1 s (j + 1) acc acc vw vs) := HRw.out.to hto
          have HN : Hid (WordsTo (bl s) (j + 1) acc) := wordsTo_blank HW.out (by rw [bl_length]; exact hlt) HB.out
          clear hto hg h32 hdn
          go_wp2
          go_step3
          simp only [Exit.then]
          exact HG.out (s.size - (j + 1) + 1) 0 _ _ (by omega) (rwj_zero (by omega) HN.out H1.out)
        · have HB : Hid (¬ (bl s)[j]?.getD 0 = 32) := by
            have hx : ¬ (bl s)[j]?.getD 0 = 32 := by rw [hg]; intro e; exact h32 (by rw [e]; rfl)
            exact hx
          have HD : Hid ((bl s).drop j ≠ []) := hdn
          refine (take_no w.heap.size s j 32 _ hs2 (by omega) (fun _ => h32) HRw.out.rd).mono ?_
          rintro e W1 ⟨rfl, hto⟩
          have H1 : Hid (Rw w W1 s j acc acc vw vs) := HRw.out.to hto
          have d1 := H1.out.rd.c1
          obtain ⟨p, cap, rfl⟩ := own_len H1.out.ow
          have tne : ((j : Int) == s.size) = false := by simp; omega
          clear hto hg h32 hdn
          by_cases h40 : acc.length = 40
          · have HZ : Hid (wordsAll (bl s) = ([], (j : Int))) := wordsTo_full HW.out (by rw [bl_length]; exact hlt) HB.out h40
            have t40 : ((acc.length : Int) == 40) = true := by simp; omega
            clear h40
            go_wp2
            go_step3
            simp only [Exit.then]
            exact HG.out 0 1 _ _ (by omega) (rwj_one HZ.out H1.out.below)
          · have t40 : ((acc.length : Int) == 40) = false := by simp; omega
            have H40 : Hid (¬ acc.length = 40) := h40
            clear h40
            go_wp2_with fail
            refine (word_any w.heap.size s j _ hs2 hlt hg1 hg2 (P1.out.below hg1 H1.out.below) (P2.out.below hg2 H1.out.below) H1.out.rd).mono ?_
            rintro e W2 ⟨rfl, j2, hj2, hto, hjn⟩
            have H2 : Hid (Rw w W2 s j2 acc acc (.slice p acc.length cap) vs) := H1.out.to hto
            clear hto d1
            cases hk : kw ((bl s).drop j) with
            | none =>
              have HZ : Hid (wordsAll (bl s) = ([], (j : Int))) := wordsTo_bad HW.out (by rw [bl_length]; exact hlt) HB.out (tok_none HD.out hk)
              simp only [encK]
              obtain ⟨q0, q1, q2, q3, q4, hz⟩ := H2.out.hu
              have u0 := hz.c0
              have u1 := hz.c1
              have u2 := hz.c2
              have u3 := hz.c3
              have u4 := hz.c4
              have u5 := hz.c5
              have uf := hz.f
              have HF : Hid _ := H2.out.setU (.int .i64 0) (.int .i64 0) (.string (ofL [])) (.string (ofL [])) (.string (ofL []))
              clear hk hjn hz
              go_wp2
              go_step3
              simp only [Exit.then]
              exact HG.out 0 1 _ _ (by omega) (rwj_one HZ.out HF.out.1.below)
            | some q =>
              obtain ⟨x, n⟩ := q
              obtain rfl : j2 = j + n := hjn x n hk
              have hnl := kw_le HD.out hk
              have hpos := kind_pos (kw_fine HD.out hk)
              have tk : (((kindOf x.k : Nat) : Int) == 0) = false := by simp; omega
              have HA : Hid ((n = ((bl s).drop j).length ∨ ((bl s).drop j)[n]? = some 32) ↔ atEndB (bl s) (j + n) = true) := atEnd_iff hnl (by rw [bl_length]; omega)
              have HK : Hid (kw ((bl s).drop j) = some (x, n)) := hk
              rw [List.length_drop, bl_length] at hnl
              simp only [encK]
              obtain ⟨q0, q1, q2, q3, q4, hz⟩ := H2.out.hu
              have u0 := hz.c0
              have u1 := hz.c1
              have u2 := hz.c2
              have u3 := hz.c3
              have u4 := hz.c4
              have u5 := hz.c5
              have uf := hz.f
              have hu9 := H2.out.setU (.int .i64 (kindOf x.k : Nat)) (.int .i64 x.n) (.string (ofL x.a)) (.string (ofL x.sel)) (.string (ofL x.b))
              clear hk hjn hz hpos
              go_upto_region 10 with fail
              revert hu9
              generalize ((((((W2.setCell ⟨w.heap.size + 1, 0, none⟩ (.int .i64 (kindOf x.k : Nat))).setCell ⟨w.heap.size + 1, 1, none⟩ (.int .i64 x.n)).setCell ⟨w.heap.size + 1, 2, none⟩ (.string (ofL x.a))).setCell ⟨w.heap.size + 1, 3, none⟩ (.string (ofL x.sel))).setCell ⟨w.heap.size + 1, 4, none⟩ (.string (ofL x.b))).setCell ⟨w.heap.size + 1, 5, none⟩ (.pointer none)) = W3
              rintro ⟨hrw3, hz3⟩
              have H3 : Hid (Rw w W3 s (j + n) acc acc (.slice p acc.length cap) vs) := hrw3
              have HZ3 : Hid (ZAt W3 (w.heap.size + 1) (.int .i64 (kindOf x.k : Nat)) (.int .i64 x.n) (.string (ofL x.a)) (.string (ofL x.sel)) (.string (ofL x.b))) := hz3
              clear u0 u1 u2 u3 u4 u5 uf hrw3
              have u0 := hz3.c0
              clear hz3
              go_wp2_with fail
              refine (atEnd_any w.heap.size s (j + n) _ hs2 (by omega) H3.out.rd).mono ?_
              rintro e W4 ⟨rfl, hto⟩
              have H4 : Hid (Rw w W4 s (j + n) acc acc (.slice p acc.length cap) vs) := H3.out.to hto
              have hz4 := HZ3.out.to hto (by omega)
              clear hto u0
              cases he : atEndB (bl s) (j + n) with
              | false =>
                have HZ : Hid (wordsAll (bl s) = ([], (j : Int))) := wordsTo_bad HW.out (by rw [bl_length]; exact hlt) HB.out (tok_bad HD.out HK.out (fun h => by have := HA.out.1 h; rw [he] at this; cases this))
                clear he hz4
                go_wp2
                go_step3
                simp only [Exit.then]
                exact HG.out 0 1 _ _ (by omega) (rwj_one HZ.out H4.out.below)
              | true =>
                have hgood := tok_good HD.out HK.out (HA.out.2 he)
                have HN : Hid (WordsTo (bl s) (j + n) (acc ++ [(x, j)])) := by
                  have hx := wordsTo_word HW.out (by rw [bl_length]; exact hlt) HB.out hgood.1 H40.out
                  rw [hgood.2] at hx
                  exact hx
                have hn1 : 1 ≤ n := by have := tok_pos (bl s) j (by rw [bl_length]; exact hlt) HB.out; omega
                have u0 := hz4.c0
                have u1 := hz4.c1
                have u2 := hz4.c2
                have u3 := hz4.c3
                have u4 := hz4.c4
                have u5 := hz4.c5
                have hnews := cells_laid W4 (kcells x) 92
                have hal : acc.length ≤ 40 := HW.out.2.2
                have hsz4 : w.heap.size + 2 ≤ W4.heap.size := by have := hz4.lt; omega
                clear he hgood hz4
                go_wp2_with (first
                  | (at_builtin; refine wpList_append_own_at _ rfl _ _ 68 rfl (w.heap.size + 2) 92 i0 (.agg #[.int .i64 0, .int .i64 0, .string ⟨#[]⟩, .string ⟨#[]⟩, .string ⟨#[]⟩, .pointer none]) 6 72 Tryd.underlying68 hi hz0 hz1 hz2 rfl (by decide) _ _ _ rfl (H4.out.ow.alloc _) ⟨W4.heap.size, 0, none⟩ 1 1 (kcells x) rfl rfl hnews (kcells_one _) (by unfold maxLen; omega) (by omega) (by simp only [World.size_alloc]; omega) ?_)
                  | go_in)
                intro vw2 W5 hown2 hg5 _ hblk
                have H5 : Hid (Rw w W5 s (j + n) (acc ++ [(x, j)]) acc vw2 vs) := H4.out.pushW (x := (x, j)) hown2 hg5 hblk
                have hsz5 : w.heap.size + 2 ≤ W5.heap.size := by have := hg5.size; simp at this; omega
                have hnews2 := cells_laid W5 [.int .i64 (j : Nat)] 3
                clear hown2 hg5 hblk hnews u0 u1 u2 u3 u4 u5
                go_wp2_with (first
                  | (at_builtin; refine wpList_append_own_at _ rfl _ _ 69 rfl (w.heap.size + 2) 3 i1 (.int .i64 0) 1 8 Tryd.underlying69 hj hy0 hy1 hy2 rfl (by decide) _ _ _ rfl (H5.out.os.alloc _) ⟨W5.heap.size, 0, none⟩ 1 1 [.int .i64 (j : Nat)] rfl rfl hnews2 (by simp [Value.oneCell']) (by unfold maxLen; omega) (by omega) (by simp only [World.size_alloc]; omega) ?_)
                  | go_in)
                intro vs2 W6 hown3 hg6 _ hblk
                have H6 : Hid (Rw w W6 s (j + n) (acc ++ [(x, j)]) (acc ++ [(x, j)]) vw2 vs2) := H5.out.pushS (x := (x, j)) hown3 hg6 hblk
                clear hown3 hg6 hblk hnews2
                go_wp2
                go_step3
                simp only [Exit.then]
                exact HG.out (s.size - (j + n) + 1) 0 _ _ (by omega) (rwj_zero (by omega) HN.out H6.out)
      · obtain rfl : j = s.size := by omega
        refine (take_no w.heap.size s s.size 32 _ hs2 (by omega) (fun h => absurd h (by omega)) HRw.out.rd).mono ?_
        rintro e W1 ⟨rfl, hto⟩
        have H1 : Hid (Rw w W1 s s.size acc acc vw vs) := HRw.out.to hto
        have d1 := H1.out.rd.c1
        have HE : Hid (wordsAll (bl s) = (acc, -1)) := wordsTo_end HW.out (by rw [bl_length]; omega)
        clear hto
        go_wp2
        refine HR.out _ _ ?_
        go_ret3
        refine ⟨_, _, by rw [HE.out]; rfl, fun _ => ?_, H1.out.below⟩
        rw [HE.out]
        exact ⟨own_mono H1.out.ow (by omega), own_mono H1.out.os (by omega)⟩
    · refine ⟨_, rfl, ?_⟩
      have HZ : Hid (wordsAll (bl s) = ([], (j : Int))) := hz
      clear hz
      go_wp2
      refine HR.out _ _ ?_
      go_ret3
      refine ⟨_, _, by rw [HZ.out]; rfl, fun e => ?_, hb⟩
      rw [HZ.out] at e
      simp at e
  · intro G HG
    go_wp2
    go_step3
    simp only [Exit.then]
    refine ‹∀ (a : Act) (w : World), Code.wp _ _ _ a w → _› _ _ ?_
    exact HG.out _ 0 _ _ _ (rwj_zero (Nat.zero_le _) (wordsTo_start _) rw_start) rfl

end Go.Proofs.YtkghmgoefiepeaaDoor.reads
