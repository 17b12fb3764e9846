import Derived.Test.YtkghmgoefiepeaaDoorRefM
import Derived.Deep.Cut
import Derived.Maps.AppendAt
import Derived.Test.YtkghmgoefiepeaaDoorSpecA
/- kinref: an image's classes: New, class, slots. -/
namespace Go.Proofs.YtkghmgoefiepeaaDoor.reads
open Go.ChangeShapes Go.WideShapes Go.ChangeAt Go.RowKit Kn
set_option linter.unusedSimpArgs false
set_option linter.unusedVariables false

/-- A class of the document's image: its name, the number of the one above, its own slots, its methods. -/
structure Cl where
  name : ByteArray
  above : Int
  own : Int
  meths : Value
def clCells : List Cl → List Value
  | [] => []
  | x :: r => .string x.name :: .int .i64 x.above :: .int .i64 x.own :: x.meths :: clCells r
theorem clCells_len : ∀ l : List Cl, (clCells l).length = l.length * 4
  | [] => rfl
  | x :: r => by simp only [clCells, List.length_cons, clCells_len r]; omega
theorem clCells_append : ∀ (l r : List Cl), clCells (l ++ r) = clCells l ++ clCells r
  | [], r => rfl
  | x :: l, r => by simp only [List.cons_append, clCells, clCells_append l r]
theorem clCells_get : ∀ (l : List Cl) (i : Nat) (x : Cl) (c : Nat) (u : Value), l[i]? = some x → ([Value.string x.name, .int .i64 x.above, .int .i64 x.own, x.meths])[c]? = some u → (clCells l)[i * 4 + c]? = some u
  | [], i, x, c, u, h, _ => by simp at h
  | y :: r, 0, x, c, u, h, hc => by
    simp at h; subst h
    rw [Nat.zero_mul, Nat.zero_add]
    match c, hc with
    | 0, hc => simpa [clCells] using hc
    | 1, hc => simpa [clCells] using hc
    | 2, hc => simpa [clCells] using hc
    | 3, hc => simpa [clCells] using hc
    | c + 4, hc => simp at hc
  | y :: r, i + 1, x, c, u, h, hc => by
    have ih := clCells_get r i x c u (by simpa using h) hc
    rw [show (i + 1) * 4 + c = i * 4 + c + 4 from by omega]
    simpa [clCells] using ih

/-- An image of the document's at block b: its classes in a row of their own. -/
structure RIm (w : World) (B b : Nat) (vc : Value) (cl : List Cl) : Prop where
  lo : B ≤ b
  lt : b < w.heap.size
  head : w.cell? ⟨b, 0, none⟩ = some vc
  free : w.frozen? ⟨b, 0, none⟩ = false
  own : w.ownsRow B 56 4 vc cl.length (clCells cl)
  apart : vc.ownBlock ≠ some b

theorem RIm.below {w w' : World} {B b : Nat} {vc : Value} {cl : List Cl} (h : RIm w B b vc cl) (hb : Below w.heap.size w w') : RIm w' B b vc cl :=
  ⟨h.lo, Nat.lt_of_lt_of_le h.lt hb.size, (hb.cell (p := ⟨b, 0, none⟩) h.lt).trans h.head, (hb.frozen (p := ⟨b, 0, none⟩) h.lt).trans h.free, own_below h.own hb, h.apart⟩

structure ClAt (w : World) (p : Option Addr) (g : Nat) (cl : List Cl) : Prop where
  head : 1 ≤ cl.length → p = some ⟨g, 0, none⟩
  lt : 1 ≤ cl.length → g < w.heap.size
  c0 : ∀ i x, cl[i]? = some x → w.cell? ⟨g, i * 4, none⟩ = some (.string x.name)
  c1 : ∀ i x, cl[i]? = some x → w.cell? ⟨g, i * 4 + 1, none⟩ = some (.int .i64 x.above)
  c2 : ∀ i x, cl[i]? = some x → w.cell? ⟨g, i * 4 + 2, none⟩ = some (.int .i64 x.own)
  c3 : ∀ i x, cl[i]? = some x → w.cell? ⟨g, i * 4 + 3, none⟩ = some x.meths

theorem clAt_owns {w : World} {cl : List Cl} {B : Nat} {e : TypeId} {v : Value} (h : w.ownsRow B e 4 v cl.length (clCells cl)) : ∃ p g cap, v = .slice p cl.length cap ∧ ClAt w p g cl := by
  have hc := fun g hg => h.cells (g := g) hg
  rcases h.2 with ⟨rfl, h0⟩ | ⟨g, cap, cur, rfl, hb, hg, hn, _⟩
  · refine ⟨none, 0, 0, by rw [h0], ⟨fun e => by omega, fun e => by omega, ?_, ?_, ?_, ?_⟩⟩
    all_goals
      intro i x hx
      have := (List.getElem?_eq_some_iff.1 hx).1
      omega
  · have key : ∀ i x c u, cl[i]? = some x → ([Value.string x.name, .int .i64 x.above, .int .i64 x.own, x.meths])[c]? = some u → w.cell? ⟨g, i * 4 + c, none⟩ = some u := by
      intro i x c u hx hu
      have := hc g rfl (i * 4 + c) u (clCells_get cl i x c u hx hu)
      have hadd : (⟨g, 0, none⟩ : Addr).add (i * 4 + c) = ⟨g, i * 4 + c, none⟩ := by unfold Addr.add; split <;> simp_all
      rw [hadd] at this
      exact this
    exact ⟨some ⟨g, 0, none⟩, g, cap, rfl, ⟨fun _ => rfl, fun _ => (Array.getElem?_eq_some_iff.1 hg).1, fun i x hx => key i x 0 _ hx rfl, fun i x hx => key i x 1 _ hx rfl, fun i x hx => key i x 2 _ hx rfl, fun i x hx => key i x 3 _ hx rfl⟩⟩

theorem ba_ne2 {a b : ByteArray} (h : ¬ a = b) : (a.toList == b.toList) = false := by
  refine ba_ne (fun e => h ?_)
  rw [ByteArray.toList_eq] at e
  cases a; cases b
  congr 1
  exact Array.toList_inj.1 e

/-- The number of the class of that name; -1: there is none. -/
def IsClass (cl : List Cl) (s : ByteArray) (r : Int) : Prop := IsFirst (fun i => ∃ x, cl[i]? = some x ∧ x.name = s) cl.length r

set_option maxHeartbeats 1000000 in
theorem rclass_any (cl : List Cl) (s : ByteArray) (w : World) (B b : Nat) (vc : Value) (hs : s.size ≤ maxLen) (hn : ∀ x ∈ cl, x.name.size ≤ 100) (hl : cl.length ≤ 12) (h : RIm w B b vc cl) :
    Calls Tryd.prog 15 #[.pointer (some ⟨b, 0, none⟩), .string s] w fun e w' => ∃ r : Int, e = .returned (.int .i64 r) ∧ IsClass cl s r ∧ w' = w := by
  obtain ⟨p, g, cap, rfl, hat⟩ := clAt_owns h.own
  have c0 := h.head
  have HC : Hid (ClAt w p g cl) := hat
  clear h hat
  go_enter Tryd.func15, Tryd.ntmps15
  go_wp2
  go_loop [5] (fun i => ∃ k : Nat, i = .int .i64 k ∧ k ≤ cl.length ∧ ∀ j, j < k → ¬ ∃ x, cl[j]? = some x ∧ x.name = s) (fun i => cl.length - (intOf i).toNat)
  case atStart => exact ⟨0, rfl, by omega, fun j h => by omega⟩
  case round =>
    obtain ⟨k, rfl, hk, hno⟩ := hrel
    have HNo : Hid (∀ j, j < k → ¬ ∃ x, cl[j]? = some x ∧ x.name = s) := hno
    clear hno
    by_cases hkn : k < cl.length
    · obtain ⟨x, hx⟩ : ∃ x, cl[k]? = some x := ⟨_, List.getElem?_eq_getElem hkn⟩
      obtain rfl : p = some ⟨g, 0, none⟩ := HC.out.head (by omega)
      have d0 := HC.out.c0 k x hx
      have HX : Hid (cl[k]? = some x) := hx
      clear hx
      by_cases he : x.name = s
      · have te : (x.name.toList == s.toList) = true := by rw [he]; simp
        go_wp2
        go_ret
        exact ⟨k, rfl, .inr ⟨k, hkn, rfl, ⟨x, HX.out, he⟩, HNo.out⟩, rfl⟩
      · have te : (x.name.toList == s.toList) = false := ba_ne2 he
        go_wp2
        go_round
        case rel =>
          refine ⟨k + 1, by go_num, by omega, fun j hj => ?_⟩
          by_cases e : j = k
          · subst e
            rintro ⟨y, hy, hys⟩
            rw [HX.out] at hy
            injection hy with hy
            exact he (by rw [hy]; exact hys)
          · exact HNo.out j (by omega)
        case measure => simp [intOf] <;> omega
    · obtain rfl : k = cl.length := by omega
      go_wp2
      go_ret
      exact ⟨-1, rfl, .inl ⟨rfl, HNo.out⟩, rfl⟩

/-- How many slots an object of class c has (so many classes above at most). -/
def slotsN : Nat → List Cl → Int → Option Int
  | 0, _, c => if c < 0 then some 0 else none
  | f + 1, cl, c => if c < 0 then some 0 else match cl[c.toNat]? with
    | none => none
    | some x => (slotsN f cl x.above).map (x.own + ·)

set_option maxHeartbeats 1000000 in
theorem rslots_any (f : Nat) (cl : List Cl) (c n : Int) (w : World) (B b : Nat) (vc : Value) (hl : cl.length ≤ 12) (hc : c < 100) (hown : ∀ x ∈ cl, 0 ≤ x.own ∧ x.own ≤ 10 ∧ x.above < 100) (hf : f ≤ 20) (hn : slotsN f cl c = some n) (h : RIm w B b vc cl) :
    Calls Tryd.prog 16 #[.pointer (some ⟨b, 0, none⟩), .int .i64 c] w fun e w' => e = .returned (.int .i64 n) ∧ w' = w := by
  obtain ⟨p, g, cap, rfl, hat⟩ := clAt_owns h.own
  have c0 := h.head
  have HC : Hid (ClAt w p g cl) := hat
  have HO : Hid (∀ x ∈ cl, 0 ≤ x.own ∧ x.own ≤ 10 ∧ x.above < 100) := hown
  clear h hat hown
  have HN : Hid (slotsN f cl c = some n) := hn
  clear hn
  go_enter Tryd.func16, Tryd.ntmps16
  go_wp2
  go_loopg [1, 5] f (fun gk cv nv wr => ∃ (c' acc m : Int), cv = .int .i64 c' ∧ nv = .int .i64 acc ∧ slotsN gk cl c' = some m ∧ acc + m = n ∧ 0 ≤ acc ∧ acc ≤ 10 * (20 - (gk : Int)) ∧ gk ≤ 20 ∧ c' < 100 ∧ wr = w)
  case atStart => exact ⟨c, 0, n, rfl, rfl, HN.out, by omega, by omega, by omega, hf, hc, rfl⟩
  case round =>
    obtain ⟨c', acc, m, rfl, rfl, hs, hm, ha0, ha1, hg20, hc', rfl⟩ := hrel
    by_cases hneg : c' < 0
    · have hm0 : m = 0 := by
        cases gk <;> (unfold slotsN at hs; rw [if_pos hneg] at hs; injection hs with hs; exact hs.symm)
      subst hm0
      clear hs
      go_wp2
      go_ret
      exact ⟨by rw [← hm]; simp, rfl⟩
    · cases gk with
      | zero => unfold slotsN at hs; rw [if_neg hneg] at hs; cases hs
      | succ gk =>
        unfold slotsN at hs
        rw [if_neg hneg] at hs
        obtain ⟨q, rfl⟩ := Int.eq_ofNat_of_zero_le (by omega : 0 ≤ c')
        rw [Int.toNat_natCast] at hs
        cases hx : cl[q]? with
        | none => rw [hx] at hs; cases hs
        | some x =>
          rw [hx] at hs
          simp only at hs
          cases hr : slotsN gk cl x.above with
          | none => rw [hr] at hs; cases hs
          | some m' =>
            rw [hr] at hs
            simp at hs
            have hq : q < cl.length := (List.getElem?_eq_some_iff.1 hx).1
            have hxo := HO.out x (List.mem_of_getElem? hx)
            obtain ⟨ho0, ho10, hab⟩ := hxo
            obtain rfl : p = some ⟨g, 0, none⟩ := HC.out.head (by omega)
            have d1 := HC.out.c1 q x hx
            have d2 := HC.out.c2 q x hx
            have HR : Hid (slotsN gk cl x.above = some m') := hr
            clear hr hx
            go_wp2
            go_roundg gk
            case measure => omega
            case rel => exact ⟨x.above, acc + x.own, m', rfl, rfl, HR.out, by omega, by omega, by omega, by omega, hab, rfl⟩

/-- The document's image, new: Any, and Int below it. -/
def newCl : List Cl := [⟨⟨#[65, 110, 121]⟩, -1, 0, .slice none 0 0⟩, ⟨⟨#[73, 110, 116]⟩, 0, 0, .slice none 0 0⟩]

theorem rnew_28 (w : World) :
    Calls Tryd.prog 5 #[.int .i64 2, .int .i64 8] w fun e w' => ∃ b vc, e = .returned (.tuple #[.pointer (some ⟨b, 0, none⟩), .int .i64 0]) ∧ RIm w' w.heap.size b vc newCl ∧ Below w.heap.size w w' := by
  have h87 : bits .and .i64 8 7 = 0 := by decide
  go_enter Tryd.func5, Tryd.ntmps5
  go_wp2
  go_ret2
  refine ⟨w.heap.size + 1, .slice (some ⟨w.heap.size, 0, none⟩) 2 2, rfl, ?_, ((Below.refl _ _).alloc (Nat.le_refl _) _).alloc (by simp) _⟩
  have ho := (World.ownsRow_lit (base := w.heap.size) (e := 56) (size := 4) w #[.string ⟨#[65, 110, 121]⟩, .int .i64 (-1), .int .i64 0, .slice none 0 0, .string ⟨#[73, 110, 116]⟩, .int .i64 0, .int .i64 0, .slice none 0 0] 2 (Nat.le_refl _) (by unfold maxLen; omega) rfl)
  have hb := (MapKept.heap_alloc (w.alloc (.cells #[.string ⟨#[65, 110, 121]⟩, .int .i64 (-1), .int .i64 0, .slice none 0 0, .string ⟨#[73, 110, 116]⟩, .int .i64 0, .int .i64 0, .slice none 0 0] 56)) (.cells #[.slice (some ⟨w.heap.size, 0, none⟩) 2 2, .slice none 0 0, .int .i64 0, .int .i64 0, .int .i64 0] 60)).1
  rw [World.size_alloc] at hb
  refine ⟨by omega, by simp, ?_, ?_, ho.alloc _, by simp [Value.ownBlock]⟩
  · simp only [World.cell?, hb]; rfl
  · simp only [World.frozen?, hb]; simp

end Go.Proofs.YtkghmgoefiepeaaDoor.reads

/- kinref: Class, of the one class of the law. -/
namespace Go.Proofs.YtkghmgoefiepeaaDoor.reads
open Go.ChangeShapes Go.WideShapes Go.ChangeAt Go.RowKit Kn
set_option linter.unusedSimpArgs false
set_option linter.unusedVariables false

/-- Of the blocks that there were only those of L may have turned. -/
structure Spare (w w' : World) (L : List Nat) : Prop where
  os : w'.os = w.os
  tape : w'.tape = w.tape
  output : w'.output = w.output
  size : w.heap.size ≤ w'.heap.size
  block : ∀ k, k < w.heap.size → k ∉ L → w'.heap[k]? = w.heap[k]?
theorem Spare.of_below {w w' : World} (h : Below w.heap.size w w') : Spare w w' [] := ⟨h.os, h.tape, h.output, h.size, fun k hk _ => h.block k hk⟩
theorem Spare.trans {w w1 w2 : World} {L1 L2 : List Nat} (h1 : Spare w w1 L1) (h2 : Spare w1 w2 L2) : Spare w w2 (L1 ++ L2) :=
  ⟨h2.os.trans h1.os, h2.tape.trans h1.tape, h2.output.trans h1.output, Nat.le_trans h1.size h2.size, fun k hk hn => by
    rw [List.mem_append] at hn
    rw [h2.block k (Nat.lt_of_lt_of_le hk h1.size) (fun h => hn (.inr h)), h1.block k hk (fun h => hn (.inl h))]⟩
theorem Spare.below {w w' : World} {L : List Nat} {B : Nat} (h : Spare w w' L) (hB : B ≤ w.heap.size) (hL : ∀ k ∈ L, B ≤ k) : Below B w w' :=
  ⟨h.os, h.tape, h.output, h.size, fun k hk => h.block k (by omega) (fun hm => by have := hL k hm; omega)⟩
theorem Spare.mono {w w' : World} {L L' : List Nat} (h : Spare w w' L) (hL : ∀ k ∈ L, k ∈ L') : Spare w w' L' := ⟨h.os, h.tape, h.output, h.size, fun k hk hn => h.block k hk (fun hm => hn (hL k hm))⟩
theorem Spare.of_grown {w w' : World} {k : Nat} (h : w.grownBy w' (some k)) : Spare w w' [k] := ⟨h.os, h.tape, h.output, h.size, fun j hj hn => h.block j hj (fun e => by injection e with e; exact hn (by simp [e]))⟩
theorem own_spare {w w' : World} {L : List Nat} {B : Nat} {e : TypeId} {size n : Nat} {v : Value} {xs : List Value} (h : w.ownsRow B e size v n xs) (hs : Spare w w' L) (hn : ∀ k, v.ownBlock = some k → k ∉ L) : w'.ownsRow B e size v n xs := by
  refine ⟨h.1, ?_⟩
  rcases h.2 with h0 | ⟨g, cap, cur, rfl, hb, hg, rest⟩
  · exact .inl h0
  · exact .inr ⟨g, cap, cur, rfl, hb, (hs.block g (Array.getElem?_eq_some_iff.1 hg).1 (hn g rfl)).trans hg, rest⟩
theorem RIm.spare {w w' : World} {L : List Nat} {B b : Nat} {vc : Value} {cl : List Cl} (h : RIm w B b vc cl) (hs : Spare w w' L) (hb : b ∉ L) (hn : ∀ k, vc.ownBlock = some k → k ∉ L) : RIm w' B b vc cl :=
  ⟨h.lo, Nat.lt_of_lt_of_le h.lt hs.size, (World.cell?_of_block (hs.block b h.lt hb)).trans h.head, (World.frozen?_of_block (hs.block b h.lt hb)).trans h.free, own_spare h.own hs hn, h.apart⟩

def nameC : ByteArray := ⟨#[67]⟩
def nameAny : ByteArray := ⟨#[65, 110, 121]⟩
theorem newCl_noC {r : Int} (h : IsClass newCl nameC r) : r = -1 := by
  refine isFirst_one h (.inl ⟨rfl, fun i hi => ?_⟩)
  rintro ⟨x, hx, hn⟩
  match i, hi with
  | 0, _ => simp [newCl] at hx; subst hx; simp [nameC] at hn
  | 1, _ => simp [newCl] at hx; subst hx; simp [nameC] at hn
theorem newCl_any {r : Int} (h : IsClass newCl nameAny r) : r = 0 := by
  refine isFirst_one h (.inr ⟨0, by simp [newCl], rfl, ⟨_, rfl, rfl⟩, fun j hj => by omega⟩)
theorem newCl_names : ∀ x ∈ newCl, x.name.size ≤ 100 := by
  intro x hx
  simp [newCl] at hx
  rcases hx with rfl | rfl <;> simp [ByteArray.size]
theorem newCl_slots : slotsN 2 newCl 0 = some 0 := by rfl
theorem newCl_own : ∀ x ∈ newCl, 0 ≤ x.own ∧ x.own ≤ 10 ∧ x.above < 100 := by
  intro x hx
  simp [newCl] at hx
  rcases hx with rfl | rfl <;> simp

theorem info_Class : (Tryd.prog.info? 56).map (fun i => (i.zero, i.size, i.bytes)) = some (some (.agg #[.string ⟨#[]⟩, .int .i64 0, .int .i64 0, .slice none 0 0]), 4, 56) := by kernel_rfl

theorem rC_neg (n : Int) (w : World) (B b : Nat) (vc : Value) (hn : n < 0) (h : RIm w B b vc newCl) :
    Calls Tryd.prog 8 #[.pointer (some ⟨b, 0, none⟩), .string ⟨#[67]⟩, .string ⟨#[65, 110, 121]⟩, .int .i64 n] w fun e w' => e = .returned (.int .i64 1) ∧ w' = w := by
  have HC : Hid (className (bl ⟨#[67]⟩) = true) := by
    have hx1 : className (bl ⟨#[67]⟩) = true := by decide
    exact hx1
  have HI : Hid (RIm w B b vc newCl) := h
  clear h
  go_enter Tryd.func8, Tryd.ntmps8
  go_wp2_with fail
  refine (className_any ⟨#[67]⟩ _ (by decide)).mono ?_
  rintro e w' ⟨rfl, rfl⟩
  rw [HC.out]
  go_wp2
  go_ret
  exact ⟨rfl, rfl⟩

theorem rC_big (n : Int) (w : World) (B b : Nat) (vc : Value) (hn : 10 < n) (h : RIm w B b vc newCl) :
    Calls Tryd.prog 8 #[.pointer (some ⟨b, 0, none⟩), .string ⟨#[67]⟩, .string ⟨#[65, 110, 121]⟩, .int .i64 n] w fun e w' => e = .returned (.int .i64 9) ∧ w' = w := by
  have HC : Hid (className (bl ⟨#[67]⟩) = true) := by
    have hx1 : className (bl ⟨#[67]⟩) = true := by decide
    exact hx1
  have HI : Hid (RIm w B b vc newCl) := h
  clear h
  go_enter Tryd.func8, Tryd.ntmps8
  go_wp2_with fail
  refine (className_any ⟨#[67]⟩ _ (by decide)).mono ?_
  rintro e w' ⟨rfl, rfl⟩
  rw [HC.out]
  go_wp2_with fail
  refine (rclass_any newCl ⟨#[67]⟩ _ B b vc (by decide) newCl_names (by decide) HI.out).mono ?_
  rintro e w' ⟨r, rfl, hr, rfl⟩
  obtain rfl : r = -1 := newCl_noC hr
  clear hr
  go_wp2_with fail
  refine (rclass_any newCl ⟨#[65, 110, 121]⟩ _ B b vc (by decide) newCl_names (by decide) HI.out).mono ?_
  rintro e w' ⟨r, rfl, hr, rfl⟩
  obtain rfl : r = 0 := newCl_any hr
  clear hr
  go_wp2
  go_ret
  exact ⟨rfl, rfl⟩

/-- The document's image with the law's class. -/
def withC (n : Int) : List Cl := newCl ++ [⟨⟨#[67]⟩, 0, n, .slice none 0 0⟩]

set_option maxRecDepth 10000 in
theorem rC_ok (n : Int) (w : World) (B b : Nat) (vc : Value) (hn0 : 0 ≤ n) (hn : n ≤ 10) (h : RIm w B b vc newCl) :
    Calls Tryd.prog 8 #[.pointer (some ⟨b, 0, none⟩), .string ⟨#[67]⟩, .string ⟨#[65, 110, 121]⟩, .int .i64 n] w fun e w' => e = .returned (.int .i64 0) ∧ ∃ vc', RIm w' B b vc' (withC n) ∧ Spare w w' (b :: vc.ownBlock.toList) ∧ (vc'.ownBlock = vc.ownBlock ∨ ∀ k, vc'.ownBlock = some k → w.heap.size ≤ k) := by
  have HC : Hid (className (bl ⟨#[67]⟩) = true) := by
    have hx1 : className (bl ⟨#[67]⟩) = true := by decide
    exact hx1
  have HI : Hid (RIm w B b vc newCl) := h
  clear h
  go_enter Tryd.func8, Tryd.ntmps8
  go_wp2_with fail
  refine (className_any ⟨#[67]⟩ _ (by decide)).mono ?_
  rintro e w' ⟨rfl, rfl⟩
  rw [HC.out]
  go_wp2_with fail
  refine (rclass_any newCl ⟨#[67]⟩ _ B b vc (by decide) newCl_names (by decide) HI.out).mono ?_
  rintro e w' ⟨r, rfl, hr, rfl⟩
  obtain rfl : r = -1 := newCl_noC hr
  clear hr
  go_wp2_with fail
  refine (rclass_any newCl ⟨#[65, 110, 121]⟩ _ B b vc (by decide) newCl_names (by decide) HI.out).mono ?_
  rintro e w' ⟨r, rfl, hr, rfl⟩
  obtain rfl : r = 0 := newCl_any hr
  clear hr
  go_wp2_with fail
  refine (rslots_any 2 newCl 0 0 _ B b vc (by decide) (by omega) newCl_own (by omega) newCl_slots HI.out).mono ?_
  rintro e w1 ⟨rfl, rfl⟩
  have hown := HI.out.own
  have ca := HI.out.head
  have fa := HI.out.free
  have hlt := HI.out.lt
  have hlo := HI.out.lo
  obtain ⟨q, c0, hq⟩ := own_len hown
  obtain ⟨i0, hi0, hz0, hz1, hz2⟩ := info_parts info_Class
  have hnews := cells_laid w1 [.string ⟨#[67]⟩, .int .i64 0, .int .i64 n, .slice none 0 0] 56
  have hl12 : (newCl.length : Int) < 12 := by decide
  subst hq
  go_upto_region 12 with fail
  clear hl12
  generalize hq : Value.slice q newCl.length c0 = vc at *
  have HQ : Hid (Value.slice q newCl.length c0 = vc) := hq
  clear hq
  go_wp2_with first
    | (at_builtin; refine wpList_append_own_at _ rfl _ _ 57 rfl B 56 i0 (.agg #[.string ⟨#[]⟩, .int .i64 0, .int .i64 0, .slice none 0 0]) 4 56 Tryd.underlying57 hi0 hz0 hz1 hz2 rfl (by decide) _ _ _ rfl (hown.alloc _) ⟨w1.heap.size, 0, none⟩ 1 1 [.string ⟨#[67]⟩, .int .i64 0, .int .i64 n, .slice none 0 0] rfl rfl hnews (by simp [Value.oneCell']) (by have : newCl.length = 2 := rfl; unfold maxLen; omega) (by have : newCl.length = 2 := rfl; omega) (by simp only [World.size_alloc]; omega) ?_)
    | fail
  intro v2 W2 hown2 hg2 _ hblk
  have hap := HI.out.apart
  have hne : some b ≠ vc.ownBlock := fun e => hap e.symm
  have hb2 : W2.heap[b]? = w1.heap[b]? := by
    rw [hg2.block b (by simp only [World.size_alloc]; omega) hne]
    exact Below.heap_alloc w1 _ b hlt
  have ca2 : W2.cell? ⟨b, 0, none⟩ = some vc := (World.cell?_of_block hb2).trans ca
  have fa2 : W2.frozen? ⟨b, 0, none⟩ = false := (World.frozen?_of_block hb2).trans fa
  have hsp : Spare w1 W2 vc.ownBlock.toList := ⟨hg2.os, hg2.tape, hg2.output, by have := hg2.size; simp only [World.size_alloc] at this; omega, fun k hk hn => by
    rw [hg2.block k (by simp only [World.size_alloc]; omega) (fun e => hn (by rw [← e]; simp))]
    exact Below.heap_alloc w1 _ k hk⟩
  have HSP : Hid (Spare w1 W2 vc.ownBlock.toList) := hsp
  have HB : Hid (v2.ownBlock = vc.ownBlock ∨ v2.ownBlock = some (w1.heap.size + 1)) := hblk
  clear hsp hblk hg2 ca fa hnews hb2
  obtain ⟨q2, c2, rfl⟩ := own_len hown2
  go_wp2
  go_ret
  have hap2 : (Value.slice q2 (newCl.length + 1) c2).ownBlock ≠ some b := by
    rcases HB.out with h | h
    · rw [h]; exact hap
    · rw [h]; intro e; injection e with e; omega
  refine ⟨rfl, _, ⟨hlo, by simpa [World.setCell] using Nat.lt_of_lt_of_le hlt HSP.out.size, cs_same ca2, (World.frozen?_setCell _ _ _ _).trans fa2, ?_, hap2⟩, ?_, ?_⟩
  · have ho : W2.ownsRow B 56 4 (.slice q2 (newCl.length + 1) c2) (withC n).length (clCells (withC n)) := by
      unfold withC
      rw [clCells_append, List.length_append]
      exact hown2
    exact ho.kept (row := some b) ⟨rfl, rfl, rfl, by simp [World.setCell], fun k hk hne => Below.heap_setCell _ _ _ _ (by intro e; exact hne (by rw [e]))⟩ (.inr hap2)
  · rw [HQ.out]
    refine ⟨HSP.out.os, HSP.out.tape, HSP.out.output, by simpa [World.setCell] using HSP.out.size, fun k hk hn => ?_⟩
    rw [List.mem_cons] at hn
    rw [Below.heap_setCell _ _ _ _ (fun e => hn (.inl e))]
    exact HSP.out.block k hk (fun h => hn (.inr h))
  · rcases HB.out with h | h
    · left; rw [HQ.out]; exact h
    · right; intro k hk; rw [h] at hk; injection hk with hk; omega

end Go.Proofs.YtkghmgoefiepeaaDoor.reads

/- kinref: put, of the first method of the law's class. -/
namespace Go.Proofs.YtkghmgoefiepeaaDoor.reads
open Go.ChangeShapes Go.WideShapes Go.ChangeAt Go.RowKit Kn
set_option linter.unusedSimpArgs false
set_option linter.unusedVariables false

theorem info_Method : (Tryd.prog.info? 84).map (fun i => (i.zero, i.size, i.bytes)) = some (some (.agg #[.string ⟨#[]⟩, .slice none 0 0]), 2, 40) := by kernel_rfl
theorem withC_two (n : Int) : (withC n)[2]? = some ⟨⟨#[67]⟩, 0, n, .slice none 0 0⟩ := rfl

theorem put_first (n : Int) (sel : ByteArray) (p : Option Addr) (m c : Nat) (w : World) (B b : Nat) (vc : Value) (hB : B ≤ w.heap.size) (h : RIm w B b vc (withC n)) :
    Calls Tryd.prog 28 #[.pointer (some ⟨b, 0, none⟩), .int .i64 2, .agg #[.string sel, .slice p m c]] w fun e w' => e = .returned (.tuple #[]) ∧ Spare w w' (b :: vc.ownBlock.toList) := by
  obtain ⟨q, g, cap, rfl, hat⟩ := clAt_owns h.own
  have c0 := h.head
  obtain rfl : q = some ⟨g, 0, none⟩ := hat.head (by simp [withC, newCl])
  have hg := hat.lt (by simp [withC, newCl])
  have d3 : w.cell? ⟨g, 11, none⟩ = some (.slice none 0 0) := hat.c3 2 _ (withC_two n)
  have f3 : w.frozen? ⟨g, 11, none⟩ = false := h.own.frozenAt 11
  have hlt := h.lt
  have hl3 : (2 : Int) < ((withC n).length : Int) := by simp [withC, newCl]
  obtain ⟨i0, hi0, hz0, hz1, hz2⟩ := info_parts info_Method
  clear h hat
  go_enter Tryd.func28, Tryd.ntmps28
  go_wp2_with fail
  go_loop [6, 7] (fun v i => v = .slice none 0 0 ∧ i = .int .i64 0) (fun _ _ => 0)
  case atStart => exact ⟨rfl, rfl⟩
  case round =>
    obtain ⟨hv, rfl⟩ := hrel
    have HV : Hid (u6 = Value.slice none 0 0) := hv
    clear hv
    have hnews := cells_laid (w.alloc (.cells #[.string sel, .slice p m c] 84)) [.string sel, .slice p m c] 84
    rw [World.size_alloc] at hnews
    have hown : ((w.alloc (.cells #[.string sel, .slice p m c] 84)).alloc (.cells #[.string sel, .slice p m c] 84)).ownsRow B 84 2 u6 0 [] := by rw [HV.out]; exact World.ownsRow_nil _ _ _ _
    go_wp2_with first
      | (at_builtin; refine wpList_append_own_at _ rfl _ _ 54 rfl B 84 i0 (.agg #[.string ⟨#[]⟩, .slice none 0 0]) 2 40 Tryd.underlying54 hi0 hz0 hz1 hz2 rfl (by decide) _ _ _ rfl hown ⟨w.heap.size + 1, 0, none⟩ 1 1 [.string sel, .slice p m c] rfl rfl hnews (by simp [Value.oneCell']) (by unfold maxLen; omega) (by omega) (by simp only [World.size_alloc]; omega) ?_)
      | fail
    intro v2 W2 hown2 hg2 _ _
    have hb2 : ∀ k, k < w.heap.size → W2.heap[k]? = w.heap[k]? := fun k hk => by
      rw [hg2.block k (by simp only [World.size_alloc]; omega) (by rw [HV.out]; simp [Value.ownBlock]), Below.heap_alloc _ _ k (by simp only [World.size_alloc]; omega)]
      exact Below.heap_alloc w _ k hk
    have c02 : W2.cell? ⟨b, 0, none⟩ = some (.slice (some ⟨g, 0, none⟩) (withC n).length cap) := (World.cell?_of_block (a := ⟨b, 0, none⟩) (hb2 b hlt)).trans c0
    have d32 : W2.cell? ⟨g, 11, none⟩ = some (.slice none 0 0) := (World.cell?_of_block (a := ⟨g, 11, none⟩) (hb2 g hg)).trans d3
    have f32 : W2.frozen? ⟨g, 11, none⟩ = false := (World.frozen?_of_block (a := ⟨g, 11, none⟩) (hb2 g hg)).trans f3
    have HSP : Hid (Spare w W2 []) := by
      have hx1 : Spare w W2 [] := ⟨hg2.os, hg2.tape, hg2.output, by have := hg2.size; simp only [World.size_alloc] at this; omega, fun k hk _ => hb2 k hk⟩
      exact hx1
    clear hb2 hg2 hnews hown c0 d3 f3
    obtain ⟨q2, c2, rfl⟩ := own_len hown2
    go_wp2
    go_end0
    refine ⟨rfl, HSP.out.os, HSP.out.tape, HSP.out.output, by simpa [World.setCell] using HSP.out.size, fun k hk hn => ?_⟩
    have hkg : k ≠ g := fun e => hn (by simp [Value.ownBlock, e])
    rw [Below.heap_setCell _ _ _ _ hkg]
    exact HSP.out.block k hk (by simp)

end Go.Proofs.YtkghmgoefiepeaaDoor.reads

/- kinref: Method, of the law's class. -/
namespace Go.Proofs.YtkghmgoefiepeaaDoor.reads
open Go.ChangeShapes Go.WideShapes Go.ChangeAt Go.RowKit Kn
set_option linter.unusedSimpArgs false
set_option linter.unusedVariables false

theorem withC_C {n : Int} {r : Int} (h : IsClass (withC n) ⟨#[67]⟩ r) : r = 2 := by
  refine isFirst_one h (.inr ⟨2, by simp [withC, newCl], rfl, ⟨_, rfl, rfl⟩, fun j hj => ?_⟩)
  rintro ⟨x, hx, hn⟩
  match j, hj with
  | 0, _ => simp [withC, newCl] at hx; subst hx; simp at hn
  | 1, _ => simp [withC, newCl] at hx; subst hx; simp at hn
theorem withC_names (n : Int) : ∀ x ∈ withC n, x.name.size ≤ 100 := by
  intro x hx
  simp [withC, newCl] at hx
  rcases hx with rfl | rfl | rfl <;> simp [ByteArray.size]
theorem withC_slots (n : Int) : slotsN 3 (withC n) 2 = some n := by
  simp [slotsN, withC, newCl]
theorem withC_own {n : Int} (h0 : 0 ≤ n) (h : n ≤ 10) : ∀ x ∈ withC n, 0 ≤ x.own ∧ x.own ≤ 10 ∧ x.above < 100 := by
  intro x hx
  simp [withC, newCl] at hx
  rcases hx with rfl | rfl | rfl <;> simp <;> omega

theorem rM_none (sel src : ByteArray) (w : World) (B b : Nat) (vc : Value) (h : RIm w B b vc newCl) :
    Calls Tryd.prog 10 #[.pointer (some ⟨b, 0, none⟩), .string ⟨#[67]⟩, .string sel, .string src] w fun e w' => e = .returned (.tuple #[.int .i64 2, .int .i64 0]) ∧ w' = w := by
  have HI : Hid (RIm w B b vc newCl) := h
  clear h
  go_enter Tryd.func10, Tryd.ntmps10
  go_wp2_with fail
  refine (rclass_any newCl ⟨#[67]⟩ _ B b vc (by decide) newCl_names (by decide) HI.out).mono ?_
  rintro e w' ⟨r, rfl, hr, rfl⟩
  obtain rfl : r = -1 := newCl_noC hr
  clear hr
  go_wp2
  go_ret2
  exact ⟨rfl, rfl⟩

theorem Spare.then {w w1 w2 : World} {L : List Nat} (h1 : Spare w w1 L) (h2 : Spare w1 w2 L) : Spare w w2 L := (h1.trans h2).mono (fun k hk => by rcases List.mem_append.1 hk with h | h <;> exact h)
theorem Spare.drewN {w w1 : World} {L : List Nat} (h : Spare w w1 L) (n : Nat) : Spare w (w1.drewN n) L := ⟨h.os, h.tape, h.output, h.size, h.block⟩

theorem sel_parts {s : ByteArray} (h : selector (bl s) = true) : 3 ≤ s.size ∧ s.size ≤ 8 ∧ 48 ≤ ((bl s)[s.size - 1]?.getD 0).toNat ∧ argsOf (bl s) ≤ 3 := by
  have ha := argsOf_le h
  unfold selector at h
  simp only [Bool.and_eq_true, decide_eq_true_eq] at h
  obtain ⟨⟨⟨⟨⟨h3, h8⟩, h47⟩, hd1⟩, hd2⟩, hall⟩ := h
  rw [bl_length] at h3 h8 hd1
  exact ⟨h3, h8, hd1, ha⟩

set_option maxHeartbeats 1000000 in
theorem rM_any (n : Nat) (sel src : ByteArray) (w : World) (B b : Nat) (vc : Value) (hn : n ≤ 10) (hs1 : sel.size ≤ maxLen) (hs2 : src.size ≤ maxLen) (hB : B ≤ w.heap.size) (h : RIm w B b vc (withC n)) :
    Calls Tryd.prog 10 #[.pointer (some ⟨b, 0, none⟩), .string ⟨#[67]⟩, .string sel, .string src] w fun e w' => ∃ r a : Int, e = .returned (.tuple #[.int .i64 r, .int .i64 a]) ∧ MethodIs (bl sel) (bl src) n r a ∧ Spare w w' (b :: vc.ownBlock.toList) := by
  have HI : Hid (RIm w B b vc (withC n)) := h
  clear h
  have hl3 : (withC (n : Int)).length ≤ 12 := by simp [withC, newCl]
  have HSr : Hid (∀ w', w' = w → Spare w w' (b :: vc.ownBlock.toList)) := by
    have hx1 : ∀ w', w' = w → Spare w w' (b :: vc.ownBlock.toList) := fun w' e => by subst e; exact ⟨rfl, rfl, rfl, Nat.le_refl _, fun _ _ _ => rfl⟩
    exact hx1
  go_enter Tryd.func10, Tryd.ntmps10
  go_wp2_with fail
  refine (rclass_any (withC n) ⟨#[67]⟩ _ B b vc (by decide) (withC_names n) hl3 HI.out).mono ?_
  rintro e w' ⟨r, rfl, hr, rfl⟩
  obtain rfl : r = 2 := withC_C hr
  clear hr
  go_wp2_with fail
  refine (selector_any sel _ hs1).mono ?_
  rintro e w' ⟨rfl, rfl⟩
  cases hsel : selector (bl sel)
  · go_wp2
    go_ret2
    exact ⟨1, 0, rfl, .inl ⟨hsel, rfl, rfl⟩, HSr.out _ rfl⟩
  · by_cases hlong : 120 < src.size
    · go_wp2_with fail
      refine (words_long src _ hlong hs2).mono ?_
      rintro e w' ⟨rfl, rfl⟩
      go_wp2
      go_ret2
      exact ⟨5, 0, rfl, .inr (.inl ⟨hsel, by rw [bl_length]; exact hlong, rfl, rfl⟩), HSr.out _ rfl⟩
    · go_wp2_with fail
      refine (words_any src _ (by omega)).mono ?_
      rintro e w1 ⟨v, rfl, hown, hb1⟩
      have hI1 : Hid (RIm w1 B b vc (withC n)) := HI.out.below hb1
      have HS1 : Hid (Spare w' w1 (b :: vc.ownBlock.toList)) := (Spare.of_below hb1).mono (by simp)
      rcases words_bad (bl src) with hw | ⟨j, hj, hw⟩
      · rw [hw]
        obtain ⟨p, g, cap, rfl, hat⟩ := wAt_owns (hown hw)
        have HW : Hid (WAt w1 p g (wordsAll (bl src)).1) := hat
        have HWB : Hid ((wordsAll (bl src)).2 = -1) := hw
        have hwl := words_le (bl src)
        have HFW : Hid (∀ (i : Nat) (x : W × Nat), (wordsAll (bl src)).1[i]? = some x → Fine0 x.1) := words_fine (bl src)
        have HSL : Hid (src.size ≤ 120) := (by omega : src.size ≤ 120)
        clear hw hat hown hb1 hlong
        obtain ⟨ws, hws⟩ : ∃ ws, (wordsAll (bl src)).1 = ws := ⟨_, rfl⟩
        have HWS : Hid ((wordsAll (bl src)).1 = ws) := hws
        rw [hws] at HW hwl HFW
        rw [hws]
        clear hws
        obtain ⟨q3, q8, q48, qa⟩ := sel_parts hsel
        go_wp2_with fail
        refine (args_any sel _ q8 (by omega) q48).mono ?_
        rintro e w2 ⟨rfl, rfl⟩
        obtain ⟨ar, har⟩ : ∃ ar, argsOf (bl sel) = ar := ⟨_, rfl⟩
        have HAR : Hid (argsOf (bl sel) = ar) := har
        rw [har] at qa
        rw [har]
        clear har q3 q8 q48
        go_wp2_with fail
        refine (rslots_any 3 (withC n) 2 n _ B b vc hl3 (by omega) (withC_own (by omega) (by omega)) (by omega) (withC_slots n) hI1.out).mono ?_
        rintro e w2 ⟨rfl, rfl⟩
        go_wp2_with fail
        refine (fits_any ws p g cap ar n _ hwl qa hn HW.out HFW.out).mono ?_
        rintro e w3 ⟨er, i, rfl, hfit, hb3⟩
        have HFT : Hid (FitsIs ws ar n er i) := hfit
        have HI3 : Hid (RIm w3 B b vc (withC n)) := hI1.out.below hb3
        have HW3 : Hid (WAt w3 p g ws) := HW.out.below (Nat.le_refl _) hb3
        have HS3 : Hid (Spare w' w3 (b :: vc.ownBlock.toList)) := (HS1.out.trans (Spare.of_below hb3)).mono (by simp)
        have hB3 : B ≤ w3.heap.size := Nat.le_trans hB HS3.out.size
        have HM : Hid (∀ e' a', ((∃ j x, i = ((j : Nat) : Int) ∧ ws[j]? = some x ∧ e' = er ∧ a' = ((x.2 : Nat) : Int)) ∨ (i = -1 ∧ e' = 0 ∧ a' = 0)) → MethodIs (bl sel) (bl src) n e' a') := by
          have hx1 : ∀ e' a', ((∃ j x, i = ((j : Nat) : Int) ∧ ws[j]? = some x ∧ e' = er ∧ a' = ((x.2 : Nat) : Int)) ∨ (i = -1 ∧ e' = 0 ∧ a' = 0)) → MethodIs (bl sel) (bl src) n e' a' := fun e' a' hh =>
            .inr (.inr (.inr ⟨hsel, by rw [bl_length]; exact HSL.out, HWB.out, er, i, by rw [HWS.out, HAR.out]; exact HFT.out, by rw [HWS.out]; exact hh⟩))
          exact hx1
        rcases fits_num hfit with rfl | ⟨j, hj, rfl⟩
        · clear hfit hb3
          go_wp2_with fail
          refine (put_first n sel p ws.length cap _ B b vc hB3 HI3.out).mono ?_
          rintro e w4 ⟨rfl, hsp⟩
          have HS4 : Hid (Spare w' w4 (b :: vc.ownBlock.toList)) := HS3.out.then hsp
          clear hsp
          go_wp2
          go_ret2
          exact ⟨0, 0, rfl, HM.out 0 0 (.inr ⟨by trivial, rfl, rfl⟩), HS4.out⟩
        · clear hfit hb3
          obtain ⟨x, hx⟩ : ∃ x, ws[j]? = some x := ⟨_, List.getElem?_eq_getElem hj⟩
          obtain rfl : p = some ⟨g, 0, none⟩ := HW3.out.head (by omega)
          have d5 := HW3.out.c5 j x hx
          have HX : Hid (ws[j]? = some x) := hx
          have hji : (j : Int) < (ws.length : Int) := by omega
          clear hx
          go_wp2_with fail
          go_quiet (fail)
          go_wp2
          go_ret2
          exact ⟨er, x.2, rfl, HM.out er x.2 (.inl ⟨j, x, rfl, HX.out, rfl, rfl⟩), HS3.out.drewN _⟩
      · rw [hw]
        clear hown
        go_wp2
        go_ret2
        exact ⟨5, j, rfl, .inr (.inr (.inl ⟨hsel, by rw [bl_length]; omega, by rw [hw]; omega, rfl, by rw [hw]⟩)), HS1.out⟩

end Go.Proofs.YtkghmgoefiepeaaDoor.reads
