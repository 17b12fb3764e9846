import Derived.Test.YtaaidlcjlplbpaaDoorKinQ
import Derived.Lib.Strings
import Derived.Lib.BufferWrite
import Derived.Lib.UnsafeStr
import Derived.Test.YtaaidlcjlplbpaaDoorRefN
import Derived.Deep.RegionHeld3
import Derived.Deep.DrawnRows
/- A text's copy: strings.Clone. -/
namespace Go.Proofs.YtaaidlcjlplbpaaDoor.reads
open Go.ChangeShapes Go.WideShapes Go.ChangeAt Go.RowKit Kn
set_option linter.unusedSimpArgs false
set_option linter.unusedVariables false

theorem info_byte : (Tryd.prog.info? 5).map (fun i => (i.zero, i.size, i.bytes)) = some (some (.int .u8 0), 1, 1) := by kernel_rfl
theorem byte_cells : Tryd.prog.cellsOf 5 = 1 := by kernel_rfl
theorem byte_size : (Tryd.prog.info? 5).map (·.size) = some 1 := by kernel_rfl
theorem mk_bytes (n : Nat) (hn : n ≤ 140737488355328) (w : World) : (Instr.makeSlice 148 (.int .i64 (n : Int)) (.int .i64 (n : Int))).run Tryd.prog w = .ok (.slice (some ⟨w.heap.size, 0, none⟩) n n) (w.alloc (.cells (Array.replicate n (.int .u8 0)) 5)) := by
  obtain ⟨i0, hi, h0, h1, h2⟩ := info_parts info_byte
  have h := run_make (P := Tryd.prog) w 148 5 i0 _ Tryd.underlying148 hi h0 .i64 .i64 (n : Int) (n : Int) (by omega) (by omega) (by rw [h2]; omega) (by omega)
  rw [h, Int.toNat_natCast, h1]
  show Result.ok _ (w.alloc (.cells (madeCells #[.int .u8 0] (n * 1)) _)) = _
  rw [made_one, Nat.mul_one]

/-- The world once the bytes are laid in a new row. -/
def bytesLaid (w : World) (s : ByteArray) : World := (w.alloc (.cells (Array.replicate s.size (.int .u8 0)) 5)).setRow w.heap.size (Lib.byteCells s.data.toList).toArray
theorem bytesLaid_heap (w : World) (s : ByteArray) : (bytesLaid w s).heap[w.heap.size]? = some (.cells (Lib.byteCells s.data.toList).toArray 5 (0, 0)) := setRow_heap _ _ _ _ _ (0, 0) (MapKept.heap_alloc w _).1
theorem bytesLaid_below (w : World) (s : ByteArray) : Below w.heap.size w (bytesLaid w s) :=
  ((Below.refl _ w).alloc (Nat.le_refl _) _).trans ⟨rfl, rfl, rfl, by simp [bytesLaid, World.setRow], fun k hk => setRow_other _ _ _ _ (by omega)⟩
theorem copy_bytes (w : World) (s : ByteArray) (t1 t2 : TypeId) : (Builtin.copy_ #[148, t1] t2 #[.slice (some ⟨w.heap.size, 0, none⟩) s.size s.size, .string s]).run Tryd.prog (w.alloc (.cells (Array.replicate s.size (.int .u8 0)) 5)) = .ok (goInt s.size) (bytesLaid w s) := by
  have h := Lib.run_copy_row_string (P := Tryd.prog) (w.alloc (.cells (Array.replicate s.size (.int .u8 0)) 5)) 148 t1 t2 5 w.heap.size 0 s.size s.size s (Array.replicate s.size (.int .u8 0)) 5 Tryd.underlying148 byte_size (MapKept.heap_alloc w _).1 (Nat.le_refl _) (by simp)
  have e : ((Array.replicate s.size (Value.int .u8 0)).toList.take 0 ++ Lib.byteCells s.data.toList ++ (Array.replicate s.size (Value.int .u8 0)).toList.drop (0 + s.size)).toArray = (Lib.byteCells s.data.toList).toArray := by
    rw [List.take_zero, List.nil_append, List.drop_of_length_le (by simp), List.append_nil]
  rw [h, e]
  rfl
theorem text_of (w : World) (s : ByteArray) (t1 t2 : TypeId) (h0 : s.size ≠ 0) (hs : s.size ≤ 140737488355328) : (Builtin.unsafeString_ #[149, t1] t2 #[.pointer (some ⟨w.heap.size, 0, none⟩), .int .i64 s.size]).run Tryd.prog (bytesLaid w s) = .ok (.string s) ((bytesLaid w s).freeze ⟨w.heap.size, 0, none⟩ s.size) := by
  have hl : s.data.toList.length = s.size := (Lib.size_eq s).symm
  have h := Lib.run_unsafeString_row (P := Tryd.prog) (bytesLaid w s) 149 t1 t2 5 Tryd.underlying149 byte_cells w.heap.size (Lib.byteCells s.data.toList).toArray.size (by unfold World.shape?; rw [bytesLaid_heap]) s.data.toList
    (fun e => h0 (by rw [← hl, e]; rfl)) (by simp [Lib.byteCells_length]) (by omega)
    (fun j x hx => Lib.cells_of_row (bytesLaid_heap w s) (Lib.byteCells s.data.toList).toArray.size j _ (by rw [List.take_of_length_le (by simp [Lib.byteCells])]; simp [Lib.byteCells, hx]))
  rw [hl] at h
  exact h

theorem lite_any (s : ByteArray) (w : World) (hs : s.size ≤ 140737488355328) :
    Calls Tryd.prog 47 #[.string s] w fun e w' => e = .returned (.string s) ∧ Below w.heap.size w w' := by
  by_cases h0 : s.size = 0
  · have hs : s = ⟨#[]⟩ := by
      cases s with | mk a =>
      congr 1
      exact Array.eq_empty_of_size_eq_zero h0
    subst hs
    go_enter Tryd.func47, Tryd.ntmps47
    go_wp2
    go_ret
    exact ⟨rfl, Below.refl _ _⟩
  · have t0 : ((s.size : Int) == 0) = false := beq_eq_false_iff_ne.2 (by omega)
    have hp : (0 : Int) < (s.size : Int) := by omega
    have hmk := mk_bytes s.size hs
    have hcp := copy_bytes w s
    have hus := fun t1 t2 => text_of w s t1 t2 h0 hs
    go_enter Tryd.func47, Tryd.ntmps47
    go_wp2
    go_ret
    exact ⟨rfl, Lib.below_freeze (bytesLaid_below w s) (p := ⟨w.heap.size, 0, none⟩) (Nat.le_refl _) _⟩

theorem clone_any (s : ByteArray) (w : World) (hs : s.size ≤ 140737488355328) :
    Calls Tryd.prog 22 #[.string s] w fun e w' => e = .returned (.string s) ∧ Below w.heap.size w w' := by
  go_enter Tryd.func22, Tryd.ntmps22
  go_wp2_with fail
  refine (lite_any s w hs).mono ?_
  rintro e w' ⟨rfl, hb⟩
  go_wp2
  go_ret
  exact ⟨rfl, hb⟩

end Go.Proofs.YtaaidlcjlplbpaaDoor.reads

/- kin: an image's classes: New. -/
namespace Go.Proofs.YtaaidlcjlplbpaaDoor.reads
open Go.ChangeShapes Go.WideShapes Go.ChangeAt Go.RowKit Kn
set_option linter.unusedSimpArgs false
set_option linter.unusedVariables false

theorem knewClass_any (s : ByteArray) (p : Option Addr) (n : Int) (w : World) :
    Calls Tryd.prog 20 #[.string s, .pointer p, .int .i64 n] w fun e w' => e = .returned (.pointer (some ⟨w.heap.size + 1, 0, none⟩)) ∧
      w' = (w.alloc (.map #[] 0)).alloc (.cells #[.string s, .pointer p, .int .i64 n, .map (some w.heap.size)] 73) := by
  have hmm := @run_makeMap Tryd.prog
  go_enter Tryd.func20, Tryd.ntmps20
  go_wp2
  go_ret
  exact ⟨rfl, rfl⟩

def nmAny : ByteArray := ⟨#[65, 110, 121]⟩
def nmInt : ByteArray := ⟨#[73, 110, 116]⟩
/-- A new image: block b; its classes' map mb; Any at block a. B: nothing of it lies below. -/
structure K0 (w : World) (B b mb a : Nat) : Prop where
  lo : B ≤ b ∧ B ≤ mb ∧ B ≤ a
  apart : b ≠ mb ∧ b ≠ a ∧ mb ≠ a
  lt : b < w.heap.size ∧ a < w.heap.size
  cb : w.cell? ⟨b, 0, none⟩ = some (.map (some mb))
  map : ∃ i, StrMap w mb [(nmAny, .pointer (some ⟨a, 0, none⟩)), (nmInt, .pointer (some ⟨i, 0, none⟩))]
  ca : w.cell? ⟨a, 2, none⟩ = some (.int .i64 0)
theorem K0.spare {w w' : World} {B b mb a : Nat} {L : List Nat} (h : K0 w B b mb a) (hs : Spare w w' L) (hb : b ∉ L) (hm : mb ∉ L) (ha : a ∉ L) : K0 w' B b mb a := by
  obtain ⟨i, hmap⟩ := h.map
  have hml := hmap.lt
  obtain ⟨es, clock, hh, hl⟩ := hmap
  exact ⟨h.lo, h.apart, ⟨Nat.lt_of_lt_of_le h.lt.1 hs.size, Nat.lt_of_lt_of_le h.lt.2 hs.size⟩, (World.cell?_of_block (a := ⟨b, 0, none⟩) (hs.block b h.lt.1 hb)).trans h.cb,
    ⟨i, es, clock, (hs.block mb hml hm).trans hh, hl⟩, (World.cell?_of_block (a := ⟨a, 2, none⟩) (hs.block a h.lt.2 ha)).trans h.ca⟩

theorem put_two (p q : Value) : Kn.put (Kn.put [] ⟨#[65, 110, 121]⟩ p) ⟨#[73, 110, 116]⟩ q = [(nmAny, p), (nmInt, q)] := by
  have e : ((⟨#[73, 110, 116]⟩ : ByteArray) == ⟨#[65, 110, 121]⟩) = false := (beq_ba_false _ _).2 (by simp)
  simp [Kn.put, e, nmAny, nmInt]

set_option maxHeartbeats 1000000 in
set_option maxRecDepth 100000 in
theorem knew_28 (w : World) :
    Calls Tryd.prog 7 #[.int .i64 2, .int .i64 8] w fun e w' => ∃ b mb a, e = .returned (.tuple #[.pointer (some ⟨b, 0, none⟩), .int .i64 0]) ∧ K0 w' w.heap.size b mb a ∧ Below w.heap.size w w' := by
  have hmm := @run_makeMap Tryd.prog
  have h87 : bits .and .i64 8 7 = 0 := by decide
  go_enter Tryd.func7, Tryd.ntmps7
  go_wp2_with (go_at_call 20; refine (knewClass_any _ _ _ _).mono ?_; rintro e w' ⟨rfl, rfl⟩)
  obtain ⟨w1, hrun, hm1, hg1⟩ := Kn.run_update (P := Tryd.prog) (Kn.strMap_made ((w.alloc (.map #[] 0)).alloc (.cells #[.string ⟨#[65, 110, 121]⟩, .pointer none, .int .i64 0, .map (some w.heap.size)] 73))) Tryd.underlying59 Tryd.underlying9 ⟨#[65, 110, 121]⟩ (.pointer (some ⟨w.heap.size + 1, 0, none⟩))
  simp only [World.size_alloc] at hrun
  rw [hrun]
  go_wp2_with (go_at_call 20; refine (knewClass_any _ _ _ _).mono ?_; rintro e w' ⟨rfl, rfl⟩)
  have hs1 : w.heap.size + 3 ≤ w1.heap.size := by have := hg1.size; simp only [World.size_alloc] at this; omega
  obtain ⟨w2, hrun2, hm2, hg2⟩ := Kn.run_update (P := Tryd.prog) ((hm1.alloc (.map #[] 0)).alloc (.cells #[.string ⟨#[73, 110, 116]⟩, .pointer (some ⟨w.heap.size + 1, 0, none⟩), .int .i64 0, .map (some w1.heap.size)] 73)) Tryd.underlying59 Tryd.underlying9 ⟨#[73, 110, 116]⟩ (.pointer (some ⟨w1.heap.size + 1, 0, none⟩))
  simp only [World.size_alloc] at hrun2
  rw [hrun2]
  go_wp2
  go_ret2
  have hb1 : Below w.heap.size w w1 := ((((Below.refl _ _).alloc (Nat.le_refl _) _).alloc (by simp) _).alloc (by simp; omega) _).grown hg1 (by simp; omega) (by simp; omega)
  have hb2 : Below w.heap.size w w2 := ((hb1.alloc (by omega) _).alloc (by simp; omega) _).grown hg2 (by simp; omega) (by simp; omega)
  have hs2 : w1.heap.size + 2 ≤ w2.heap.size := by have := hg2.size; simp only [World.size_alloc] at this; omega
  have hany : w2.heap[w.heap.size + 1]? = some (.cells #[.string ⟨#[65, 110, 121]⟩, .pointer none, .int .i64 0, .map (some w.heap.size)] 73) := by
    rw [hg2.block _ (by simp; omega) (by simp), Below.heap_alloc _ _ _ (by simp; omega), Below.heap_alloc _ _ _ (by omega), hg1.block _ (by simp) (by simp), Below.heap_alloc _ _ _ (by simp)]
    have := (MapKept.heap_alloc (w.alloc (.map #[] 0)) (.cells #[.string ⟨#[65, 110, 121]⟩, .pointer none, .int .i64 0, .map (some w.heap.size)] 73)).1
    simpa using this
  have hk := (MapKept.heap_alloc w2 (.cells #[.map (some (w.heap.size + 1 + 1)), .slice none 0 0, .int .i64 0, .int .i64 0] 62)).1
  have hm3 := hm2.alloc (.cells #[.map (some (w.heap.size + 1 + 1)), .slice none 0 0, .int .i64 0, .int .i64 0] 62)
  rw [put_two] at hm3
  simp only [World.size_alloc] at hm3
  refine ⟨w2.heap.size, w.heap.size + 1 + 1, w.heap.size + 1, rfl, ⟨⟨by omega, by omega, by omega⟩, ⟨by omega, by omega, by omega⟩, ⟨by simp, by simp; omega⟩, ?_, ⟨_, hm3⟩, ?_⟩, hb2.alloc (by omega) _⟩
  · simp only [World.cell?, hk]; rfl
  · have := (Below.heap_alloc w2 (.cells #[.map (some (w.heap.size + 1 + 1)), .slice none 0 0, .int .i64 0, .int .i64 0] 62) (w.heap.size + 1) (by omega)).trans hany
    simp only [World.cell?, this]; rfl

end Go.Proofs.YtaaidlcjlplbpaaDoor.reads

/- kin: Class, of the law's class. -/
namespace Go.Proofs.YtaaidlcjlplbpaaDoor.reads
open Go.ChangeShapes Go.WideShapes Go.ChangeAt Go.RowKit Kn
set_option linter.unusedSimpArgs false
set_option linter.unusedVariables false

theorem zero_class (w : World) : (zeroValue 57).run Tryd.prog w = .ok (.pointer none) w := Tryd.zeroValue57 w
theorem k0_C {w : World} {B b mb a : Nat} (h : K0 w B b mb a) : (Instr.lookup 59 (.map (some mb)) (.string ⟨#[67]⟩) false).run Tryd.prog w = .ok (.pointer none) w := by
  obtain ⟨i, hm⟩ := h.map
  have h1 := run_lookup hm Tryd.underlying59 Tryd.underlying9 (zero_class w) ⟨#[67]⟩
  rw [h1]
  have e1 : ((⟨#[67]⟩ : ByteArray) == nmAny) = false := (beq_ba_false _ _).2 (by simp [nmAny])
  have e2 : ((⟨#[67]⟩ : ByteArray) == nmInt) = false := (beq_ba_false _ _).2 (by simp [nmInt])
  simp [List.lookup, e1, e2]
theorem k0_Any {w : World} {B b mb a : Nat} (h : K0 w B b mb a) : (Instr.lookup 59 (.map (some mb)) (.string ⟨#[65, 110, 121]⟩) false).run Tryd.prog w = .ok (.pointer (some ⟨a, 0, none⟩)) w := by
  obtain ⟨i, hm⟩ := h.map
  have h1 := run_lookup hm Tryd.underlying59 Tryd.underlying9 (zero_class w) ⟨#[65, 110, 121]⟩
  rw [h1]
  have e1 : ((⟨#[65, 110, 121]⟩ : ByteArray) == nmAny) = true := (beq_ba _ _).2 (by simp [nmAny])
  simp [List.lookup, e1]
theorem K0.below {w w' : World} {B b mb a : Nat} (h : K0 w B b mb a) (hb : Below w.heap.size w w') : K0 w' B b mb a := h.spare (Spare.of_below hb) (by simp) (by simp) (by simp)

theorem map_len {w : World} {mb : Nat} {l : List (ByteArray × Value)} (h : StrMap w mb l) (ty : TypeId) : (Builtin.len_ #[59] ty #[.map (some mb)]).run Tryd.prog w = .ok (.int .i64 (l.length : Nat)) w := by
  obtain ⟨es, clock, hb, hl⟩ := h
  have e : es.size = l.length := by simpa using congrArg List.length hl
  rw [run_len_map w 59 ty mb es clock (by kernel_rfl) hb, e]
  rfl

set_option maxRecDepth 100000 in
theorem kC_neg (n : Int) (w : World) (B b mb a : Nat) (hn : n < 0) (h : K0 w B b mb a) :
    Calls Tryd.prog 10 #[.pointer (some ⟨b, 0, none⟩), .string ⟨#[67]⟩, .string ⟨#[65, 110, 121]⟩, .int .i64 n] w fun e w' => e = .returned (.int .i64 1) ∧ Below w.heap.size w w' := by
  have HC : Hid (className (bl ⟨#[67]⟩) = true) := by
    have hx1 : className (bl ⟨#[67]⟩) = true := by decide
    exact hx1
  have HI : Hid (K0 w B b mb a) := h
  clear h
  go_enter Tryd.func10, Tryd.ntmps10
  go_wp2_with fail
  refine (isClassName_any ⟨#[67]⟩ _ (by decide)).mono ?_
  rintro e w1 ⟨rfl, hb1⟩
  rw [HC.out]
  go_wp2
  go_ret
  exact ⟨rfl, hb1⟩

set_option maxRecDepth 100000 in
theorem kC_big (n : Int) (w : World) (B b mb a : Nat) (hn : 10 < n) (h : K0 w B b mb a) :
    Calls Tryd.prog 10 #[.pointer (some ⟨b, 0, none⟩), .string ⟨#[67]⟩, .string ⟨#[65, 110, 121]⟩, .int .i64 n] w fun e w' => e = .returned (.int .i64 9) ∧ Below w.heap.size w w' := by
  have HC : Hid (className (bl ⟨#[67]⟩) = true) := by
    have hx1 : className (bl ⟨#[67]⟩) = true := by decide
    exact hx1
  have HI : Hid (K0 w B b mb a) := h
  clear h
  go_enter Tryd.func10, Tryd.ntmps10
  go_wp2_with fail
  refine (isClassName_any ⟨#[67]⟩ _ (by decide)).mono ?_
  rintro e w1 ⟨rfl, hb1⟩
  rw [HC.out]
  have HI1 : Hid (K0 w1 B b mb a) := HI.out.below hb1
  have c0 := HI1.out.cb
  have ca := HI1.out.ca
  have lk1 := k0_C HI1.out
  have lk2 := k0_Any HI1.out
  go_wp2
  go_ret
  exact ⟨rfl, hb1⟩

/-- An image with the law's class at block c, its methods' map at cm. -/
structure K1 (w : World) (B b mb c cm : Nat) (n : Int) : Prop where
  lo : B ≤ b ∧ B ≤ mb ∧ B ≤ c ∧ B ≤ cm
  apart : b ≠ mb ∧ b ≠ c ∧ b ≠ cm ∧ mb ≠ c ∧ mb ≠ cm ∧ c ≠ cm
  lt : b < w.heap.size ∧ c < w.heap.size
  cb : w.cell? ⟨b, 0, none⟩ = some (.map (some mb))
  map : ∃ a i, StrMap w mb [(nmAny, a), (nmInt, i), (⟨#[67]⟩, .pointer (some ⟨c, 0, none⟩))]
  cs : w.cell? ⟨c, 2, none⟩ = some (.int .i64 n)
  cc : w.cell? ⟨c, 3, none⟩ = some (.map (some cm))
  mm : StrMap w cm []
theorem K1.spare {w w' : World} {B b mb c cm : Nat} {n : Int} {L : List Nat} (h : K1 w B b mb c cm n) (hs : Spare w w' L) (hb : b ∉ L) (hm : mb ∉ L) (hc : c ∉ L) (hcm : cm ∉ L) : K1 w' B b mb c cm n := by
  obtain ⟨a, i, hmap⟩ := h.map
  have hml := hmap.lt
  have hmm := h.mm
  have hmml := hmm.lt
  obtain ⟨es, clock, hh, hl⟩ := hmap
  obtain ⟨es2, clock2, hh2, hl2⟩ := hmm
  exact ⟨h.lo, h.apart, ⟨Nat.lt_of_lt_of_le h.lt.1 hs.size, Nat.lt_of_lt_of_le h.lt.2 hs.size⟩, (World.cell?_of_block (a := ⟨b, 0, none⟩) (hs.block b h.lt.1 hb)).trans h.cb,
    ⟨a, i, es, clock, (hs.block mb hml hm).trans hh, hl⟩, (World.cell?_of_block (a := ⟨c, 2, none⟩) (hs.block c h.lt.2 hc)).trans h.cs, (World.cell?_of_block (a := ⟨c, 3, none⟩) (hs.block c h.lt.2 hc)).trans h.cc, ⟨es2, clock2, (hs.block cm hmml hcm).trans hh2, hl2⟩⟩
theorem K1.below {w w' : World} {B b mb c cm : Nat} {n : Int} (h : K1 w B b mb c cm n) (hb : Below w.heap.size w w') : K1 w' B b mb c cm n := h.spare (Spare.of_below hb) (by simp) (by simp) (by simp) (by simp)

theorem put_C (p q r : Value) : Kn.put [(nmAny, p), (nmInt, q)] ⟨#[67]⟩ r = [(nmAny, p), (nmInt, q), (⟨#[67]⟩, r)] := by
  have e1 : ((⟨#[67]⟩ : ByteArray) == nmAny) = false := (beq_ba_false _ _).2 (by simp [nmAny])
  have e2 : ((⟨#[67]⟩ : ByteArray) == nmInt) = false := (beq_ba_false _ _).2 (by simp [nmInt])
  simp [Kn.put, e1, e2]

set_option maxRecDepth 100000 in
theorem kC_ok (n : Int) (w : World) (B b mb a : Nat) (hn0 : 0 ≤ n) (hn : n ≤ 10) (hB : B ≤ w.heap.size) (h : K0 w B b mb a) :
    Calls Tryd.prog 10 #[.pointer (some ⟨b, 0, none⟩), .string ⟨#[67]⟩, .string ⟨#[65, 110, 121]⟩, .int .i64 n] w fun e w' => e = .returned (.int .i64 0) ∧ ∃ c cm, K1 w' B b mb c cm n ∧ Spare w w' [mb] ∧ w.heap.size ≤ c ∧ w.heap.size ≤ cm := by
  have HC : Hid (className (bl ⟨#[67]⟩) = true) := by
    have hx1 : className (bl ⟨#[67]⟩) = true := by decide
    exact hx1
  have HI : Hid (K0 w B b mb a) := h
  clear h
  go_enter Tryd.func10, Tryd.ntmps10
  go_wp2_with fail
  refine (isClassName_any ⟨#[67]⟩ _ (by decide)).mono ?_
  rintro e w1 ⟨rfl, hb1⟩
  rw [HC.out]
  have HI1 : Hid (K0 w1 B b mb a) := HI.out.below hb1
  have c0 := HI1.out.cb
  have ca := HI1.out.ca
  have lk1 := k0_C HI1.out
  have lk2 := k0_Any HI1.out
  obtain ⟨i, hmap⟩ := HI1.out.map
  have hlen := map_len hmap
  simp only [List.length_cons, List.length_nil] at hlen
  have hbl := HI1.out.lt
  have hml := hmap.lt
  have HMP : Hid (StrMap w1 mb [(nmAny, .pointer (some ⟨a, 0, none⟩)), (nmInt, .pointer (some ⟨i, 0, none⟩))]) := hmap
  clear hmap
  go_wp2_with fail
  refine (clone_any ⟨#[67]⟩ w1 (by decide)).mono ?_
  rintro e w2 ⟨rfl, hb2⟩
  have HI2 : Hid (K0 w2 B b mb a) := HI1.out.below hb2
  have HMP2 : Hid (StrMap w2 mb [(nmAny, .pointer (some ⟨a, 0, none⟩)), (nmInt, .pointer (some ⟨i, 0, none⟩))]) := HMP.out.below hb2 hml
  have hbW : Below w.heap.size w w2 := hb1.trans (hb2.mono hb1.size)
  have hz2 : w1.heap.size ≤ w2.heap.size := hb2.size
  clear c0 ca lk1 lk2 hlen hb1 hb2
  have c0 := HI2.out.cb
  have ca := HI2.out.ca
  go_wp2_with fail
  refine wp_region_noPanic ?_
  refine wp_region_held_drew (S := (fun w' => w'.cell? ⟨b, 0, none⟩ = some (.map (some mb)) ∧ w'.cell? ⟨a, 2, none⟩ = some (.int .i64 0))) (by kernel_rfl) (by go_keep) (fun hHeld => ?_)
  refine wpAnyH_take (i := 0) (oi := _) (v := ?_) rfl (by kernel_rfl) (by kernel_rfl) (by kernel_rfl) (fun _ _ _ h => h) (Or.inl ⟨by rfl, ?_⟩) (by assumption) ?_
  rotate_left
  · intro w hSw; (try dsimp only at hSw); go_simp <;> with_reducible rfl
  simp only [Act.put, List.getElem_toArray, List.getElem_cons_zero, List.getElem_cons_succ, List.setIfInBounds_toArray, List.set_cons_zero, List.set_cons_succ]
  refine wpAnyH_take (i := 1) (oi := _) (v := ?_) rfl (by kernel_rfl) (by kernel_rfl) (by kernel_rfl) (fun _ _ _ h => h) (Or.inl ⟨by rfl, ?_⟩) (by assumption) ?_
  rotate_left
  · intro w hSw; (try dsimp only at hSw); go_simp <;> with_reducible rfl
  simp only [Act.put, List.getElem_toArray, List.getElem_cons_zero, List.getElem_cons_succ, List.setIfInBounds_toArray, List.set_cons_zero, List.set_cons_succ]
  refine wpAnyH_take (i := 2) (oi := _) (v := ?_) rfl (by kernel_rfl) (by kernel_rfl) (by kernel_rfl) (fun _ _ _ h => h) (Or.inl ⟨by rfl, ?_⟩) (by assumption) ?_
  rotate_left
  · intro w hSw; (try dsimp only at hSw); go_simp <;> with_reducible rfl
  simp only [Act.put, List.getElem_toArray, List.getElem_cons_zero, List.getElem_cons_succ, List.setIfInBounds_toArray, List.set_cons_zero, List.set_cons_succ]
  refine wpAnyH_take (i := 3) (oi := _) (v := ?_) rfl (by kernel_rfl) (by kernel_rfl) (by kernel_rfl) (fun _ _ _ h => h) (Or.inl ⟨by rfl, ?_⟩) (by assumption) ?_
  rotate_left
  · intro w hSw; (try dsimp only at hSw); go_simp <;> with_reducible rfl
  simp only [Act.put, List.getElem_toArray, List.getElem_cons_zero, List.getElem_cons_succ, List.setIfInBounds_toArray, List.set_cons_zero, List.set_cons_succ]
  refine wpAnyH_take (i := 4) (oi := _) (v := ?_) rfl (by kernel_rfl) (by kernel_rfl) (by kernel_rfl) (fun _ _ _ h => h) (Or.inl ⟨by rfl, ?_⟩) (by assumption) ?_
  rotate_left
  · intro w hSw; (try dsimp only at hSw); go_simp <;> with_reducible rfl
  simp only [Act.put, List.getElem_toArray, List.getElem_cons_zero, List.getElem_cons_succ, List.setIfInBounds_toArray, List.set_cons_zero, List.set_cons_succ]
  refine wpAnyH_take (i := 5) (oi := _) (v := ?_) rfl (by kernel_rfl) (by kernel_rfl) (by kernel_rfl) (fun _ _ _ h => h) (Or.inl ⟨by rfl, ?_⟩) (by assumption) ?_
  rotate_left
  · intro w hSw; (try dsimp only at hSw); go_simp <;> with_reducible rfl
  simp only [Act.put, List.getElem_toArray, List.getElem_cons_zero, List.getElem_cons_succ, List.setIfInBounds_toArray, List.set_cons_zero, List.set_cons_succ]
  refine wpAnyH_take (i := 6) (oi := _) (v := ?_) rfl (by kernel_rfl) (by kernel_rfl) (by kernel_rfl) (fun _ _ _ h => h) (Or.inl ⟨by rfl, ?_⟩) (by assumption) ?_
  rotate_left
  · intro w hSw; (try dsimp only at hSw); go_simp <;> with_reducible rfl
  simp only [Act.put, List.getElem_toArray, List.getElem_cons_zero, List.getElem_cons_succ, List.setIfInBounds_toArray, List.set_cons_zero, List.set_cons_succ]
  refine wpAnyH_take (i := 7) (oi := _) (v := ?_) rfl (by kernel_rfl) (by kernel_rfl) (by kernel_rfl) (fun _ _ _ h => h) (Or.inl ⟨by rfl, ?_⟩) (by assumption) ?_
  rotate_left
  · intro w hSw; (try dsimp only at hSw); go_simp <;> with_reducible rfl
  simp only [Act.put, List.getElem_toArray, List.getElem_cons_zero, List.getElem_cons_succ, List.setIfInBounds_toArray, List.set_cons_zero, List.set_cons_succ]
  refine wpAnyH_take (i := 8) (oi := _) (v := ?_) rfl (by kernel_rfl) (by kernel_rfl) (by kernel_rfl) (fun _ _ _ h => h) (Or.inl ⟨by rfl, ?_⟩) (by assumption) ?_
  rotate_left
  · intro w hSw; (try dsimp only at hSw); go_simp <;> with_reducible rfl
  simp only [Act.put, List.getElem_toArray, List.getElem_cons_zero, List.getElem_cons_succ, List.setIfInBounds_toArray, List.set_cons_zero, List.set_cons_succ]
  refine wpAnyH_take (i := 9) (oi := _) (v := ?_) rfl (by kernel_rfl) (by kernel_rfl) (by kernel_rfl) (fun _ _ _ h => h) (Or.inl ⟨by rfl, ?_⟩) (by assumption) ?_
  rotate_left
  · intro w hSw; (try dsimp only at hSw); go_simp <;> with_reducible rfl
  simp only [Act.put, List.getElem_toArray, List.getElem_cons_zero, List.getElem_cons_succ, List.setIfInBounds_toArray, List.set_cons_zero, List.set_cons_succ]
  refine wpAnyH_take (i := 10) (oi := _) (v := ?_) rfl (by kernel_rfl) (by kernel_rfl) (by kernel_rfl) (fun _ _ _ h => h) (Or.inl ⟨by rfl, ?_⟩) (by assumption) ?_
  rotate_left
  · intro w hSw; (try dsimp only at hSw); go_simp <;> with_reducible rfl
  simp only [Act.put, List.getElem_toArray, List.getElem_cons_zero, List.getElem_cons_succ, List.setIfInBounds_toArray, List.set_cons_zero, List.set_cons_succ]
  refine wpAnyH_take (i := 11) (oi := _) (v := ?_) rfl (by kernel_rfl) (by kernel_rfl) (by kernel_rfl) (fun _ _ _ h => h) (Or.inl ⟨by rfl, ?_⟩) (by assumption) ?_
  rotate_left
  · intro w hSw; (try dsimp only at hSw); go_simp <;> with_reducible rfl
  simp only [Act.put, List.getElem_toArray, List.getElem_cons_zero, List.getElem_cons_succ, List.setIfInBounds_toArray, List.set_cons_zero, List.set_cons_succ]
  refine wpAnyH_take (i := 12) (oi := _) (v := ?_) rfl (by kernel_rfl) (by kernel_rfl) (by kernel_rfl) (fun _ _ _ h => h) (Or.inl ⟨by rfl, ?_⟩) (by assumption) ?_
  rotate_left
  · intro w hSw; (try dsimp only at hSw); go_simp <;> with_reducible rfl
  simp only [Act.put, List.getElem_toArray, List.getElem_cons_zero, List.getElem_cons_succ, List.setIfInBounds_toArray, List.set_cons_zero, List.set_cons_succ]
  refine wpAnyH_ready (rs := [13]) (by kernel_rfl) (by simp) ?_
  refine AllReadyH.cons (o := _) rfl (fun K hK => ?_) AllReadyH.nil
  go_simp
  refine (knewClass_any _ _ _ _).mono ?_; rintro e w3 ⟨rfl, hw3⟩; have hb3 : Below w2.heap.size w2 w3 := (by rw [hw3]; exact ((((Below.refl _ w2).drew).alloc (Nat.le_refl _) _).alloc (by simp) _)); have HI3 : Hid (K0 w3 B b mb a) := HI2.out.below hb3; have HW3 : Hid (w3 = _) := hw3; clear c0 ca hw3; have c0 := HI3.out.cb; have ca := HI3.out.ca
  try go_wp2_with fail
  refine hK.out _ _ (by go_keep) (fun hHeld => ?_)
  clear hK K
  try simp only [Act.put, List.getElem_toArray, List.getElem_cons_zero, List.getElem_cons_succ, List.setIfInBounds_toArray, List.set_cons_zero, List.set_cons_succ]
  have hwn : IntKind.i64.wrap n = n := by rw [IntKind.wrap_i64]; omega
  have hw3 := HW3.out
  rw [hwn] at hw3
  have HX3 : Hid (w3.heap[w2.heap.size + 1]? = some (.cells #[.string ⟨#[67]⟩, .pointer (some ⟨a, 0, none⟩), .int .i64 n, .map (some w2.heap.size)] 73) ∧ w3.heap[w2.heap.size]? = some (.map #[] 0) ∧ w3.heap.size = w2.heap.size + 2) := by
    have hx1 : w3.heap[w2.heap.size + 1]? = some (.cells #[.string ⟨#[67]⟩, .pointer (some ⟨a, 0, none⟩), .int .i64 n, .map (some w2.heap.size)] 73) ∧ w3.heap[w2.heap.size]? = some (.map #[] 0) ∧ w3.heap.size = w2.heap.size + 2 := by
      rw [hw3]
      have h1 := (MapKept.heap_alloc (w2.drew.alloc (.map #[] 0)) (.cells #[.string ⟨#[67]⟩, .pointer (some ⟨a, 0, none⟩), .int .i64 n, .map (some w2.drew.heap.size)] 73)).1
      have h2 := (Below.heap_alloc (w2.drew.alloc (.map #[] 0)) (.cells #[.string ⟨#[67]⟩, .pointer (some ⟨a, 0, none⟩), .int .i64 n, .map (some w2.drew.heap.size)] 73) w2.drew.heap.size (by simp)).trans (MapKept.heap_alloc w2.drew (.map #[] 0)).1
      rw [World.size_alloc] at h1
      exact ⟨h1, h2, by simp⟩
    exact hx1
  clear hw3 HW3 hwn
  obtain ⟨w4, hrun, hm4, hg4⟩ := Kn.run_update (P := Tryd.prog) (HMP2.out.below hb3 (by omega)) Tryd.underlying59 Tryd.underlying9 ⟨#[67]⟩ (.pointer (some ⟨w2.heap.size + 1, 0, none⟩))
  have hap := HI2.out.apart
  have hlt2 := HI2.out.lt
  have hz3 := hb3.size
  have hb4 : w4.heap[b]? = w3.heap[b]? := hg4.block b (by omega) (by intro e; injection e with e; exact hap.1 e)
  have ha4 : w4.heap[a]? = w3.heap[a]? := hg4.block a (by omega) (by intro e; injection e with e; exact hap.2.2 e.symm)
  have c04 : w4.cell? ⟨b, 0, none⟩ = some (.map (some mb)) := (World.cell?_of_block (a := ⟨b, 0, none⟩) hb4).trans c0
  have ca4 : w4.cell? ⟨a, 2, none⟩ = some (.int .i64 0) := (World.cell?_of_block (a := ⟨a, 2, none⟩) ha4).trans ca
  have HG4 : Hid (w3.grownBy w4 (some mb)) := hg4
  have HM4 : Hid (StrMap w4 mb _) := hm4
  clear hg4 hm4 hb4 ha4
  clear hHeld
  clear hHeld
  refine wpAnyH_ready (rs := [14]) (by kernel_rfl) (by simp) ?_
  refine AllReadyH.cons (o := _) rfl (fun K hK => ?_) AllReadyH.nil
  go_simp
  skip
  try go_wp2_with fail
  refine hK.out _ _ (by go_keep) (fun hHeld => ?_)
  clear hK K
  try simp only [Act.put, List.getElem_toArray, List.getElem_cons_zero, List.getElem_cons_succ, List.setIfInBounds_toArray, List.set_cons_zero, List.set_cons_succ]
  refine wpAnyH_done (by kernel_rfl) ?_ _
  refine NoPanic.normal ?_
  go_wp2
  go_ret
  obtain ⟨x1, x2, x3⟩ := HX3.out
  have hlo := HI2.out.lo
  have hg := HG4.out
  have hgs := hg.size
  have hwz := hbW.size
  have hc4 : w4.heap[w2.heap.size + 1]? = _ := (hg.block (w2.heap.size + 1) (by omega) (by intro e; injection e with e; omega)).trans x1
  have hm4' : w4.heap[w2.heap.size]? = _ := (hg.block w2.heap.size (by omega) (by intro e; injection e with e; omega)).trans x2
  have hmm := HM4.out
  rw [put_C] at hmm
  refine ⟨rfl, w2.heap.size + 1, w2.heap.size, ⟨⟨hlo.1, hlo.2.1, by omega, by omega⟩, ⟨hap.1, by omega, by omega, by omega, by omega, by omega⟩, ⟨by omega, by omega⟩, c04, ⟨_, _, hmm⟩, ?_, ?_, ⟨#[], 0, hm4', rfl⟩⟩, ?_, by omega, by omega⟩
  · simp only [World.cell?, hc4]; rfl
  · simp only [World.cell?, hc4]; rfl
  · exact (((Spare.of_below hbW).trans (Spare.of_below hb3)).trans (Spare.of_grown hg)).mono (by simp)

end Go.Proofs.YtaaidlcjlplbpaaDoor.reads
