/- kin: New, Class and Method, of the law's image and class (seat of Reads). -/
import Derived.Test.YtkghmgoefiepeaaDoorSetD
import Derived.Test.YtkghmgoefiepeaaDoorHom
import Derived.Test.YtkghmgoefiepeaaDoorMth
import Derived.Test.YtkghmgoefiepeaaDoorTab
namespace Go.Proofs.YtkghmgoefiepeaaDoor.reads
open Go.ChangeShapes Go.WideShapes Go.ChangeAt Go.RowKit Kn Go.Proofs.YtkghmgoefiepeaaDoor.img
set_option linter.unusedSimpArgs false
set_option linter.unusedVariables false

/-- An image that remembers nothing; B: none of it lies below. -/
structure KB (w : World) (B b mb sb : Nat) : Prop where
  lo : B ≤ b ∧ B ≤ mb ∧ B ≤ sb
  ne : mb ≠ sb
  c0 : w.cell? ⟨b, 0, none⟩ = some (.map (some mb))
  c5 : w.cell? ⟨b, 5, none⟩ = some (.map (some sb))
  tab : TabAt w b 8 (fun _ => noRow)
  snd : SndAt w sb [] (fun _ => [])
theorem KB.chg {w w' : World} {B b mb sb : Nat} {S : Nat → Prop} (h : KB w B b mb sb) (hc : Chg w w' S) (hb : ¬ S b) (hs : ¬ S sb) : KB w' B b mb sb := by
  have hbb := hc.block b h.tab.cel.lt hb
  exact ⟨h.lo, h.ne, (World.cell?_of_block hbb).trans h.c0, (World.cell?_of_block hbb).trans h.c5, h.tab.same hbb, h.snd.chg hc hs (fun s ib e => by simp [List.lookup] at e) (fun s ib q e => by simp [List.lookup] at e)⟩
structure K0 (w : World) (B b mb sb a : Nat) : Prop where
  kb : KB w B b mb sb
  la : B ≤ a
  map : ∃ i, SMap w mb [(nmAny, .pointer (some ⟨a, 0, none⟩)), (nmInt, .pointer (some ⟨i, 0, none⟩))]
  ca : w.cell? ⟨a, 3, none⟩ = some (.int .i64 0)
theorem K0.chg {w w' : World} {B b mb sb a : Nat} {S : Nat → Prop} (h : K0 w B b mb sb a) (hc : Chg w w' S) (hb : ¬ S b) (hs : ¬ S sb) (hm : ¬ S mb) (ha : ¬ S a) : K0 w' B b mb sb a := by
  obtain ⟨i, hi⟩ := h.map
  exact ⟨h.kb.chg hc hb hs, h.la, ⟨i, hi.same (hc.block _ hi.lt hm)⟩, (World.cell?_of_block (a := ⟨a, 3, none⟩) (hc.block a (World.block_lt_of_cell? w ⟨a, 3, none⟩ h.ca) ha)).trans h.ca⟩
structure K1 (w : World) (B b mb sb c cm : Nat) (n : Int) : Prop where
  kb : KB w B b mb sb
  lo : B ≤ c ∧ B ≤ cm
  ne : cm ≠ mb ∧ cm ≠ sb
  map : ∃ a i, SMap w mb [(nmAny, a), (nmInt, i), (⟨#[67]⟩, .pointer (some ⟨c, 0, none⟩))]
  cel : Cel w c
  cs : w.cell? ⟨c, 3, none⟩ = some (.int .i64 n)
  cc : w.cell? ⟨c, 4, none⟩ = some (.map (some cm))
  mm : SMap w cm []
theorem K1.chg {w w' : World} {B b mb sb c cm : Nat} {n : Int} {S : Nat → Prop} (h : K1 w B b mb sb c cm n) (hc : Chg w w' S) (hb : ¬ S b) (hs : ¬ S sb) (hm : ¬ S mb) (hcc : ¬ S c) (hcm : ¬ S cm) : K1 w' B b mb sb c cm n := by
  obtain ⟨a, i, hi⟩ := h.map
  have hx := hc.block c h.cel.lt hcc
  exact ⟨h.kb.chg hc hb hs, h.lo, h.ne, ⟨a, i, hi.same (hc.block _ hi.lt hm)⟩, h.cel.same hx, (World.cell?_of_block hx).trans h.cs, (World.cell?_of_block hx).trans h.cc, h.mm.same (hc.block _ h.mm.lt hcm)⟩

theorem chg_spare {w w' : World} {L : List Nat} (hs : Spare w w' L) : Chg w w' (fun k => k ∈ L) := ⟨hs.os, hs.tape, hs.output, hs.size, fun k hk hn => hs.block k hk hn⟩
theorem K0.below {w w' : World} {B b mb sb a : Nat} (h : K0 w B b mb sb a) (hb : Below w.heap.size w w') : K0 w' B b mb sb a := h.chg (Chg.of_below hb (fun _ => False)) (fun h => h) (fun h => h) (fun h => h) (fun h => h)
theorem K1.spare {w w' : World} {B b mb sb c cm : Nat} {n : Int} {L : List Nat} (h : K1 w B b mb sb c cm n) (hs : Spare w w' L) (hb : b ∉ L) (hsb : sb ∉ L) (hm : mb ∉ L) (hc : c ∉ L) (hcm : cm ∉ L) : K1 w' B b mb sb c cm n := h.chg (chg_spare hs) hb hsb hm hc hcm

theorem methodIs_sel0 {sel src : List UInt8} {n : Nat} {a : Int} (h : MethodIs sel src n 0 a) : selector sel = true := by
  rcases h with ⟨_, h, _⟩ | ⟨_, _, h, _⟩ | ⟨_, _, _, h, _⟩ | ⟨hs, _⟩
  · omega
  · omega
  · omega
  · exact hs

theorem knew_28 (w : World) :
    Calls Tryd.prog 4 #[.int .i64 2, .int .i64 8] w fun e w' => ∃ b mb sb a, e = .returned (.tuple #[.pointer (some ⟨b, 0, none⟩), .int .i64 0]) ∧ K0 w' w.heap.size b mb sb a ∧ Below w.heap.size w w' := by
  refine (new_ok 2 8 w (by omega) (by omega) (by omega) (by omega) (by decide)).mono ?_
  rintro e w' ⟨rfl, ⟨j, h⟩, hb⟩
  obtain ⟨h0, _, _, _, _, h5⟩ := img_heads h.img
  refine ⟨w.heap.size + 2, w.heap.size, w.heap.size + 1, w.heap.size + 4, rfl, ⟨⟨⟨by omega, by omega, by omega⟩, by omega, h0, h5, new_tab (n := 8) h.img (by omega) (by omega), new_snd h.snd⟩, by omega, ⟨_, h.cls⟩, ?_⟩, hb⟩
  simp only [World.cell?, h.anyC]; rfl

theorem look_two (p q : Value) : ([(nmAny, p), (nmInt, q)] : List (ByteArray × Value)).lookup ⟨#[67]⟩ = none ∧ ([(nmAny, p), (nmInt, q)] : List (ByteArray × Value)).lookup ⟨#[65, 110, 121]⟩ = some p := by
  have e1 : ((⟨#[67]⟩ : ByteArray) == nmAny) = false := (beq_ba_false _ _).2 (by simp [nmAny])
  have e2 : ((⟨#[67]⟩ : ByteArray) == nmInt) = false := (beq_ba_false _ _).2 (by simp [nmInt])
  have e3 : ((⟨#[65, 110, 121]⟩ : ByteArray) == nmAny) = true := (beq_ba _ _).2 (by simp [nmAny])
  constructor <;> simp [List.lookup, e1, e2, e3]
theorem put_C (p q r : Value) : Kn.put [(nmAny, p), (nmInt, q)] ⟨#[67]⟩ r = [(nmAny, p), (nmInt, q), (⟨#[67]⟩, r)] := by
  have e1 : ((⟨#[67]⟩ : ByteArray) == nmAny) = false := (beq_ba_false _ _).2 (by simp [nmAny])
  have e2 : ((⟨#[67]⟩ : ByteArray) == nmInt) = false := (beq_ba_false _ _).2 (by simp [nmInt])
  simp [Kn.put, e1, e2]
theorem name_C : className (bl ⟨#[67]⟩) = true := by decide

theorem kC_neg (n : Int) (w : World) (b : Nat) (hn : n < 0) :
    Calls Tryd.prog 7 #[.pointer (some ⟨b, 0, none⟩), .string ⟨#[67]⟩, .string ⟨#[65, 110, 121]⟩, .int .i64 n] w fun e w' => e = .returned (.int .i64 1) ∧ Below w.heap.size w w' := class_bad _ _ n b w (by decide) (.inr hn)
theorem kC_big (n : Int) (w : World) (B b mb sb a : Nat) (hn : 10 < n) (h : K0 w B b mb sb a) :
    Calls Tryd.prog 7 #[.pointer (some ⟨b, 0, none⟩), .string ⟨#[67]⟩, .string ⟨#[65, 110, 121]⟩, .int .i64 n] w fun e w' => e = .returned (.int .i64 9) ∧ Below w.heap.size w w' := by
  obtain ⟨i, hm⟩ := h.map
  exact class_err _ _ n b mb _ w (by decide) name_C (by omega) h.kb.c0 hm 9 (.inr (.inr ⟨a, 0, (look_two _ _).1, (look_two _ _).2, h.ca, by omega, by omega, .inl ⟨by omega, rfl⟩⟩))
theorem kC_ok (n : Int) (w : World) (B b mb sb a : Nat) (hn0 : 0 ≤ n) (hn : n ≤ 10) (hB : B ≤ w.heap.size) (h : K0 w B b mb sb a) :
    Calls Tryd.prog 7 #[.pointer (some ⟨b, 0, none⟩), .string ⟨#[67]⟩, .string ⟨#[65, 110, 121]⟩, .int .i64 n] w fun e w' => e = .returned (.int .i64 0) ∧ ∃ c cm, K1 w' B b mb sb c cm n ∧ Spare w w' [mb] ∧ w.heap.size ≤ c ∧ w.heap.size ≤ cm := by
  obtain ⟨i, hm⟩ := h.map
  refine (class_ok _ _ n 0 b mb a _ w (by decide) name_C hn0 h.kb.c0 hm (look_two _ _).1 (look_two _ _).2 h.ca (by omega) (by omega) (by omega) (by simp)).mono ?_
  rintro e w' ⟨rfl, cm, hlo, hm', hmp, hcl, hch⟩
  rw [put_C] at hm'
  have hbm : ¬ b = mb := fun e => cel_ne_map h.kb.tab.cel hm e
  have hml := hm.lt
  have hsl := h.kb.snd.map.lt
  refine ⟨rfl, cm + 1, cm, ⟨h.kb.chg hch hbm (fun e => h.kb.ne e.symm), ⟨by omega, by omega⟩, ⟨by omega, by omega⟩, ⟨_, _, hm'⟩, ⟨_, _, hcl⟩, ?_, ?_, sMap_empty hmp⟩, ⟨hch.os, hch.tape, hch.output, hch.size, fun k hk hn => hch.block k hk (fun e => hn (by simp [e]))⟩, by omega, hlo⟩
  · simp only [World.cell?, hcl]; simp
  · simp only [World.cell?, hcl]; rfl

theorem kM_none (sel src : ByteArray) (w : World) (B b mb sb a : Nat) (h : K0 w B b mb sb a) :
    Calls Tryd.prog 9 #[.pointer (some ⟨b, 0, none⟩), .string ⟨#[67]⟩, .string sel, .string src] w fun e w' => e = .returned (.tuple #[.int .i64 2, .int .i64 0]) ∧ w' = w := by
  obtain ⟨i, hm⟩ := h.map
  refine meth_none _ sel src b mb w h.kb.c0 ?_
  rw [lookup_cls w mb _ hm, (look_two _ _).1]
  rfl

theorem kM_any (n : Nat) (sel src : ByteArray) (w : World) (B b mb sb c cm : Nat) (hn : n ≤ 10) (hs1 : sel.size ≤ 140737488355328) (hs2 : src.size ≤ 140737488355328) (h : K1 w B b mb sb c cm n)
    (hg0 : 0 < w.heap.size) (hg1 : 2 < w.heap.size) (hg2 : 1 < w.heap.size) (hE : HasEff w) (hT1 : HasPlains w) (hT2 : HasHeads w) :
    Calls Tryd.prog 9 #[.pointer (some ⟨b, 0, none⟩), .string ⟨#[67]⟩, .string sel, .string src] w fun e w' => ∃ r a : Int, e = .returned (.tuple #[.int .i64 r, .int .i64 a]) ∧ MethodIs (bl sel) (bl src) n r a ∧ Spare w w' [cm, b, sb] := by
  obtain ⟨a, i, hm⟩ := h.map
  have lk : (Instr.lookup 37 (.map (some mb)) (.string ⟨#[67]⟩) false).run Tryd.prog w = .ok (.pointer (some ⟨c, 0, none⟩)) w := by
    rw [lookup_cls w mb _ hm]
    have e1 : ((⟨#[67]⟩ : ByteArray) == nmAny) = false := (beq_ba_false _ _).2 (by simp [nmAny])
    have e2 : ((⟨#[67]⟩ : ByteArray) == nmInt) = false := (beq_ba_false _ _).2 (by simp [nmInt])
    simp [List.lookup, e1, e2, beq_ba_self]
  refine (meth_any n _ sel src w b mb c (fun w' => Spare w w' [cm, b, sb]) hn hs1 hs2 h.kb.c0 lk h.cs hg0 hg1 hg2 hE hT1 hT2 ?_).mono ?_
  · intro w' m g cap p ws pl hws hmi hN
    have hB := hN.below
    have h1 : K1 w' B b mb sb c cm n := h.chg (S := fun _ => False) ⟨hB.os, hB.tape, hB.output, hB.size, fun k hk _ => hB.block k hk⟩ (fun h => h) (fun h => h) (fun h => h) (fun h => h) (fun h => h)
    have hlen : ws.length ≤ 40 := by rw [← hws]; exact words_le (bl src)
    have hcl := h.cel.lt
    have hbl := h.kb.tab.cel.lt
    have hsl := h.kb.snd.map.lt
    have hcml := h.mm.lt
    refine give_new b c cm m sb g cap p ws pl [] [] (fun _ => []) 0 sel w' _ hlen (by unfold Go.RowKit.wrap64; omega) h1.cc h1.cel h1.mm (by simp [List.lookup]) h1.ne.2 (fun s => by simp [List.lookup]) h1.kb.c5 h1.kb.tab.cel hN.mm (by have := hN.lo; omega) (by have := hN.lo; omega) hN.gm hN.at_
      (fun i x hx hs => (hN.np.mem i x (List.getElem?_eq_some_iff.1 hx).1 hx hs).1.cel) h1.kb.snd ?_
    intro w2 l ps hcm2 hsn hnew hreg hm2 hch
    have hne : ∀ k, k < w'.heap.size → (k ≠ cm) → k ≠ m → k ≠ sb → w2.heap[k]? = w'.heap[k]? := fun k hk e1 e2 e3 => hch.block k hk (fun e => by
      rcases e with e | e | e | ⟨s, e⟩
      · exact e1 e
      · exact e2 e
      · exact e3 e
      · simp [List.lookup] at e)
    have hlo := hN.lo
    have hz := hB.size
    have hb2 : w2.heap[b]? = w'.heap[b]? := hne b (by omega) (cel_ne_map h1.kb.tab.cel h1.mm) (by omega) (cel_ne_map h1.kb.tab.cel h1.kb.snd.map)
    have hsz : sel.size ≠ 0 := fun e => by
      have hs := methodIs_sel0 hmi
      have := (sel_parts hs).1
      omega
    refine (changed_no b c sb 8 l ps (fun _ => noRow) sel w2 ((World.cell?_of_block hb2).trans h1.kb.c5) hsn (h1.kb.tab.same hb2) (fun i _ e => hsz (by rw [← e]; rfl)) ?_).mono ?_
    · intro q hq
      rcases (hreg sel q).1 hq with ⟨ib, e, _⟩ | ⟨i, x, hx, hs, _, rfl⟩
      · simp [List.lookup] at e
      · obtain ⟨h2, h3⟩ := hN.np.mem i x (List.getElem?_eq_some_iff.1 hx).1 hx hs
        refine h2.same (hne _ h2.lt (cel_ne_map h2.cel h1.mm) (fun e => ?_) (cel_ne_map h2.cel h1.kb.snd.map))
        unfold NoMem at h2
        rw [e, hN.mm] at h2
        simp at h2
    · rintro e w3 ⟨rfl, hch3⟩
      refine ⟨rfl, ⟨hch3.os.trans (hch.os.trans hB.os), hch3.tape.trans (hch.tape.trans hB.tape), hch3.output.trans (hch.output.trans hB.output), Nat.le_trans hz (Nat.le_trans hch.size hch3.size), fun k hk hn => ?_⟩⟩
      simp only [List.mem_cons, List.not_mem_nil, or_false, not_or] at hn
      have h4 : w2.heap[k]? = w'.heap[k]? := hne k (by omega) hn.1 (by omega) hn.2.2
      refine (hch3.block k (Nat.lt_of_lt_of_le hk (Nat.le_trans hz hch.size)) (fun e => ?_)).trans (h4.trans (hB.block k hk))
      rcases e with e | e
      · exact hn.2.1 e
      · rcases (hreg sel k).1 e with ⟨ib, e', _⟩ | ⟨i, x, hx, hs, _, e'⟩
        · simp [List.lookup] at e'
        · have := (hN.np.mem i x (List.getElem?_eq_some_iff.1 hx).1 hx hs).2
          omega
  · rintro e w' ⟨r, a', rfl, hmi, h5⟩
    refine ⟨r, a', rfl, hmi, ?_⟩
    rcases h5 with ⟨_, hb⟩ | ⟨_, hs⟩
    · exact ⟨hb.os, hb.tape, hb.output, hb.size, fun k hk _ => hb.block k hk⟩
    · exact hs

end Go.Proofs.YtkghmgoefiepeaaDoor.reads
