import Derived.Defers
import Derived.Recover
import Derived.Test.YtkghmgoefiepeaaGreatDoorP0
import Derived.Test.YtkghmgoefiepeaaGreatDoorP31
set_option linter.unusedSimpArgs false
set_option linter.unusedVariables false
set_option maxHeartbeats 4000000
set_option maxRecDepth 100000
namespace Go.Proofs.YtkghmgoefiepeaaGreatDoor.reads
open Go.ChangeShapes Go.WideShapes Go.ChangeAt Go.RowKit Kn Go.Proofs.YtkghmgoefiepeaaGreatDoor.img
variable {w : World}
theorem results_v1 {fn : Func} {p : Tmp} (h : fn.results = #[.cell p 33]) {tmps : Array Value} {z : Nat} (v0 v1 : Value) (hp : tmps.getD p undef = .pointer (some ⟨z, 0, none⟩)) (z0 : w.cell? ⟨z, 0, none⟩ = some v0) (z1 : w.cell? ⟨z, 1, none⟩ = some v1) :
 (results fn tmps).run Tryz.prog w = .ok (.agg #[v0, v1]) w := by
 have hp2 : tmps[p]?.getD undef = .pointer (some ⟨z, 0, none⟩) := by rw [← hp]; simp
 simp [results, h, hp2, go_sem, z0, z1]
structure FrRaw (w : World) (fb : Nat) (mp kp : Option Addr) (sf : Vl) (args : List Vl) (pc : Nat) (st : List Vl) (snd : Option Nat) : Prop where
 blk : ∃ cs : Array Value, w.heap[fb]? = some (.cells cs 212) ∧ cs.size = 45
 c0 : w.cell? ⟨fb, 0, none⟩ = some (.pointer mp)
 c1 : w.cell? ⟨fb, 1, none⟩ = some (.pointer kp)
 c2 : w.cell? ⟨fb, 2, none⟩ = some (.bool sf.obj)
 c3 : w.cell? ⟨fb, 3, none⟩ = some (.int .i64 sf.n)
 ca : ∀ i v, args[i]? = some v → w.cell? ⟨fb, 4 + i * 2, none⟩ = some (.bool v.obj) ∧ w.cell? ⟨fb, 4 + i * 2 + 1, none⟩ = some (.int .i64 v.n)
 a3 : args.length ≤ 3
 cp : w.cell? ⟨fb, 10, none⟩ = some (.int .i64 (pc : Nat))
 cs : ∀ i v, st.reverse[i]? = some v → w.cell? ⟨fb, 11 + i * 2, none⟩ = some (.bool v.obj) ∧ w.cell? ⟨fb, 11 + i * 2 + 1, none⟩ = some (.int .i64 v.n)
 s16 : st.length ≤ 16
 ch : w.cell? ⟨fb, 43, none⟩ = some (.int .i64 (st.length : Nat))
 cn : w.cell? ⟨fb, 44, none⟩ = some (.pointer (cptr snd))
theorem FrRaw.cel {fb : Nat} {mp kp : Option Addr} {sf : Vl} {args : List Vl} {pc : Nat} {st : List Vl} {snd : Option Nat} (h : FrRaw w fb mp kp sf args pc st snd) : Cel w fb := by
 obtain ⟨cs, e, _⟩ := h.blk; exact ⟨_, _, e⟩
theorem FrRaw.some {fb : Nat} {mp kp : Option Addr} {sf : Vl} {args : List Vl} {pc : Nat} {st : List Vl} {snd : Option Nat} (h : FrRaw w fb mp kp sf args pc st snd) {o : Nat} (ho : o < 45) : ∃ v, w.cell? ⟨fb, o, none⟩ = some v := by
 obtain ⟨cs, e, hz⟩ := h.blk
 refine ⟨cs[o]'(by omega), ?_⟩
 simp only [World.cell?, e]
 exact Array.getElem?_eq_getElem (by omega)
variable {w' : World}
theorem FrRaw.same {fb : Nat} {mp kp : Option Addr} {sf : Vl} {args : List Vl} {pc : Nat} {st : List Vl} {snd : Option Nat} (h : FrRaw w fb mp kp sf args pc st snd) (e : w'.heap[fb]? = w.heap[fb]?) : FrRaw w' fb mp kp sf args pc st snd := by
 have hc : ∀ o, w'.cell? ⟨fb, o, none⟩ = w.cell? ⟨fb, o, none⟩ := fun o => World.cell?_of_block e
 obtain ⟨cs, e1, hz⟩ := h.blk
 exact ⟨⟨cs, e.trans e1, hz⟩, (hc _).trans h.c0, (hc _).trans h.c1, (hc _).trans h.c2, (hc _).trans h.c3, fun i v hv => ⟨(hc _).trans (h.ca i v hv).1, (hc _).trans (h.ca i v hv).2⟩, h.a3, (hc _).trans h.cp, fun i v hv => ⟨(hc _).trans (h.cs i v hv).1, (hc _).trans (h.cs i v hv).2⟩, h.s16, (hc _).trans h.ch, (hc _).trans h.cn⟩
theorem blk_set {fb : Nat} (h : ∃ cs : Array Value, w.heap[fb]? = some (.cells cs 212) ∧ cs.size = 45) (o : Nat) (v : Value) : ∃ cs : Array Value, (w.setCell ⟨fb, o, none⟩ v).heap[fb]? = some (.cells cs 212) ∧ cs.size = 45 := by
 obtain ⟨cs, e, hz⟩ := h
 refine ⟨cs.setIfInBounds o v, ?_, by simp [hz]⟩
 simp only [World.setCell, Array.getElem?_modify, if_pos, e]
 rfl
theorem fo {fb : Nat} (W : World) (v : Value) (o p : Nat) (hne : o ≠ p) : (W.setCell ⟨fb, p, none⟩ v).cell? ⟨fb, o, none⟩ = W.cell? ⟨fb, o, none⟩ := cs_other (by intro e; injection e with e1 e2; omega)
theorem FrRaw.goto {fb : Nat} {mp kp : Option Addr} {sf : Vl} {args : List Vl} {pc : Nat} {st : List Vl} {snd : Option Nat} (h : FrRaw w fb mp kp sf args pc st snd) (pc' : Nat) : FrRaw (w.setCell ⟨fb, 10, none⟩ (.int .i64 (pc' : Nat))) fb mp kp sf args pc' st snd := by
 have h3 := h.a3
 refine ⟨blk_set h.blk _ _, (fo _ _ _ _ (by omega)).trans h.c0, (fo _ _ _ _ (by omega)).trans h.c1, (fo _ _ _ _ (by omega)).trans h.c2, (fo _ _ _ _ (by omega)).trans h.c3, fun i v hv => ?_, h.a3, cs_same h.cp, fun i v hv => ⟨(fo _ _ _ _ (by omega)).trans (h.cs i v hv).1, (fo _ _ _ _ (by omega)).trans (h.cs i v hv).2⟩, h.s16, (fo _ _ _ _ (by omega)).trans h.ch, (fo _ _ _ _ (by omega)).trans h.cn⟩
 have := (List.getElem?_eq_some_iff.1 hv).1
 exact ⟨(fo _ _ _ _ (by omega)).trans (h.ca i v hv).1, (fo _ _ _ _ (by omega)).trans (h.ca i v hv).2⟩
theorem FrRaw.lay {fb : Nat} {mp kp : Option Addr} {sf : Vl} {args : List Vl} {pc : Nat} {st : List Vl} {snd : Option Nat} (h : FrRaw w fb mp kp sf args pc st snd) (hs : st.length < 16) (v : Vl) :
 FrRaw (((w.setCell ⟨fb, 11 + st.length * 2, none⟩ (.bool v.obj)).setCell ⟨fb, 11 + st.length * 2 + 1, none⟩ (.int .i64 v.n)).setCell ⟨fb, 43, none⟩ (.int .i64 ((st.length + 1 : Nat) : Int))) fb mp kp sf args pc (v :: st) snd := by
 have h3 := h.a3
 obtain ⟨o0, h0⟩ := h.some (o := 11 + st.length * 2) (by omega)
 obtain ⟨o1, h1⟩ := h.some (o := 11 + st.length * 2 + 1) (by omega)
 have key : ∀ o, (o < 11 ∨ 44 ≤ o ∨ (11 ≤ o ∧ o < 11 + st.length * 2)) → (((w.setCell ⟨fb, 11 + st.length * 2, none⟩ (.bool v.obj)).setCell ⟨fb, 11 + st.length * 2 + 1, none⟩ (.int .i64 v.n)).setCell ⟨fb, 43, none⟩ (.int .i64 ((st.length + 1 : Nat) : Int))).cell? ⟨fb, o, none⟩ = w.cell? ⟨fb, o, none⟩ := fun o ho => by
  rw [fo _ _ _ _ (by omega), fo _ _ _ _ (by omega), fo _ _ _ _ (by omega)]
 refine ⟨blk_set (blk_set (blk_set h.blk _ _) _ _) _ _, (key _ (by omega)).trans h.c0, (key _ (by omega)).trans h.c1, (key _ (by omega)).trans h.c2, (key _ (by omega)).trans h.c3, fun i x hx => ?_, h.a3, (key _ (by omega)).trans h.cp, fun i x hx => ?_, by simp; omega, ?_, (key _ (by omega)).trans h.cn⟩
 · have := (List.getElem?_eq_some_iff.1 hx).1
   exact ⟨(key _ (by omega)).trans (h.ca i x hx).1, (key _ (by omega)).trans (h.ca i x hx).2⟩
 · rw [List.reverse_cons] at hx
   by_cases e : i < st.length
   · rw [List.getElem?_append_left (by simpa using e)] at hx
     exact ⟨(key _ (by omega)).trans (h.cs i x hx).1, (key _ (by omega)).trans (h.cs i x hx).2⟩
   · have hi : i = st.length := by have := (List.getElem?_eq_some_iff.1 hx).1; simp at this; omega
     subst hi
     rw [List.getElem?_append_right (by simp)] at hx
     simp at hx
     subst hx
     constructor
     · rw [fo _ _ _ _ (by omega), fo _ _ _ _ (by omega)]; exact cs_same h0
     · rw [fo _ _ _ _ (by omega)]; exact cs_same ((fo _ _ _ _ (by omega)).trans h1)
 · exact cs_same (((fo _ _ _ _ (by omega)).trans (fo _ _ _ _ (by omega))).trans h.ch)
theorem FrRaw.take {fb : Nat} {mp kp : Option Addr} {sf : Vl} {args : List Vl} {pc : Nat} {st : List Vl} {snd : Option Nat} (h : FrRaw w fb mp kp sf args pc st snd) {k : Nat} (hk : k ≤ st.length) :
 FrRaw (w.setCell ⟨fb, 43, none⟩ (.int .i64 ((st.length - k : Nat) : Int))) fb mp kp sf args pc (st.drop k) snd := by
 have h3 := h.a3
 have h16 := h.s16
 refine ⟨blk_set h.blk _ _, (fo _ _ _ _ (by omega)).trans h.c0, (fo _ _ _ _ (by omega)).trans h.c1, (fo _ _ _ _ (by omega)).trans h.c2, (fo _ _ _ _ (by omega)).trans h.c3, fun i v hv => ?_, h.a3, (fo _ _ _ _ (by omega)).trans h.cp, fun i v hv => ?_, by simp; omega, ?_, (fo _ _ _ _ (by omega)).trans h.cn⟩
 · have := (List.getElem?_eq_some_iff.1 hv).1
   exact ⟨(fo _ _ _ _ (by omega)).trans (h.ca i v hv).1, (fo _ _ _ _ (by omega)).trans (h.ca i v hv).2⟩
 · have hl := (List.getElem?_eq_some_iff.1 hv).1
   simp at hl
   have hv' : st.reverse[i]? = Option.some v := by
    rw [← hv, List.reverse_drop, List.getElem?_take_of_lt (by omega)]
   exact ⟨(fo _ _ _ _ (by omega)).trans (h.cs i v hv').1, (fo _ _ _ _ (by omega)).trans (h.cs i v hv').2⟩
 · rw [cs_same h.ch]; simp
def gaveUp (e : Int) : List PanicEntry := [{ v := .iface 167 (.int .i64 e), recovered := false }]
theorem lay_any {fb : Nat} {mp kp : Option Addr} {sf : Vl} {args : List Vl} {pc : Nat} {st : List Vl} {snd : Option Nat} (h : FrRaw w fb mp kp sf args pc st snd) (hs : st.length < 16) (v : Vl) :
 Calls Tryz.prog 143 #[.pointer (some ⟨fb, 0, none⟩), v.val] w fun e w' => e = .returned (.tuple #[]) ∧ FrRaw w' fb mp kp sf args pc (v :: st) snd ∧ Chg w w' (fun k => k = fb) := by
 obtain ⟨W1, hW1⟩ : ∃ W1, W1 = w.alloc (.cells #[.bool v.obj, .int .i64 v.n] 33) := ⟨_, rfl⟩
 have hC1 : Chg w W1 (fun k => k = fb) := by rw [hW1]; exact (Chg.refl w _).alloc _
 have v0 : W1.cell? ⟨w.heap.size, 0, none⟩ = some (.bool v.obj) := by rw [hW1]; exact new_cell w _ _ _ 0 rfl
 have v1 : W1.cell? ⟨w.heap.size, 1, none⟩ = some (.int .i64 v.n) := by rw [hW1]; exact new_cell w _ _ _ 1 rfl
 have hfl := h.cel.lt
 have h : FrRaw W1 fb mp kp sf args pc st snd := h.same (by rw [hW1]; exact Below.heap_alloc _ _ _ hfl)
 have HF : Hid _ := h
 obtain ⟨o0, h0⟩ := h.some (o := 11 + st.length * 2) (by omega)
 obtain ⟨o1, h1⟩ := h.some (o := 11 + st.length * 2 + 1) (by omega)
 have ch := h.ch
 have hne1 : ¬ w.heap.size = fb := by omega
 have hne2 : ¬ fb = w.heap.size := by omega
 have hn1 : ¬ 43 = 11 + st.length * 2 := by omega
 have hn2 : ¬ 43 = 11 + st.length * 2 + 1 := by omega
 have hfl := h.cel.lt
 have hfz := fun o => h.cel.free o
 have hs' : (st.length : Int) < 16 := by omega
 have k43 : ((W1.setCell ⟨fb, 11 + st.length * 2, none⟩ (.bool v.obj)).setCell ⟨fb, 11 + st.length * 2 + 1, none⟩ (.int .i64 v.n)).cell? ⟨fb, 43, none⟩ = some (.int .i64 (st.length : Nat)) := by rw [fo _ _ _ _ hn2, fo _ _ _ _ hn1]; exact ch
 clear h
 unfold Vl.val
 go_enter Tryz.func143, Tryz.ntmps143
 go_wp2_with fail
 rw [← hW1]
 clear hW1
 refine wp_region_noPanic ?_
 refine wp_region_held_drew (S := (fun w' => w'.cell? ⟨w.heap.size, 0, none⟩ = some (.bool v.obj) ∧ w'.cell? ⟨w.heap.size, 1, none⟩ = some (.int .i64 v.n) ∧ w'.cell? ⟨fb, 43, none⟩ = some (.int .i64 (st.length : Nat)))) (by kernel_rfl) (by go_keep) (fun hHeld => ?_)
 refine tkH 0 ?_
 refine tkH 1 ?_
 refine tkH 2 ?_
 refine tkH 3 ?_
 refine tkH 4 ?_
 refine tkH 5 ?_
 refine tkH 6 ?_
 refine tkL 7 ?_
 refine rdH 8 fun Kmac hKmac => ?_
 go_simp
 refine hKmac.go fun hHeld => ?_
 clear hKmac Kmac
 try refine lyH ?_
 refine rdH 9 fun Kmac hKmac => ?_
 go_simp
 refine hKmac.go fun hHeld => ?_
 clear hKmac Kmac
 try refine lyH ?_
 refine wpAnyH_done (by kernel_rfl) ?_ _
 refine NoPanic.normal ?_
 go_wp2
 go_end0
 exact ⟨rfl, (HF.out.lay hs v).same rfl, (((hC1.setCell _ _ (fun _ => rfl)).setCell _ _ (fun _ => rfl)).setCell _ _ (fun _ => rfl)).drew⟩
theorem take_all {fb : Nat} {mp kp : Option Addr} {sf : Vl} {args : List Vl} {pc : Nat} {v : Vl} {st : List Vl} {snd : Option Nat} (h : FrRaw w fb mp kp sf args pc (v :: st) snd) :
 Calls Tryz.prog 144 #[.pointer (some ⟨fb, 0, none⟩)] w fun e w' => e = .returned v.val ∧ FrRaw w' fb mp kp sf args pc st snd ∧ Chg w w' (fun k => k = fb) ∧ ∀ o, o ≠ 43 → w'.cell? ⟨fb, o, none⟩ = w.cell? ⟨fb, o, none⟩ := by
 have hfl := h.cel.lt
 have h16 := h.s16
 simp only [List.length_cons] at h16
 obtain ⟨x0, x1⟩ := h.cs st.length v (by rw [List.reverse_cons, List.getElem?_append_right (by simp)]; simp)
 obtain ⟨W2, hW2⟩ : ∃ W2, W2 = (w.setCell ⟨fb, 43, none⟩ (.int .i64 (st.length : Nat))).alloc (.cells #[.bool false, .int .i64 0] 33) := ⟨_, rfl⟩
 have hfr : FrRaw W2 fb mp kp sf args pc st snd := by
  have := h.take (k := 1) (by simp)
  simp only [List.length_cons, Nat.add_sub_cancel, List.drop_succ_cons, List.drop_zero] at this
  rw [hW2]
  exact this.same (Below.heap_alloc _ _ _ (by simpa [World.setCell] using hfl))
 have HF : Hid _ := hfr
 have hC2 : Chg w W2 (fun k => k = fb) := by rw [hW2]; exact ((Chg.refl w (fun k => k = fb)).setCell _ _ (fun _ => rfl)).alloc _
 have hzs : (w.setCell ⟨fb, 43, none⟩ (.int .i64 (st.length : Nat))).heap.size = w.heap.size := by simp [World.setCell]
 have hb : W2.heap[w.heap.size]? = some (.cells #[.bool false, .int .i64 0] 33) := by
  rw [hW2]
  have := (MapKept.heap_alloc (w.setCell ⟨fb, 43, none⟩ (.int .i64 (st.length : Nat))) (.cells #[.bool false, .int .i64 0] 33)).1
  rw [hzs] at this
  exact this
 have ch := h.ch
 simp only [List.length_cons, Int.natCast_add, Int.natCast_one] at ch
 have fz := fun o => h.cel.free o
 have z0 : W2.cell? ⟨w.heap.size, 0, none⟩ = some (.bool false) := by simp only [World.cell?, hb]; rfl
 have z1 : W2.cell? ⟨w.heap.size, 1, none⟩ = some (.int .i64 0) := by simp only [World.cell?, hb]; rfl
 have zf : ∀ o, W2.frozen? ⟨w.heap.size, o, none⟩ = false := fun o => Cel.free ⟨_, _, hb⟩ o
 have ch2 := hfr.ch
 have hfl2 := hfr.cel.lt
 have hblk : W2.heap[fb]? = (w.setCell ⟨fb, 43, none⟩ (.int .i64 (st.length : Nat))).heap[fb]? := by rw [hW2]; exact Below.heap_alloc _ _ _ (by rw [hzs]; exact hfl)
 have y0 : W2.cell? ⟨fb, 11 + st.length * 2, none⟩ = some (.bool v.obj) := (World.cell?_of_block (a := ⟨fb, 11 + st.length * 2, none⟩) hblk).trans ((fo _ _ _ _ (by omega)).trans x0)
 have y1 : W2.cell? ⟨fb, 11 + st.length * 2 + 1, none⟩ = some (.int .i64 v.n) := (World.cell?_of_block (a := ⟨fb, 11 + st.length * 2 + 1, none⟩) hblk).trans ((fo _ _ _ _ (by omega)).trans x1)
 have hne1 : ¬ w.heap.size = fb := by omega
 have hne2 : ¬ fb = w.heap.size := by omega
 have hs' : (st.length : Int) < 16 := by omega
 have HBK : Hid _ := hblk
 clear h hfr hb hblk x0 x1
 unfold Vl.val
 go_enter Tryz.func144, Tryz.ntmps144
 go_wp2_with fail
 rw [← hW2]
 clear hW2 ch fz
 refine wp_region_noPanic ?_
 refine wp_region_held_drew (S := (fun w' => w'.cell? ⟨fb, 11 + st.length * 2, none⟩ = some (.bool v.obj) ∧ w'.cell? ⟨fb, 11 + st.length * 2 + 1, none⟩ = some (.int .i64 v.n) ∧ w'.cell? ⟨fb, 43, none⟩ = some (.int .i64 (st.length : Nat)))) (by kernel_rfl) (by go_keep) (fun hHeld => ?_)
 refine tkH 0 ?_
 refine tkH 1 ?_
 refine tkH 2 ?_
 refine tkH 3 ?_
 refine tkH 4 ?_
 refine tkH 5 ?_
 refine tkL 6 ?_
 refine rdH 7 fun Kmac hKmac => ?_
 go_simp
 refine hKmac.go fun hHeld => ?_
 clear hKmac Kmac
 try refine lyH ?_
 refine tkL 8 ?_
 refine rdH 9 fun Kmac hKmac => ?_
 go_simp
 refine hKmac.go fun hHeld => ?_
 clear hKmac Kmac
 try refine lyH ?_
 refine wpAnyH_done (by kernel_rfl) ?_ _
 refine NoPanic.normal ?_
 go_wp2
 have hfb : ((W2.setCell ⟨w.heap.size, 0, none⟩ (.bool v.obj)).setCell ⟨w.heap.size, 1, none⟩ (.int .i64 v.n)).heap[fb]? = W2.heap[fb]? := (Below.heap_setCell _ _ _ _ hne2).trans (Below.heap_setCell _ _ _ _ hne2)
 refine bodyPost_ret (results_v1 (z := w.heap.size) Tryz.results144 (.bool v.obj) (.int .i64 v.n) rfl ?_ ?_) rfl ⟨rfl, HF.out.same hfb, (hC2.then ((((Chg.refl W2 (fun k => k = w.heap.size)).setCell _ _ (fun _ => rfl)).setCell _ _ (fun _ => rfl))) (fun k hk e => by omega)).drew, fun o ho => (World.cell?_of_block (a := ⟨fb, o, none⟩) hfb).trans ((World.cell?_of_block (a := ⟨fb, o, none⟩) HBK.out).trans (fo _ _ _ _ ho))⟩
 · show ((W2.setCell ⟨w.heap.size, 0, none⟩ (.bool v.obj)).setCell ⟨w.heap.size, 1, none⟩ (.int .i64 v.n)).cell? ⟨w.heap.size, 0, none⟩ = _
   rw [fo _ _ _ _ (by omega)]
   exact cs_same z0
 · exact cs_same ((fo _ _ _ _ (by omega)).trans z1)
theorem take_any {fb : Nat} {mp kp : Option Addr} {sf : Vl} {args : List Vl} {pc : Nat} {v : Vl} {st : List Vl} {snd : Option Nat} (h : FrRaw w fb mp kp sf args pc (v :: st) snd) :
 Calls Tryz.prog 144 #[.pointer (some ⟨fb, 0, none⟩)] w fun e w' => e = .returned v.val ∧ FrRaw w' fb mp kp sf args pc st snd ∧ Chg w w' (fun k => k = fb) :=
 (take_all h).mono (fun e w' ⟨h1, h2, h3, _⟩ => ⟨h1, h2, h3⟩)
theorem takeN_ok {fb : Nat} {mp kp : Option Addr} {sf : Vl} {args : List Vl} {pc : Nat} {n : Int} {st : List Vl} {snd : Option Nat} (h : FrRaw w fb mp kp sf args pc (⟨false, n⟩ :: st) snd) :
 Calls Tryz.prog 147 #[.pointer (some ⟨fb, 0, none⟩)] w fun e w' => e = .returned (.int .i64 n) ∧ FrRaw w' fb mp kp sf args pc st snd ∧ Chg w w' (fun k => k = fb) := by
 have hcall := take_any h
 unfold Vl.val at hcall
 clear h
 go_enter Tryz.func147, Tryz.ntmps147
 go_wp2_with fail
 refine hcall.mono ?_
 rintro e w' ⟨rfl, hf, hc⟩
 have HF : Hid (FrRaw (w'.alloc (.cells #[.bool false, .int .i64 n] 33)) fb mp kp sf args pc st snd ∧ Chg w (w'.alloc (.cells #[.bool false, .int .i64 n] 33)) (fun k => k = fb)) := ⟨hf.same (Below.heap_alloc _ _ _ hf.cel.lt), hc.alloc _⟩
 clear hf hc hcall
 go_wp2
 go_ret
 exact ⟨rfl, HF.out⟩
theorem takeN_no {fb : Nat} {mp kp : Option Addr} {sf : Vl} {args : List Vl} {pc : Nat} {n : Int} {st : List Vl} {snd : Option Nat} (h : FrRaw w fb mp kp sf args pc (⟨true, n⟩ :: st) snd) :
 Calls Tryz.prog 147 #[.pointer (some ⟨fb, 0, none⟩)] w fun e w' => e = .panicked (gaveUp 3) ∧ Chg w w' (fun k => k = fb) := by
 have hcall := take_any h
 unfold Vl.val at hcall
 clear h
 go_enter Tryz.func147, Tryz.ntmps147
 go_wp2_with fail
 refine hcall.mono ?_
 rintro e w' ⟨rfl, hf, hc⟩
 have HF : Hid (Chg w (w'.alloc (.cells #[.bool true, .int .i64 n] 33)) (fun k => k = fb)) := hc.alloc _
 clear hf hc hcall
 go_wp2
 exact ⟨rfl, rfl, HF.out⟩
theorem takeNs_ok {fb : Nat} {mp kp : Option Addr} {sf : Vl} {args : List Vl} {pc : Nat} {a b : Int} {st : List Vl} {snd : Option Nat} (h : FrRaw w fb mp kp sf args pc (⟨false, b⟩ :: ⟨false, a⟩ :: st) snd) :
 Calls Tryz.prog 145 #[.pointer (some ⟨fb, 0, none⟩)] w fun e w' => e = .returned (.tuple #[.int .i64 a, .int .i64 b]) ∧ FrRaw w' fb mp kp sf args pc st snd ∧ Chg w w' (fun k => k = fb) := by
 have hcall := takeN_ok h
 clear h
 go_enter Tryz.func145, Tryz.ntmps145
 go_wp2_with fail
 refine hcall.mono ?_
 rintro e w' ⟨rfl, hf, hc⟩
 have hcall2 := takeN_ok hf
 clear hf hcall
 go_wp2_with fail
 refine hcall2.mono ?_
 rintro e w2 ⟨rfl, hf, hc2⟩
 have HF : Hid (FrRaw w2 fb mp kp sf args pc st snd ∧ Chg w w2 (fun k => k = fb)) := ⟨hf, hc.then hc2 (fun k _ e => e)⟩
 clear hf hc hcall2 hc2
 go_wp2
 go_ret2
 exact ⟨rfl, HF.out⟩
theorem takeNs_no {fb : Nat} {mp kp : Option Addr} {sf : Vl} {args : List Vl} {pc : Nat} {a b : Vl} {st : List Vl} {snd : Option Nat} (h : FrRaw w fb mp kp sf args pc (b :: a :: st) snd) (ho : (a.obj || b.obj) = true) :
 Calls Tryz.prog 145 #[.pointer (some ⟨fb, 0, none⟩)] w fun e w' => e = .panicked (gaveUp 3) ∧ Chg w w' (fun k => k = fb) := by
 obtain ⟨bo, bn⟩ := b
 obtain ⟨ao, an⟩ := a
 cases bo with
 | true =>
  have hcall := takeN_no h
  clear h
  go_enter Tryz.func145, Tryz.ntmps145
  go_wp2_with fail
  refine hcall.mono ?_
  rintro e w' ⟨rfl, hc⟩
  have HF : Hid _ := hc
  clear hc hcall
  go_wp2
  exact ⟨rfl, rfl, HF.out⟩
 | false =>
  simp at ho
  subst ho
  have hcall := takeN_ok h
  clear h
  go_enter Tryz.func145, Tryz.ntmps145
  go_wp2_with fail
  refine hcall.mono ?_
  rintro e w' ⟨rfl, hf, hc⟩
  have hcall2 := takeN_no hf
  clear hf hcall
  go_wp2_with fail
  refine hcall2.mono ?_
  rintro e w2 ⟨rfl, hc2⟩
  have HF : Hid (Chg w w2 (fun k => k = fb)) := hc.then hc2 (fun k _ e => e)
  clear hc hcall2 hc2
  go_wp2
  exact ⟨rfl, rfl, HF.out⟩
theorem is_gaveUp (v : Value) (w : World) : (Instr.typeAssert (.iface 167 v) 20 167 true).run Tryz.prog w = .ok (.tuple #[v, .bool true]) w := by
 simp [Instr.typeAssert, run_underlying Tryz.underlying167]
theorem caught (p : Addr) (x n : Int) (older : List PanicEntry) (w : World) (hc : w.cell? p = some (.int .i64 x)) (hz : w.frozen? p = false) :
 CallsD Tryz.prog 87 #[.pointer (some p)] (.panicking ({ v := .iface 167 (.int .i64 n), recovered := false } :: older)) w fun e u' w' =>
  e = .returned (.tuple #[]) ∧ u' = .panicking ({ v := .iface 167 (.int .i64 n), recovered := true } :: older) ∧ w' = w.setCell p (.int .i64 n) := by
 refine callsD_of_wpS Tryz.func87 rfl fun c₀ cs hu => ?_
 apply wpS_seq
 apply wpS_region
 simp [wpOpsS, go_sem, recoverD, hu, Tryz.ntmps87, Exit.thenS]
 refine wpS_of_wp ?_
 rw [show #[Value.pointer (some p)] ++ (Array.replicate 10 undef).setIfInBounds 3 (.iface 167 (.int .i64 n)) = #[.pointer (some p), undef, undef, undef, (.iface 167 (.int .i64 n)), undef, undef, undef, undef, undef, undef] from rfl]
 have hta := is_gaveUp (.int .i64 n)
 go_wp2
 simp [bodyPostS, results, Tryz.results87]
theorem idle (p : Addr) (w : World) :
 CallsD Tryz.prog 87 #[.pointer (some p)] .returning w fun e u' w' => e = .returned (.tuple #[]) ∧ u' = .returning ∧ w' = w := by
 refine callsD_of_wpS Tryz.func87 rfl fun c₀ cs hu => ?_
 apply wpS_seq
 apply wpS_region
 simp [wpOpsS, go_sem, recoverD, hu, Tryz.ntmps87, Exit.thenS]
 refine wpS_of_wp ?_
 rw [show #[Value.pointer (some p)] ++ (Array.replicate 10 undef).setIfInBounds 3 .nilIface = #[.pointer (some p), undef, undef, undef, .nilIface, undef, undef, undef, undef, undef, undef] from rfl]
 go_wp2
 cases c₀
 simp_all [bodyPostS, results, Tryz.results87]
end Go.Proofs.YtkghmgoefiepeaaGreatDoor.reads
