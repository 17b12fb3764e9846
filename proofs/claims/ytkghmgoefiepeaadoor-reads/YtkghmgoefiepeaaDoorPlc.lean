/- kin: places; a method is made of words. -/
import Derived.Test.YtkghmgoefiepeaaDoorKinQ
import Derived.Test.YtkghmgoefiepeaaDoorCls
import Derived.Test.YtkghmgoefiepeaaDoorMaps
import Derived.Deep.RegionHeld3
import Derived.Deep.DrawnRows
namespace Go.Proofs.YtkghmgoefiepeaaDoor.reads
open Go.ChangeShapes Go.WideShapes Go.ChangeAt Go.RowKit Kn Go.Proofs.YtkghmgoefiepeaaDoor.img
set_option linter.unusedSimpArgs false
set_option linter.unusedVariables false

/-- A place that remembers nothing. -/
def NoMem (w : World) (p : Nat) : Prop := w.heap[p]? = some (.cells #[.iface 136 (.agg #[])] 132)

theorem newPlace_any (w : World) : Calls Tryd.prog 43 #[] w fun e w' => e = .returned (.pointer (some ⟨w.heap.size, 0, none⟩)) ∧ w' = w.alloc (.cells #[.iface 136 (.agg #[])] 132) := by
  go_enter Tryd.func43, Tryd.ntmps43
  go_wp2
  go_ret
  exact ⟨rfl, rfl⟩

/-- Does a word send? -/
def sendsW (x : W) : Bool := decide (x.k = 115 ∨ x.k = 94)
/-- The words of a method: those below n that send have their places. -/
structure MAt (w : World) (p : Option Addr) (g : Nat) (ws : List (W × Nat)) (pl : Nat → Nat) (n : Nat) : Prop where
  head : 1 ≤ ws.length → p = some ⟨g, 0, none⟩
  cel : 1 ≤ ws.length → Cel w g
  c0 : ∀ i x, ws[i]? = some x → w.cell? ⟨g, i * 6, none⟩ = some (.int .i64 (kindOf x.1.k : Nat))
  c1 : ∀ i x, ws[i]? = some x → w.cell? ⟨g, i * 6 + 1, none⟩ = some (.int .i64 x.1.n)
  c2 : ∀ i x, ws[i]? = some x → w.cell? ⟨g, i * 6 + 2, none⟩ = some (.string (ofL x.1.a))
  c3 : ∀ i x, ws[i]? = some x → w.cell? ⟨g, i * 6 + 3, none⟩ = some (.string (ofL x.1.sel))
  c4 : ∀ i x, ws[i]? = some x → w.cell? ⟨g, i * 6 + 4, none⟩ = some (.string (ofL x.1.b))
  c5 : ∀ i x, ws[i]? = some x → w.cell? ⟨g, i * 6 + 5, none⟩ = some (.pointer (if i < n ∧ sendsW x.1 = true then some ⟨pl i, 0, none⟩ else none))
theorem MAt.same {w w' : World} {p : Option Addr} {g : Nat} {ws : List (W × Nat)} {pl : Nat → Nat} {n : Nat} (h : MAt w p g ws pl n) (e : w'.heap[g]? = w.heap[g]?) : MAt w' p g ws pl n := by
  have hc : ∀ o, w'.cell? ⟨g, o, none⟩ = w.cell? ⟨g, o, none⟩ := fun o => World.cell?_of_block e
  exact ⟨h.head, fun k => (h.cel k).same e, fun i x hx => (hc _).trans (h.c0 i x hx), fun i x hx => (hc _).trans (h.c1 i x hx), fun i x hx => (hc _).trans (h.c2 i x hx), fun i x hx => (hc _).trans (h.c3 i x hx), fun i x hx => (hc _).trans (h.c4 i x hx), fun i x hx => (hc _).trans (h.c5 i x hx)⟩
theorem KAt.mat {w : World} {p : Option Addr} {g : Nat} {ws : List (W × Nat)} (h : KAt w p g ws) (hc : 1 ≤ ws.length → Cel w g) (pl : Nat → Nat) : MAt w p g ws pl 0 :=
  ⟨h.head, hc, h.c0, h.c1, h.c2, h.c3, h.c4, fun i x hx => by rw [if_neg (by omega)]; exact h.c5 i x hx⟩
/-- A word that does not send: as if it had been passed. -/
theorem MAt.pass {w : World} {p : Option Addr} {g : Nat} {ws : List (W × Nat)} {pl : Nat → Nat} {n : Nat} (h : MAt w p g ws pl n) {x : W × Nat} (hx : ws[n]? = some x) (hs : sendsW x.1 = false) : MAt w p g ws pl (n + 1) :=
  ⟨h.head, h.cel, h.c0, h.c1, h.c2, h.c3, h.c4, fun i y hy => by
    rw [h.c5 i y hy]
    by_cases e : i = n
    · subst e
      rw [hx] at hy
      injection hy with hy
      subst hy
      simp [hs]
    · have : (i < n + 1) ↔ (i < n) := by omega
      simp [this]⟩
theorem MAt.put {w : World} {p : Option Addr} {g : Nat} {ws : List (W × Nat)} {pl : Nat → Nat} {n : Nat} (h : MAt w p g ws pl n) {x : W × Nat} (hx : ws[n]? = some x) (hs : sendsW x.1 = true) (q : Nat) :
    MAt (w.setCell ⟨g, n * 6 + 5, none⟩ (pkey q)) p g ws (fun i => if i = n then q else pl i) (n + 1) := by
  have ho : ∀ o, o ≠ n * 6 + 5 → (w.setCell ⟨g, n * 6 + 5, none⟩ (pkey q)).cell? ⟨g, o, none⟩ = w.cell? ⟨g, o, none⟩ := fun o hne => cs_other (by intro e; injection e with e1 e2; omega)
  refine ⟨h.head, fun k => (h.cel k).setCell _ _, fun i y hy => (ho _ (by omega)).trans (h.c0 i y hy), fun i y hy => (ho _ (by omega)).trans (h.c1 i y hy), fun i y hy => (ho _ (by omega)).trans (h.c2 i y hy), fun i y hy => (ho _ (by omega)).trans (h.c3 i y hy), fun i y hy => (ho _ (by omega)).trans (h.c4 i y hy), fun i y hy => ?_⟩
  by_cases e : i = n
  · subst e
    rw [hx] at hy
    injection hy with hy
    subst hy
    rw [cs_same (h.c5 i x hx)]
    simp [hs, pkey]
  · rw [ho _ (by omega), h.c5 i y hy]
    have : (i < n + 1) ↔ (i < n) := by omega
    simp [this, e]

theorem kAt_cel {w : World} {ws : List (W × Nat)} {B : Nat} {e : TypeId} {v : Value} (h : w.ownsRow B e 6 v ws.length (kcellsWs ws)) : ∃ p g cap, v = .slice p ws.length cap ∧ KAt w p g ws ∧ (1 ≤ ws.length → Cel w g ∧ B ≤ g) := by
  have h0 := h
  obtain ⟨p, g, cap, rfl, hk⟩ := kAt_owns h
  refine ⟨p, g, cap, rfl, hk, fun h1 => ?_⟩
  obtain rfl := hk.head h1
  rcases h0.2 with ⟨h2, h3⟩ | ⟨g', cap', cur, h2, hb, hg, _⟩
  · cases h2
  · injection h2 with h2 _ _
    injection h2 with h2
    injection h2 with h2 _ _
    subst h2
    exact ⟨⟨_, _, hg⟩, hb⟩

/-- Places that are new: none of them old, each its own, each without memory. -/
structure NewPl (w0 w : World) (ws : List (W × Nat)) (pl : Nat → Nat) (n : Nat) : Prop where
  mem : ∀ i x, i < n → ws[i]? = some x → sendsW x.1 = true → NoMem w (pl i) ∧ w0.heap.size ≤ pl i
  inj : ∀ i j x y, i < n → j < n → ws[i]? = some x → ws[j]? = some y → sendsW x.1 = true → sendsW y.1 = true → pl i = pl j → i = j
theorem NoMem.lt {w : World} {p : Nat} (h : NoMem w p) : p < w.heap.size := (Array.getElem?_eq_some_iff.1 h).1
theorem NoMem.cel {w : World} {p : Nat} (h : NoMem w p) : Cel w p := ⟨_, _, h⟩
theorem NewPl.same {w0 w w' : World} {ws : List (W × Nat)} {pl : Nat → Nat} {n : Nat} (h : NewPl w0 w ws pl n) (hs : ∀ k, w0.heap.size ≤ k → k < w.heap.size → w'.heap[k]? = w.heap[k]?) : NewPl w0 w' ws pl n :=
  ⟨fun i x hi hx hsx => by obtain ⟨h1, h2⟩ := h.mem i x hi hx hsx; exact ⟨(hs _ h2 h1.lt).trans h1, h2⟩, h.inj⟩
theorem NewPl.pass {w0 w : World} {ws : List (W × Nat)} {pl : Nat → Nat} {n : Nat} (h : NewPl w0 w ws pl n) {x : W × Nat} (hx : ws[n]? = some x) (hs : sendsW x.1 = false) : NewPl w0 w ws pl (n + 1) := by
  have key : ∀ i y, i < n + 1 → ws[i]? = some y → sendsW y.1 = true → i < n := fun i y hi hy hsy => by
    by_cases e : i = n
    · subst e; rw [hx] at hy; injection hy with hy; subst hy; rw [hs] at hsy; cases hsy
    · omega
  exact ⟨fun i y hi hy hsy => h.mem i y (key i y hi hy hsy) hy hsy, fun i j y z hi hj hy hz hsy hsz e => h.inj i j y z (key i y hi hy hsy) (key j z hj hz hsz) hy hz hsy hsz e⟩
theorem NewPl.put {w0 w w' : World} {ws : List (W × Nat)} {pl : Nat → Nat} {n q : Nat} (h : NewPl w0 w ws pl n) (hs : ∀ k, w0.heap.size ≤ k → k < w.heap.size → w'.heap[k]? = w.heap[k]?) (hq : NoMem w' q) (hl : w.heap.size ≤ q) (h0 : w0.heap.size ≤ w.heap.size) : NewPl w0 w' ws (fun i => if i = n then q else pl i) (n + 1) := by
  refine ⟨fun i y hi hy hsy => ?_, fun i j y z hi hj hy hz hsy hsz e => ?_⟩
  · by_cases e : i = n
    · simp only [e, if_true]; exact ⟨hq, by omega⟩
    · simp only [e, if_false]
      obtain ⟨h1, h2⟩ := h.mem i y (by omega) hy hsy
      exact ⟨(hs _ h2 h1.lt).trans h1, h2⟩
  · by_cases ei : i = n
    · by_cases ej : j = n
      · omega
      · simp only [ei, ej, if_true, if_false] at e
        have := (h.mem j z (by omega) hz hsz).1.lt
        omega
    · by_cases ej : j = n
      · simp only [ei, ej, if_true, if_false] at e
        have := (h.mem i y (by omega) hy hsy).1.lt
        omega
      · simp only [ei, ej, if_false] at e
        exact h.inj i j y z (by omega) (by omega) hy hz hsy hsz e

set_option maxHeartbeats 1000000 in
set_option maxRecDepth 100000 in
theorem newMethod_any (ws : List (W × Nat)) (p : Option Addr) (g cap : Nat) (w : World) (hn : ws.length ≤ 40) (hw : KAt w p g ws) (hcel : 1 ≤ ws.length → Cel w g) (h0 : ∀ (i : Nat) (x : W × Nat), ws[i]? = some x → Fine0 x.1) (hge : 0 < w.heap.size) (hgg : 1 ≤ ws.length → g ≠ 0) (hE : HasEff w) :
    Calls Tryd.prog 23 #[.slice p ws.length cap] w fun e w' => ∃ m pl, e = .returned (.pointer (some ⟨m, 0, none⟩)) ∧ w'.heap[m]? = some (.cells #[.slice p ws.length cap, .int .i64 0] 112) ∧ w.heap.size ≤ m ∧
      MAt w' p g ws pl ws.length ∧ NewPl w w' ws pl ws.length ∧ Chg w w' (fun k => k = g ∧ 1 ≤ ws.length) := by
  have HW : Hid (KAt w p g ws ∧ (1 ≤ ws.length → Cel w g)) := ⟨hw, hcel⟩
  have HF : Hid (∀ (i : Nat) (x : W × Nat), ws[i]? = some x → Fine0 x.1) := h0
  clear hw h0 hcel
  go_enter Tryd.func23, Tryd.ntmps23
  go_wp2
  go_loopw [7] (fun i wr => ∃ (k : Nat) (pl : Nat → Nat), i = .int .i64 k ∧ k ≤ ws.length ∧ MAt wr p g ws pl k ∧ NewPl w wr ws pl k ∧ Chg w wr (fun j => j = g ∧ 1 ≤ ws.length)) (fun i _ => ws.length - (intOf i).toNat)
  case atStart => exact ⟨0, fun _ => 0, rfl, by omega, HW.out.1.mat HW.out.2 _, ⟨fun i x hi => by omega, fun i j x y hi => by omega⟩, Chg.refl _ _⟩
  case round =>
    obtain ⟨k, pl, rfl, hk, hm, hnp, hch⟩ := hrel
    have HM : Hid (MAt wr p g ws pl k ∧ NewPl w wr ws pl k ∧ Chg w wr (fun j => j = g ∧ 1 ≤ ws.length)) := ⟨hm, hnp, hch⟩
    clear hm hnp hch
    by_cases hkn : k < ws.length
    · obtain ⟨x, hx⟩ : ∃ x, ws[k]? = some x := ⟨_, List.getElem?_eq_getElem hkn⟩
      obtain ⟨hm, hnp, hch⟩ := HM.out
      have hfx := HF.out k x hx
      obtain rfl : p = some ⟨g, 0, none⟩ := hm.head (by omega)
      have hgl := (hm.cel (by omega)).lt
      have hgf := fun o => (hm.cel (by omega)).free o
      have c0 := hm.c0 k x hx
      have c1 := hm.c1 k x hx
      have c2 := hm.c2 k x hx
      have c3 := hm.c3 k x hx
      have c4 := hm.c4 k x hx
      have c5 := hm.c5 k x hx
      rw [if_neg (by omega)] at c5
      obtain ⟨t, l, sd, jp, st, he⟩ := eff_of x.1.k x.1.n hfx.kind
      have hEr : HasEff wr := by
        intro a b c d e f h
        have h1 := hE a b c d e f h
        have hb := hch.block 0 hge (fun e => hgg e.2 e.1.symm)
        exact ⟨(World.cell?_of_block hb).trans h1.c0, (World.cell?_of_block hb).trans h1.c1, (World.cell?_of_block hb).trans h1.c2, (World.cell?_of_block hb).trans h1.c3, (World.cell?_of_block hb).trans h1.c4⟩
      have e2 := (hEr (kindOf x.1.k) t l sd jp st he.row).c2
      have hge' : 0 < wr.heap.size := Nat.lt_of_lt_of_le hge hch.size
      have hK := he.lt
      have HS : Hid (sendsW x.1 = sd) := by
        have hx1 : sendsW x.1 = sd := by
          unfold sendsW
          cases sd with
          | true => simpa using he.sends.1 rfl
          | false => simp only [decide_eq_false_iff_not]; intro h; have := he.sends.2 h; cases this
        exact hx1
      have HX : Hid (ws[k]? = some x) := hx
      clear hx hfx he hm hnp hch hEr
      obtain ⟨⟨xk, xn, xs, xa, xb⟩, xi⟩ := x
      simp only at c0 c1 c2 c3 c4 e2 hK
      obtain ⟨K', hKe⟩ : ∃ K', kindOf xk = K' := ⟨_, rfl⟩
      rw [hKe] at c0 e2 hK
      clear hKe
      have hKi : (K' : Int) < 23 := by omega
      cases sd
      · go_wp2
        go_roundw
        case rel =>
          obtain ⟨hm, hnp, hch⟩ := HM.out
          exact ⟨k + 1, pl, by go_num, by omega, (hm.pass HX.out HS.out).same (Below.heap_alloc _ _ _ hgl), (hnp.pass HX.out HS.out).same (fun j _ hj => Below.heap_alloc _ _ _ hj), hch.alloc _⟩
        case measure => simp [intOf] <;> omega
      · go_wp2_with fail
        refine (newPlace_any _).mono ?_
        rintro e w2 ⟨rfl, rfl⟩
        go_wp2
        go_roundw
        case rel =>
          obtain ⟨hm, hnp, hch⟩ := HM.out
          have hg0 : g < w.heap.size := (HW.out.2 (by omega)).lt
          have hsz := hch.size
          have hne : ∀ o o2 v, ∀ j, w.heap.size ≤ j → j < wr.heap.size → (((wr.setCell ⟨g, k * 6 + 5, none⟩ v).alloc o).alloc o2).heap[j]? = wr.heap[j]? := fun o o2 v j hj hj2 => (Below.heap_alloc _ _ _ (by simp [World.setCell]; omega)).trans ((Below.heap_alloc _ _ _ (by simp [World.setCell]; omega)).trans (Below.heap_setCell _ _ _ _ (by show j ≠ g; omega)))
          refine ⟨k + 1, _, by go_num, by omega, (hm.put HX.out HS.out (wr.heap.size + 1)).same ((Below.heap_alloc _ _ _ (by simp [World.setCell]; omega)).trans (Below.heap_alloc _ _ _ (by simp [World.setCell]; omega))), hnp.put (hne _ _ _) ?_ (by omega) hsz, ((hch.setCell _ _ (fun _ => ⟨rfl, by omega⟩)).alloc _).alloc _⟩
          have hz := (MapKept.heap_alloc ((wr.setCell ⟨g, k * 6 + 5, none⟩ (.pointer (some ⟨wr.heap.size + 1, 0, none⟩))).alloc (.cells #[.int .i64 K', .int .i64 xn, .string (ofL xa), .string (ofL xs), .string (ofL xb), .pointer none] 92)) (.cells #[.iface 136 (.agg #[])] 132)).1
          simp only [World.size_alloc, World.setCell, Array.size_modify] at hz
          exact hz
        case measure => simp [intOf] <;> omega
    · obtain rfl : k = ws.length := by omega
      obtain ⟨hm, hnp, hch⟩ := HM.out
      have hgl : 1 ≤ ws.length → g < wr.heap.size := fun h => (hm.cel h).lt
      clear hm hnp hch
      go_wp2
      go_ret
      obtain ⟨hm, hnp, hch⟩ := HM.out
      refine ⟨wr.heap.size, pl, rfl, (MapKept.heap_alloc wr _).1, hch.size, ?_, hnp.same (fun j _ hj => Below.heap_alloc _ _ _ hj), hch.alloc _⟩
      by_cases h1 : 1 ≤ ws.length
      · exact hm.same (Below.heap_alloc _ _ _ (hgl h1))
      · have hno : ∀ (i : Nat) (x : W × Nat), ws[i]? ≠ some x := fun i x hx => by have := (List.getElem?_eq_some_iff.1 hx).1; omega
        exact ⟨fun h => absurd h h1, fun h => absurd h h1, fun i x hx => absurd hx (hno i x), fun i x hx => absurd hx (hno i x), fun i x hx => absurd hx (hno i x), fun i x hx => absurd hx (hno i x), fun i x hx => absurd hx (hno i x), fun i x hx => absurd hx (hno i x)⟩

end Go.Proofs.YtkghmgoefiepeaaDoor.reads
