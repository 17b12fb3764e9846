/- kin: checkNumbers. -/
import Derived.Test.YtkghmgoefiepeaaDoorKinL
import Derived.Test.YtkghmgoefiepeaaDoorRefJ
namespace Go.Proofs.YtkghmgoefiepeaaDoor.reads
open Go.ChangeShapes Go.WideShapes Go.ChangeAt Go.RowKit Kn
set_option linter.unusedSimpArgs false
set_option linter.unusedVariables false

/-- Where the words of the code lie. -/
structure KAt (w : World) (p : Option Addr) (g : Nat) (ws : List (W × Nat)) : Prop where
  head : 1 ≤ ws.length → p = some ⟨g, 0, none⟩
  lt : 1 ≤ ws.length → g < w.heap.size
  c0 : ∀ i x, ws[i]? = some x → w.cell? ⟨g, i * 6, none⟩ = some (.int .i64 (kindOf x.1.k : Nat))
  c1 : ∀ i x, ws[i]? = some x → w.cell? ⟨g, i * 6 + 1, none⟩ = some (.int .i64 x.1.n)
  c2 : ∀ i x, ws[i]? = some x → w.cell? ⟨g, i * 6 + 2, none⟩ = some (.string (ofL x.1.a))
  c3 : ∀ i x, ws[i]? = some x → w.cell? ⟨g, i * 6 + 3, none⟩ = some (.string (ofL x.1.sel))
  c4 : ∀ i x, ws[i]? = some x → w.cell? ⟨g, i * 6 + 4, none⟩ = some (.string (ofL x.1.b))
  c5 : ∀ i x, ws[i]? = some x → w.cell? ⟨g, i * 6 + 5, none⟩ = some (.pointer none)

theorem KAt.below {w w' : World} {ws : List (W × Nat)} {p : Option Addr} {g : Nat} (h : KAt w p g ws) {B : Nat} (hB : w.heap.size ≤ B) (hb : Below B w w') : KAt w' p g ws := by
  have hc : ∀ i x o, ws[i]? = some x → w'.cell? ⟨g, o, none⟩ = w.cell? ⟨g, o, none⟩ := fun i x o hx => hb.cell (p := ⟨g, o, none⟩) (by
    have : 1 ≤ ws.length := by have := (List.getElem?_eq_some_iff.1 hx).1; omega
    have := h.lt this
    show g < B; omega)
  exact ⟨h.head, fun e => Nat.lt_of_lt_of_le (h.lt e) hb.size, fun i x hx => (hc i x _ hx).trans (h.c0 i x hx), fun i x hx => (hc i x _ hx).trans (h.c1 i x hx), fun i x hx => (hc i x _ hx).trans (h.c2 i x hx),
    fun i x hx => (hc i x _ hx).trans (h.c3 i x hx), fun i x hx => (hc i x _ hx).trans (h.c4 i x hx), fun i x hx => (hc i x _ hx).trans (h.c5 i x hx)⟩

theorem kcellsWs_get : ∀ (l : List (W × Nat)) (i : Nat) (x : W × Nat) (c : Nat), l[i]? = some x → c < 6 → (kcellsWs l)[i * 6 + c]? = (kcells x.1)[c]?
  | [], i, x, c, h, _ => by simp at h
  | y :: r, 0, x, c, h, hc => by
    simp at h; subst h
    rw [Nat.zero_mul, Nat.zero_add]
    show (kcells y.1 ++ kcellsWs r)[c]? = _
    exact List.getElem?_append_left (by simpa [kcells] using hc)
  | y :: r, i + 1, x, c, h, hc => by
    have ih := kcellsWs_get r i x c (by simpa using h) hc
    show (kcells y.1 ++ kcellsWs r)[(i + 1) * 6 + c]? = _
    rw [List.getElem?_append_right (by simp [kcells]; omega)]
    rw [show (i + 1) * 6 + c - (kcells y.1).length = i * 6 + c from by simp [kcells]; omega]
    exact ih

theorem kAt_owns {w : World} {ws : List (W × Nat)} {B : Nat} {e : TypeId} {v : Value} (h : w.ownsRow B e 6 v ws.length (kcellsWs ws)) : ∃ p g cap, v = .slice p ws.length cap ∧ KAt w p g ws := by
  have hc := fun g hg => h.cells (g := g) hg
  rcases h.2 with ⟨rfl, h0⟩ | ⟨g, cap, cur, rfl, hb, hg, hn, _⟩
  · refine ⟨none, 0, 0, by rw [h0], ⟨fun e => by omega, fun e => by omega, ?_, ?_, ?_, ?_, ?_, ?_⟩⟩
    all_goals
      intro i x hx
      have := (List.getElem?_eq_some_iff.1 hx).1
      omega
  · have key : ∀ i x c u, ws[i]? = some x → c < 6 → (kcells x.1)[c]? = some u → w.cell? ⟨g, i * 6 + c, none⟩ = some u := by
      intro i x c u hx hcc hu
      have := hc g rfl (i * 6 + c) u (by rw [kcellsWs_get ws i x c hx hcc]; exact hu)
      have hadd : (⟨g, 0, none⟩ : Addr).add (i * 6 + c) = ⟨g, i * 6 + c, none⟩ := by unfold Addr.add; split <;> simp_all
      rw [hadd] at this
      exact this
    exact ⟨some ⟨g, 0, none⟩, g, cap, rfl, ⟨fun _ => rfl, fun _ => (Array.getElem?_eq_some_iff.1 hg).1, fun i x hx => key i x 0 _ hx (by omega) rfl, fun i x hx => key i x 1 _ hx (by omega) rfl, fun i x hx => key i x 2 _ hx (by omega) rfl,
      fun i x hx => key i x 3 _ hx (by omega) rfl, fun i x hx => key i x 4 _ hx (by omega) rfl, fun i x hx => key i x 5 _ hx (by omega) rfl⟩⟩

/-- What the table says of a kind, against the document. -/
structure EffOf (k : Nat) (n : Int) (t l : Nat) (sd jp st : Bool) : Prop where
  row : effTab[kindOf k]? = some (t, l, sd, jp, st)
  lt : kindOf k < 23
  ht : t ≤ 2
  hl : l ≤ 2
  takes : (takesOf k n).1 = effTakes t sd n
  lays : (takesOf k n).2 = (l : Int)
  goes : ∀ i : Nat, goesOf k n i = (if st then [] else [(i : Int) + 1]) ++ (if jp then [n] else [])
  jumps : jp = true ↔ (k = 62 ∨ k = 63)
  slot : slotB (kindOf k) = true ↔ (k = 103 ∨ k = 112)
  arg : kindOf k = 3 ↔ k = 97
  sends : sd = true ↔ (k = 115 ∨ k = 94)

set_option maxRecDepth 10000 in
theorem eff_of (k : Nat) (n : Int) (hk : k ∈ kinds) : ∃ t l sd jp st, EffOf k n t l sd jp st := by
  simp only [kinds, List.mem_cons, List.not_mem_nil, or_false] at hk
  rcases hk with rfl | rfl | rfl | rfl | rfl | rfl | rfl | rfl | rfl | rfl | rfl | rfl | rfl | rfl | rfl | rfl | rfl | rfl | rfl | rfl | rfl | rfl
  all_goals
    refine ⟨_, _, _, _, _, ⟨rfl, by decide, by decide, by decide, ?_, by simp [takesOf], fun i => by simp [goesOf], by decide, by decide, by decide, by decide⟩⟩
    simp [takesOf, effTakes] <;> omega

/-- The first word with a number that there is not. -/
def NumIs (ws : List (W × Nat)) (args slots : Nat) (e i : Int) : Prop :=
  (∃ j, j < ws.length ∧ i = (j : Int) ∧ NumBad ws args slots j ∧ (∀ k, k < j → ¬ NumBad ws args slots k) ∧ (argBad ws args j → e = 1) ∧ (¬ argBad ws args j → e = 7)) ∨
  ((∀ j, j < ws.length → ¬ NumBad ws args slots j) ∧ e = 0 ∧ i = 0)

set_option maxHeartbeats 4000000 in
set_option maxRecDepth 100000 in
theorem checkNumbers_any (ws : List (W × Nat)) (p : Option Addr) (g cap args slots : Nat) (w : World) (hn : ws.length ≤ 40) (ha : args ≤ 3) (hs : slots ≤ 10) (hw : KAt w p g ws) (h0 : ∀ (i : Nat) (x : W × Nat), ws[i]? = some x → Fine0 x.1) (hge : 0 < w.heap.size) (hE : HasEff w) :
    Calls Tryd.prog 19 #[.slice p ws.length cap, .int .i64 args, .int .i64 slots] w fun e w' => ∃ r i : Int, e = .returned (.tuple #[.int .i64 r, .int .i64 i]) ∧ NumIs ws args slots r i ∧ Below w.heap.size w w' := by
  have HW : Hid (KAt w p g ws) := hw
  have HF : Hid (∀ (i : Nat) (x : W × Nat), ws[i]? = some x → Fine0 x.1) := h0
  clear hw h0
  go_enter Tryd.func19, Tryd.ntmps19
  go_wp2
  go_loopw [12] (fun i wr => ∃ k : Nat, i = .int .i64 k ∧ k ≤ ws.length ∧ (∀ j, j < k → ¬ NumBad ws args slots j) ∧ Below w.heap.size w wr) (fun i _ => ws.length - (intOf i).toNat)
  case atStart => exact ⟨0, rfl, by omega, fun j h => by omega, Below.refl _ _⟩
  case round =>
    obtain ⟨k, rfl, hk, hno, hb⟩ := hrel
    have HNo : Hid (∀ j, j < k → ¬ NumBad ws args slots j) := hno
    clear hno
    by_cases hkn : k < ws.length
    · obtain ⟨x, hx⟩ : ∃ x, ws[k]? = some x := ⟨_, List.getElem?_eq_getElem hkn⟩
      have hwx : wAt ws k = x.1 := by unfold wAt; rw [hx]; rfl
      have hfx := HF.out k x hx
      obtain rfl : p = some ⟨g, 0, none⟩ := HW.out.head (by omega)
      have hat := HW.out.below (Nat.le_refl _) hb
      have hgl := hat.lt (by omega)
      have c0 := hat.c0 k x hx
      have c1 := hat.c1 k x hx
      have c2 := hat.c2 k x hx
      have c3 := hat.c3 k x hx
      have c4 := hat.c4 k x hx
      have c5 := hat.c5 k x hx
      have hlo := hfx.lo
      have hhi := hfx.hi
      obtain ⟨t, l, sd, jp, st, he⟩ := eff_of x.1.k x.1.n hfx.kind
      have e3 := (hE.below hge hb (kindOf x.1.k) t l sd jp st he.row).c3
      have hge' : 0 < wr.heap.size := Nat.lt_of_lt_of_le hge hb.size
      have hK := he.lt
      have HA : Hid (argBad ws args k ↔ (kindOf x.1.k = 3 ∧ (args : Int) ≤ x.1.n) ∨ (jp = true ∧ (ws.length : Int) < x.1.n)) := by
        have hx1 : argBad ws args k ↔ (kindOf x.1.k = 3 ∧ (args : Int) ≤ x.1.n) ∨ (jp = true ∧ (ws.length : Int) < x.1.n) := by unfold argBad; rw [hwx, he.arg, he.jumps]
        exact hx1
      have HS : Hid (slotBad ws slots k ↔ (slotB (kindOf x.1.k) = true ∧ (slots : Int) ≤ x.1.n)) := by
        have hx1 : slotBad ws slots k ↔ (slotB (kindOf x.1.k) = true ∧ (slots : Int) ≤ x.1.n) := by unfold slotBad; rw [hwx, he.slot]
        exact hx1
      have HJ : Hid (kindOf x.1.k = 3 → jp = false) := by
        have hx1 : kindOf x.1.k = 3 → jp = false := fun e => by
          have hr := he.row
          rw [e] at hr
          have h2 := (Option.some.inj hr)
          injection h2 with _ h2; injection h2 with _ h2; injection h2 with _ h2; injection h2 with h2 _
          exact h2.symm
        exact hx1
      clear hx hwx hfx he hat
      obtain ⟨⟨xk, xn, xs, xa, xb⟩, xi⟩ := x
      simp only at c0 c1 c2 c3 c4 e3 hlo hhi hK HA HS HJ
      obtain ⟨K, hKe⟩ : ∃ K, kindOf xk = K := ⟨_, rfl⟩
      rw [hKe] at c0 e3 hK HA HS HJ
      clear hKe
      have next : ∀ w', Below w.heap.size w w' → ¬ argBad ws args k → ¬ slotBad ws slots k → ∃ k' : Nat, Value.int IntKind.i64 ((k : Int) + 1) = .int .i64 (k' : Nat) ∧ k' ≤ ws.length ∧ (∀ j, j < k' → ¬ NumBad ws args slots j) ∧ Below w.heap.size w w' := by
        intro w' hb' ha hs
        refine ⟨k + 1, by go_num, by omega, fun j hj => ?_, hb'⟩
        by_cases e : j = k
        · subst e; rintro (h | h)
          · exact ha h
          · exact hs h
        · exact HNo.out j (by omega)
      have HN : Hid (∀ w', Below w.heap.size w w' → ¬ argBad ws args k → ¬ slotBad ws slots k → ∃ k' : Nat, Value.int IntKind.i64 ((k : Int) + 1) = .int .i64 (k' : Nat) ∧ k' ≤ ws.length ∧ (∀ j, j < k' → ¬ NumBad ws args slots j) ∧ Below w.heap.size w w') := next
      clear next
      by_cases h3a : K = 3 ∧ (args : Int) ≤ xn
      · obtain ⟨h3, hbd⟩ := h3a
        have t3 : ((K : Int) == 3) = true := by simp; omega
        go_wp2
        go_ret2
        exact ⟨1, k, rfl, .inl ⟨k, hkn, rfl, .inl (HA.out.2 (.inl ⟨h3, hbd⟩)), HNo.out, fun _ => rfl, fun h => absurd (HA.out.2 (.inl ⟨h3, hbd⟩)) h⟩, hb.alloc hb.size _⟩
      by_cases h3 : K = 3
      · subst h3
        obtain rfl : jp = false := HJ.out rfl
        have e3' : wr.cell? ⟨0, 18, none⟩ = some (.bool false) := e3
        have hbd : xn < (args : Int) := by omega
        have HX : Hid (¬ argBad ws args k) := by
          have hx1 : ¬ argBad ws args k := fun h => by rcases HA.out.1 h with h | h; exact h3a h; cases h.1
          exact hx1
        have HY : Hid (¬ slotBad ws slots k) := by
          have hx1 : ¬ slotBad ws slots k := fun h => by have := (HS.out.1 h).1; cases this
          exact hx1
        clear h3a e3
        go_wp2_with fail
        refine (namesSlot_any _ _ _ _ _ _).mono ?_
        rintro e w1 ⟨rfl, hb1⟩
        have hz : w1.cell? ⟨wr.heap.size, 1, none⟩ = some (.int .i64 xn) := by
          rw [hb1.cell (p := ⟨wr.heap.size, 1, none⟩) (by rw [World.size_alloc]; show wr.heap.size < _; omega)]
          simp only [World.cell?, (MapKept.heap_alloc wr _).1]; rfl
        have hb2 : Below w.heap.size w w1 := (hb.alloc hb.size _).trans (hb1.mono (by rw [World.size_alloc]; have := hb.size; omega))
        clear hb1
        simp only [show slotB 3 = false from rfl]
        go_wp2
        go_roundw
        case rel => exact HN.out _ hb2 HX.out HY.out
        case measure => simp [intOf] <;> omega
      have t3 : ((K : Int) == 3) = false := by simp; omega
      clear h3a HJ
      by_cases hj : jp = true ∧ (ws.length : Int) < xn
      · obtain ⟨rfl, hbd⟩ := hj
        go_wp2
        go_ret2
        exact ⟨1, k, rfl, .inl ⟨k, hkn, rfl, .inl (HA.out.2 (.inr ⟨by trivial, hbd⟩)), HNo.out, fun _ => rfl, fun h => absurd (HA.out.2 (.inr ⟨by trivial, hbd⟩)) h⟩, hb.alloc hb.size _⟩
      have HX : Hid (¬ argBad ws args k) := by
        have hx1 : ¬ argBad ws args k := fun h => by rcases HA.out.1 h with h | h; exact h3 h.1; exact hj h
        exact hx1
      cases jp
      all_goals
          try have hlj : xn ≤ (ws.length : Int) := by simp at hj; omega
          clear hj
          go_wp2_with fail
          refine (namesSlot_any _ _ _ _ _ _).mono ?_
          rintro e w1 ⟨rfl, hb1⟩
          have hz : w1.cell? ⟨wr.heap.size, 1, none⟩ = some (.int .i64 xn) := by
            rw [hb1.cell (p := ⟨wr.heap.size, 1, none⟩) (by rw [World.size_alloc]; show wr.heap.size < _; omega)]
            simp only [World.cell?, (MapKept.heap_alloc wr _).1]; rfl
          have hb2 : Below w.heap.size w w1 := (hb.alloc hb.size _).trans (hb1.mono (by rw [World.size_alloc]; have := hb.size; omega))
          clear hb1
          cases hsb : slotB K
          · have HY : Hid (¬ slotBad ws slots k) := by
              have hx1 : ¬ slotBad ws slots k := fun h => by have := (HS.out.1 h).1; rw [hsb] at this; cases this
              exact hx1
            go_wp2
            go_roundw
            case rel => exact HN.out _ hb2 HX.out HY.out
            case measure => simp [intOf] <;> omega
          · by_cases hsl : (slots : Int) ≤ xn
            · go_wp2
              go_ret2
              exact ⟨7, k, rfl, .inl ⟨k, hkn, rfl, .inr (HS.out.2 ⟨hsb, hsl⟩), HNo.out, fun h => absurd h HX.out, fun _ => rfl⟩, hb2⟩
            · have HY : Hid (¬ slotBad ws slots k) := by
                have hx1 : ¬ slotBad ws slots k := fun h => hsl (HS.out.1 h).2
                exact hx1
              go_wp2
              go_roundw
              case rel => exact HN.out _ hb2 HX.out HY.out
              case measure => simp [intOf] <;> omega
    · obtain rfl : k = ws.length := by omega
      go_wp2
      go_ret2
      exact ⟨0, 0, rfl, .inr ⟨HNo.out, rfl, rfl⟩, hb⟩

end Go.Proofs.YtkghmgoefiepeaaDoor.reads
