/- kinref.heights: the walk. -/
import Derived.Test.YtkghmgoefiepeaaDoorRefJ
namespace Go.Proofs.YtkghmgoefiepeaaDoor.reads
open Go.ChangeShapes Go.WideShapes Go.ChangeAt Go.RowKit Kn
set_option linter.unusedSimpArgs false
set_option linter.unusedVariables false

theorem rows_next' {w : World} {R n k : Nat} (h : Rows w R n k) (hk : k ≤ n) : Rows ((w.setCell ⟨R, k, none⟩ (.slice (some ⟨w.heap.size, 0, none⟩) 17 17)).alloc (.cells (Array.replicate 17 (.bool false)) 4)) R n (k + 1) := by
  have h1 := rows_next h hk
  have hs := h.size
  rw [← hs, World.setCell_alloc_past _ _ _ _ (by omega)] at h1
  exact h1

theorem st_start {w0 w : World} {ws : List (W × Nat)} (h : Rows w w0.heap.size ws.length (ws.length + 1)) (hb : Below w0.heap.size w0 w) :
    St w0 ((w.setCell ⟨w0.heap.size + 1, 0, none⟩ (.bool true)).alloc (.cells (Array.replicate (ws.length + 1) (.bool false)) 4)) ws (unm ws.length (Kn.mark (fun _ _ => false) 0 0) + 1) true (Kn.mark (fun _ _ => false) 0 0) (fun _ => false) (fun _ _ => False) := by
  have hs := h.size
  have hsz : (w.setCell ⟨w0.heap.size + 1, 0, none⟩ (.bool true)).heap.size = w0.heap.size + ws.length + 2 := by simp [World.setCell]; omega
  have hg : Grid (w.setCell ⟨w0.heap.size + 1, 0, none⟩ (.bool true)) w0.heap.size ws.length (Kn.mark (fun _ _ => false) 0 0) := (rows_grid h).mark (a := 0) (b := 0) (by omega) (by omega)
  have hd := badRow_made (w.setCell ⟨w0.heap.size + 1, 0, none⟩ (.bool true)) ws.length
  rw [hsz] at hd
  have hbb : Below w0.heap.size w0 (w.setCell ⟨w0.heap.size + 1, 0, none⟩ (.bool true)) := hb.setCell (by show w0.heap.size ≤ w0.heap.size + 1; omega) _
  refine ⟨hg.below ((Below.refl _ _).alloc (Nat.le_refl _) _), hd, ⟨mark_self _ _ _, fun i k hk => ?_, fun i hi => by cases hi⟩, .inl rfl, by omega, fun _ => by omega, hbb.alloc (by rw [hsz]; omega) _⟩
  rcases mark_iff.1 hk with ⟨rfl, rfl⟩ | hk
  · exact reach_start ws
  · cases hk

theorem ints_set {B : Nat} {w : World} {v v' : Value} {ts : List Int} {a : Addr} (h : IntsAt B w v ts) (ha : a.block < B) : IntsAt B (w.setCell a v') v ts := by
  rcases h with h | ⟨p, hp, hlt, hv, hc⟩
  · exact .inl h
  · exact .inr ⟨p, hp, by simpa [World.setCell] using hlt, hv, fun j x hj => by rw [World.cell?_setCell_far _ _ _ _ (by show a.block ≠ p; omega)]; exact hc j x hj⟩

theorem goes_len (k : Nat) (n : Int) (i : Nat) : (goesOf k n i).length ≤ 2 := by
  unfold goesOf
  split
  · simp
  · split
    · simp
    · split <;> simp

def cnt (M : Nat → Nat → Bool) (k hh : Nat) : Nat := ((List.range hh).filter (M k)).length
theorem cnt_le (M : Nat → Nat → Bool) (k hh : Nat) : cnt M k hh ≤ hh := by
  have := List.length_filter_le (M k) (List.range hh)
  rw [List.length_range] at this
  exact this
theorem cnt_succ (M : Nat → Nat → Bool) (k hh : Nat) : cnt M k (hh + 1) = cnt M k hh + (if M k hh = true then 1 else 0) := by
  unfold cnt
  rw [List.range_succ, List.filter_append, List.length_append]
  by_cases h : M k hh = true <;> simp [List.filter_cons, h]
theorem cnt_two (M : Nat → Nat → Bool) (k : Nat) : 1 < cnt M k 17 ↔ ∃ h1 h2, h1 < h2 ∧ h2 ≤ 16 ∧ M k h1 = true ∧ M k h2 = true := by
  have hp : ((List.range 17).filter (M k)).Pairwise (· < ·) := List.pairwise_lt_range.filter _
  have hm : ∀ h, h ∈ (List.range 17).filter (M k) ↔ h ≤ 16 ∧ M k h = true := fun h => by rw [List.mem_filter, List.mem_range]; constructor <;> (rintro ⟨a, b⟩; exact ⟨by omega, b⟩)
  unfold cnt
  generalize (List.range 17).filter (M k) = l at *
  constructor
  · intro h
    match l, h, hp, hm with
    | a :: c :: r, _, hp, hm =>
      have h1 := (hm a).1 (by simp)
      have h2 := (hm c).1 (by simp)
      exact ⟨a, c, (List.pairwise_cons.1 hp).1 c (by simp), h2.1, h1.2, h2.2⟩
  · rintro ⟨h1, h2, hlt, hle, m1, m2⟩
    have e1 := (hm h1).2 ⟨by omega, m1⟩
    have e2 := (hm h2).2 ⟨hle, m2⟩
    match l, e1, e2 with
    | [], e1, _ => cases e1
    | [a], e1, e2 => simp at e1 e2; omega
    | a :: c :: r, _, _ => simp

theorem wrong_iff {ws : List (W × Nat)} {M : Nat → Nat → Bool} {Bd : Nat → Bool} (hm : Marked ws M Bd) (hg : ∀ i h, i < ws.length → h ≤ 16 → Gone ws M Bd i h) {k : Nat} (hk : k < ws.length) : Wrong ws k ↔ (Bd k = true ∨ 1 < cnt M k 17) := by
  unfold Wrong
  rw [marked_bad hm hg hk, cnt_two]
  constructor
  · rintro (h | ⟨h1, h2, hlt, r1, r2⟩)
    · exact .inl h
    · exact .inr ⟨h1, h2, hlt, reach_le r2, (marked_all hm hg).1 r1, (marked_all hm hg).1 r2⟩
  · rintro (h | ⟨h1, h2, hlt, _, m1, m2⟩)
    · exact .inl h
    · exact .inr ⟨h1, h2, hlt, (marked_all hm hg).2 m1, (marked_all hm hg).2 m2⟩

theorem ints_form {B : Nat} {w : World} {v : Value} {ts : List Int} (h : IntsAt B w v ts) : ∃ q, v = .slice q ts.length ts.length := by
  rcases h with ⟨rfl, rfl⟩ | ⟨p, _, _, rfl, _⟩
  · exact ⟨none, rfl⟩
  · exact ⟨_, rfl⟩
theorem ints_get {B : Nat} {w : World} {q : Option Addr} {n m : Nat} {ts : List Int} (h : IntsAt B w (.slice q n m) ts) {j : Nat} {x : Int} (hj : ts[j]? = some x) : ∃ p, q = some ⟨p, 0, none⟩ ∧ w.cell? ⟨p, j, none⟩ = some (.int .i64 x) := by
  rcases h with ⟨rfl, _⟩ | ⟨p, _, _, hv, hc⟩
  · simp at hj
  · injection hv with h1
    exact ⟨p, h1, hc j x hj⟩

set_option maxHeartbeats 4000000 in
set_option maxRecDepth 100000 in
theorem heights_any (ws : List (W × Nat)) (p : Option Addr) (g cap : Nat) (w : World) (hn : ws.length ≤ 40) (hw : WAt w p g ws) (hf : ∀ (i : Nat) (x : W × Nat), ws[i]? = some x → Fine x.1 ws.length) :
    Calls Tryd.prog 45 #[.slice p ws.length cap] w fun e w' => ∃ r : Int, e = .returned (.int .i64 r) ∧ IsFirst (Wrong ws) ws.length r ∧ Below w.heap.size w w' := by
  have hm1 := mk_rows ws.length hn
  have hm2 := mk_row ws.length hn
  have hm3 := mk_row17
  have HW : Hid (WAt w p g ws) := hw
  have HF : Hid (∀ (i : Nat) (x : W × Nat), ws[i]? = some x → Fine x.1 ws.length) := hf
  clear hw hf
  go_enter Tryd.func45, Tryd.ntmps45
  go_wp2
  go_loopw [4] (fun i wr => ∃ k : Nat, i = .int .i64 k ∧ k ≤ ws.length + 1 ∧ Rows wr w.heap.size ws.length k ∧ Below w.heap.size w wr) (fun i _ => ws.length + 1 - (intOf i).toNat)
  case atStart => exact ⟨0, rfl, by omega, rows_start w ws.length, (Below.refl _ _).alloc (Nat.le_refl _) _⟩
  case round =>
    obtain ⟨k, rfl, hk, hrows, hb⟩ := hrel
    have HR : Hid (Rows wr w.heap.size ws.length k) := hrows
    have hlt : w.heap.size < wr.heap.size := by have := hrows.size; omega
    have hne : ¬ w.heap.size = wr.heap.size := by omega
    clear hrows
    by_cases hkn : k ≤ ws.length
    · have c1 := HR.out.rest k (Nat.le_refl _) hkn
      have c2 := HR.out.free k
      go_wp2
      go_roundw
      case rel =>
        refine ⟨k + 1, by go_num, by omega, ?_, ?_⟩
        · exact rows_next' HR.out hkn
        · exact (hb.setCell (Nat.le_refl _) _).alloc (by simp [World.setCell]; omega) _
      case measure => simp [intOf] <;> omega
    · obtain rfl : k = ws.length + 1 := by omega
      have hgrid := rows_grid HR.out
      have r0 : wr.cell? ⟨w.heap.size, 0, none⟩ = some (.slice (some ⟨w.heap.size + 1, 0, none⟩) 17 17) := hgrid.row 0 (by omega)
      have r1 : wr.cell? ⟨w.heap.size + 1, 0, none⟩ = some (.bool false) := hgrid.cell 0 0 (by omega) (by omega)
      have r2 : wr.frozen? ⟨w.heap.size + 1, 0, none⟩ = false := hgrid.free 0 0 (by omega)
      have hsz : wr.heap.size = w.heap.size + ws.length + 2 := by have := HR.out.size; omega
      have HS := st_start HR.out hb
      have HS : Hid (St w ((wr.setCell ⟨w.heap.size + 1, 0, none⟩ (.bool true)).alloc (.cells (Array.replicate (ws.length + 1) (.bool false)) 4)) ws (unm ws.length (Kn.mark (fun _ _ => false) 0 0) + 1) true (Kn.mark (fun _ _ => false) 0 0) (fun _ => false) (fun _ _ => False)) := HS
      clear hgrid hlt hne hb
      go_wp2
      go_loopg [6] (2 * unm ws.length (Kn.mark (fun _ _ => false) 0 0) + 1) (fun gk t wr => ∃ (b : Bool) (M : Nat → Nat → Bool) (Bd : Nat → Bool) (u : Nat), t = .bool b ∧ St w wr ws u b M Bd (fun i h => i < ws.length ∧ h ≤ 16) ∧ gk = 2 * unm ws.length M + (if b = true then 1 else 0))
      case atStart => exact ⟨true, _, _, _, rfl, (HS.out.weak (fun i h hd => .inl rfl)), rfl⟩
      case round =>
        obtain ⟨b, M, Bd, u, rfl, hst, rfl⟩ := hrel
        have HT : Hid (St w wr ws u b M Bd (fun i h => i < ws.length ∧ h ≤ 16)) := hst
        clear hst
        cases b
        · have HWr : Hid (∀ k, k < ws.length → (Wrong ws k ↔ (Bd k = true ∨ 1 < cnt M k 17))) := by
            have hx1 : ∀ k, k < ws.length → (Wrong ws k ↔ (Bd k = true ∨ 1 < cnt M k 17)) := fun k hk => wrong_iff HT.out.marked (fun i h hi hh => by
              rcases HT.out.gone with e | e
              · cases e
              · exact e i h ⟨hi, hh⟩) hk
            exact hx1
          have hbl := HT.out.below
          go_wp2
          go_loop [13] (fun i => ∃ k : Nat, i = .int .i64 k ∧ k ≤ ws.length ∧ ∀ j, j < k → ¬ Wrong ws j) (fun i => ws.length - (intOf i).toNat)
          case atStart => exact ⟨0, rfl, by omega, fun j h => by omega⟩
          case round =>
            obtain ⟨k, rfl, hk, hno⟩ := hrel
            have HNo : Hid (∀ j, j < k → ¬ Wrong ws j) := hno
            clear hno
            by_cases hkn : k < ws.length
            · have r1 := HT.out.grid.row k (by omega)
              go_wp2
              go_loop [14, 15] (fun c h => ∃ hh : Nat, h = .int .i64 hh ∧ c = .int .i64 (cnt M k hh : Nat) ∧ hh ≤ 17) (fun _ h => 17 - (intOf h).toNat)
              case atStart => exact ⟨0, rfl, rfl, by omega⟩
              case round =>
                obtain ⟨hh, rfl, rfl, hhl⟩ := hrel
                have hcl := cnt_le M k hh
                by_cases hh16 : hh ≤ 16
                · have r2 := HT.out.grid.cell k hh (by omega) hh16
                  have HC : Hid (cnt M k (hh + 1) = cnt M k hh + (if M k hh = true then 1 else 0)) := cnt_succ M k hh
                  cases hM : M k hh
                  · rw [hM] at r2
                    go_wp2
                    go_round
                    case rel => exact ⟨hh + 1, by go_num, by rw [HC.out, hM]; rfl, by omega⟩
                    case measure => simp [intOf] <;> omega
                  · rw [hM] at r2
                    go_wp2
                    go_round
                    case rel => exact ⟨hh + 1, by go_num, by rw [HC.out, hM]; go_num, by omega⟩
                    case measure => simp [intOf] <;> omega
                · obtain rfl : hh = 17 := by omega
                  have q1 := HT.out.bad.cell k (by omega)
                  have HK := HWr.out k hkn
                  have HK : Hid (Wrong ws k ↔ (Bd k = true ∨ 1 < cnt M k 17)) := HK
                  cases hB : Bd k
                  · rw [hB] at q1
                    by_cases hc : 1 < cnt M k 17
                    · go_wp2
                      go_ret
                      exact ⟨k, rfl, .inr ⟨k, hkn, rfl, HK.out.2 (.inr hc), HNo.out⟩, hbl⟩
                    · go_wp2
                      go_round
                      case rel =>
                        refine ⟨k + 1, by go_num, by omega, fun j hj => ?_⟩
                        by_cases e : j = k
                        · subst e; intro hwr
                          rcases HK.out.1 hwr with h | h
                          · rw [hB] at h; cases h
                          · exact hc h
                        · exact HNo.out j (by omega)
                      case measure => simp [intOf] <;> omega
                  · rw [hB] at q1
                    go_wp2
                    go_ret
                    exact ⟨k, rfl, .inr ⟨k, hkn, rfl, HK.out.2 (.inl hB), HNo.out⟩, hbl⟩
            · obtain rfl : k = ws.length := by omega
              go_wp2
              go_ret
              exact ⟨-1, rfl, .inl ⟨rfl, HNo.out⟩, hbl⟩
        · go_wp2
          go_loopg [6, 7] ws.length (fun gk t i wr => ∃ (b : Bool) (M' : Nat → Nat → Bool) (Bd' : Nat → Bool) (k : Nat), t = .bool b ∧ i = .int .i64 k ∧ k ≤ ws.length ∧ gk = ws.length - k ∧ St w wr ws (unm ws.length M) b M' Bd' (fun i h => i < k ∧ h ≤ 16))
          case atStart => exact ⟨false, M, Bd, 0, rfl, rfl, by omega, by omega, HT.out.restart.weak (fun i h hd => by omega)⟩
          case round =>
            obtain ⟨b, M', Bd', k, rfl, rfl, hk, rfl, hst⟩ := hrel
            have HU : Hid (St w wr ws (unm ws.length M) b M' Bd' (fun i h => i < k ∧ h ≤ 16)) := hst
            have hszr : w.heap.size ≤ wr.heap.size := hst.below.size
            clear hst
            by_cases hkn : k < ws.length
            · obtain ⟨x, hx⟩ : ∃ x, ws[k]? = some x := ⟨_, List.getElem?_eq_getElem hkn⟩
              have hfx := HF.out k x hx
              obtain rfl : p = some ⟨g, 0, none⟩ := HW.out.head (by omega)
              have hwa := HW.out.below (Nat.le_refl _) HU.out.below
              have hgl := hwa.lt (by omega)
              have c0 := hwa.c0 k x hx
              have c1 := hwa.c1 k x hx
              have c2 := hwa.c2 k x hx
              have c3 := hwa.c3 k x hx
              have c4 := hwa.c4 k x hx
              have c5 := hwa.c5 k x hx
              have HX : Hid (ws[k]? = some x) := hx
              have HFX : Hid (Fine x.1 ws.length) := hfx
              clear hx hfx hwa
              go_wp2_with fail
              refine (takes_any x.1.k x.1.n _ _ _ _ _ HFX.out.kind HFX.out.lo HFX.out.hi).mono ?_
              rintro e w1 ⟨rfl, hb1⟩
              obtain ⟨ta, hta⟩ : ∃ ta, (takesOf x.1.k x.1.n).1 = ta := ⟨_, rfl⟩
              obtain ⟨la, hla⟩ : ∃ la, (takesOf x.1.k x.1.n).2 = la := ⟨_, rfl⟩
              rw [hta, hla]
              have hft := fine_takes HFX.out
              rw [hta, hla] at hft
              obtain ⟨hta0, hta4, hla0, hla2⟩ := hft
              have HTA : Hid ((takesOf x.1.k x.1.n).1 = ta ∧ (takesOf x.1.k x.1.n).2 = la) := ⟨hta, hla⟩
              clear hta hla
              have d0 := (hb1.cell (p := ⟨g, k * 6, none⟩) hgl).trans c0
              have d1 := (hb1.cell (p := ⟨g, k * 6 + 1, none⟩) hgl).trans c1
              have d2 := (hb1.cell (p := ⟨g, k * 6 + 2, none⟩) hgl).trans c2
              have d3 := (hb1.cell (p := ⟨g, k * 6 + 3, none⟩) hgl).trans c3
              have d4 := (hb1.cell (p := ⟨g, k * 6 + 4, none⟩) hgl).trans c4
              have d5 := (hb1.cell (p := ⟨g, k * 6 + 5, none⟩) hgl).trans c5
              have HV : Hid (St w w1 ws (unm ws.length M) b M' Bd' (fun i h => i < k ∧ h ≤ 16)) := HU.out.mono hb1
              have hz1 : w.heap.size ≤ w1.heap.size := Nat.le_trans hszr hb1.size
              have hD : w.heap.size + ws.length + 2 < w1.heap.size := HV.out.bad.size
              clear c0 c1 c2 c3 c4 c5 hb1 HU hgl hszr
              go_wp2_with fail
              refine (goes_any x.1.k x.1.n _ _ _ _ k _ (by omega)).mono ?_
              rintro e w2 ⟨vt, rfl, hints, hb2⟩
              have HI : Hid (IntsAt w1.heap.size w2 vt (goesOf x.1.k x.1.n k)) := hints
              have HU : Hid (St w w2 ws (unm ws.length M) b M' Bd' (fun i h => i < k ∧ h ≤ 16)) := HV.out.mono hb2
              have hz2 : w1.heap.size ≤ w2.heap.size := hb2.size
              clear d0 d1 d2 d3 d4 d5 hb2 HV hints
              obtain ⟨tan, rfl⟩ := Int.eq_ofNat_of_zero_le hta0
              obtain ⟨lan, rfl⟩ := Int.eq_ofNat_of_zero_le hla0
              have hWx : wAt ws k = x.1 := by unfold wAt; rw [HX.out]; rfl
              have HTK : Hid (tk ws k = tan ∧ ly ws k = lan ∧ tg ws k = (goesOf x.1.k x.1.n k).map Int.toNat) := by
                have hx1 : tk ws k = tan ∧ ly ws k = lan ∧ tg ws k = (goesOf x.1.k x.1.n k).map Int.toNat := by
                  unfold tk ly tg
                  rw [hWx, HTA.out.1, HTA.out.2]
                  exact ⟨Int.toNat_natCast _, Int.toNat_natCast _, rfl⟩
                exact hx1
              obtain ⟨ts, hts⟩ : ∃ ts, goesOf x.1.k x.1.n k = ts := ⟨_, rfl⟩
              have HTS : Hid (tg ws k = ts.map Int.toNat ∧ ∀ t ∈ ts, 0 ≤ t ∧ t ≤ ws.length) := by
                have hx1 : tg ws k = ts.map Int.toNat ∧ ∀ t ∈ ts, 0 ≤ t ∧ t ≤ ws.length := ⟨by rw [HTK.out.2.2, hts], by rw [← hts]; exact fine_goes HFX.out hkn⟩
                exact hx1
              rw [hts] at HI
              have htl : ts.length ≤ 2 := by rw [← hts]; exact goes_len _ _ _
              clear hWx hts hta0 hla0
              go_wp2
              go_loopg [6, 11] 17 (fun gk t h wr => ∃ (b : Bool) (M1 : Nat → Nat → Bool) (Bd1 : Nat → Bool) (hh : Nat), t = .bool b ∧ h = .int .i64 hh ∧ hh ≤ 17 ∧ gk = 17 - hh ∧ St w wr ws (unm ws.length M) b M1 Bd1 (fun i h => (i < k ∧ h ≤ 16) ∨ (i = k ∧ h < hh)) ∧ IntsAt w1.heap.size wr vt ts)
              case atStart => exact ⟨b, M', Bd', 0, rfl, rfl, by omega, by omega, HU.out.weak (fun i h hd => by rcases hd with hd | hd; exact .inr (.inl hd); omega), HI.out⟩
              case round =>
                clear HU HI
                obtain ⟨b, M1, Bd1, hh, rfl, rfl, hhl, rfl, hst, hints⟩ := hrel
                have HU : Hid (St w wr ws (unm ws.length M) b M1 Bd1 (fun i h => (i < k ∧ h ≤ 16) ∨ (i = k ∧ h < hh))) := hst
                have HI : Hid (IntsAt w1.heap.size wr vt ts) := hints
                clear hst hints
                by_cases hh16 : hh ≤ 16
                · have r1 := HU.out.grid.row k (by omega)
                  have r2 := HU.out.grid.cell k hh (by omega) hh16
                  cases hM : M1 k hh
                  · rw [hM] at r2
                    go_wp2
                    go_roundg (17 - (hh + 1))
                    case measure => omega
                    case rel =>
                      refine ⟨b, M1, Bd1, hh + 1, rfl, by go_num, by omega, rfl, HU.out.weak (fun i h hd => ?_), HI.out⟩
                      rcases hd with hd | ⟨rfl, hd⟩
                      · exact .inr (.inl (.inl hd))
                      · by_cases e : h = hh
                        · subst e; right; right; intro e; rw [hM] at e; cases e
                        · exact .inr (.inl (.inr ⟨rfl, by omega⟩))
                  · rw [hM] at r2
                    by_cases hok : tan ≤ hh ∧ hh - tan + lan ≤ 16
                    · obtain ⟨hok1, hok2⟩ := hok
                      obtain ⟨d, rfl⟩ : ∃ d, hh = tan + d := ⟨hh - tan, by omega⟩
                      have hd16 : d + lan ≤ 16 := by omega
                      have HO : Hid (okAt ws k (tan + d) ∧ nx ws k (tan + d) = d + lan) := by
                        have hx1 : okAt ws k (tan + d) ∧ nx ws k (tan + d) = d + lan := by
                          unfold okAt nx; rw [HTK.out.1, HTK.out.2.1]; omega
                        exact hx1
                      obtain ⟨q0, rfl⟩ := ints_form HI.out
                      go_wp2
                      go_loopg [6, 12] ts.length (fun gk t kk wr => ∃ (b : Bool) (M2 : Nat → Nat → Bool) (Bd2 : Nat → Bool) (q : Nat), t = .bool b ∧ kk = .int .i64 q ∧ q ≤ ts.length ∧ gk = ts.length - q ∧ St w wr ws (unm ws.length M) b M2 Bd2 (fun i h => (i < k ∧ h ≤ 16) ∨ (i = k ∧ h < tan + d)) ∧ M2 k (tan + d) = true ∧ (b = true ∨ ∀ j t, j < q → ts[j]? = some t → M2 t.toNat (d + lan) = true) ∧ IntsAt w1.heap.size wr (.slice q0 ts.length ts.length) ts)
                      case atStart => exact ⟨b, M1, Bd1, 0, rfl, rfl, by omega, by omega, HU.out, hM, .inr (fun j t h => by omega), HI.out⟩
                      case round =>
                        clear HU HI r1 r2
                        obtain ⟨b, M2, Bd2, q, rfl, rfl, hq, rfl, hst, hMk, hall, hints⟩ := hrel
                        have HU : Hid (St w wr ws (unm ws.length M) b M2 Bd2 (fun i h => (i < k ∧ h ≤ 16) ∨ (i = k ∧ h < tan + d))) := hst
                        have HI : Hid (IntsAt w1.heap.size wr (.slice q0 ts.length ts.length) ts) := hints
                        have HA : Hid (b = true ∨ ∀ j t, j < q → ts[j]? = some t → M2 t.toNat (d + lan) = true) := hall
                        have HK : Hid (M2 k (tan + d) = true) := hMk
                        clear hst hints hall hMk
                        by_cases hqn : q < ts.length
                        · obtain ⟨t, ht⟩ : ∃ t, ts[q]? = some t := ⟨_, List.getElem?_eq_getElem hqn⟩
                          have htb := HTS.out.2 t (List.mem_of_getElem? ht)
                          obtain ⟨ht0, htn⟩ := htb
                          obtain ⟨tn, rfl⟩ := Int.eq_ofNat_of_zero_le ht0
                          have htn' : tn ≤ ws.length := by omega
                          have hmem : tn ∈ tg ws k := by rw [HTS.out.1]; exact List.mem_map.2 ⟨_, List.mem_of_getElem? ht, Int.toNat_natCast _⟩
                          have HR2 : Hid (Kn.Reach ws tn (d + lan)) := by
                            have hx1 := reach_step hkn (HU.out.marked.2.1 _ _ HK.out) HO.out.1 hmem
                            rw [HO.out.2] at hx1
                            exact hx1
                          obtain ⟨pp, rfl, hcell⟩ := ints_get HI.out ht
                          have r3 := HU.out.grid.row tn htn'
                          have r4 := HU.out.grid.cell tn (d + lan) htn' hd16
                          have r5 := HU.out.grid.free tn (d + lan) htn'
                          have HTq : Hid (ts[q]? = some (tn : Int)) := ht
                          clear ht ht0 htn hmem
                          cases hM2 : M2 tn (d + lan)
                          · rw [hM2] at r4
                            go_wp2
                            go_roundg (ts.length - (q + 1))
                            case measure => omega
                            case rel =>
                              refine ⟨true, Kn.mark M2 tn (d + lan), Bd2, q + 1, rfl, by go_num, by omega, rfl, HU.out.setMark htn' hd16 hM2 HR2.out, mark_of _ _ HK.out, .inl rfl, ints_set HI.out (by show w.heap.size + 1 + tn < w1.heap.size; omega)⟩
                          · rw [hM2] at r4
                            go_wp2
                            go_roundg (ts.length - (q + 1))
                            case measure => omega
                            case rel =>
                              refine ⟨b, M2, Bd2, q + 1, rfl, by go_num, by omega, rfl, HU.out, HK.out, ?_, HI.out⟩
                              rcases HA.out with h | h
                              · exact .inl h
                              · right
                                intro j t hj hjt
                                by_cases e : j = q
                                · subst e; rw [HTq.out] at hjt; injection hjt with hjt; rw [← hjt, Int.toNat_natCast]; exact hM2
                                · exact h j t (by omega) hjt
                        · go_wp2
                          go_roundg (17 - (tan + d + 1))
                          case measure => omega
                          case rel =>
                            refine ⟨b, M2, Bd2, tan + d + 1, rfl, by go_num, by omega, rfl, HU.out.weak (fun i h hd => ?_), HI.out⟩
                            rcases hd with hd | ⟨rfl, hd⟩
                            · exact .inr (.inl (.inl hd))
                            · by_cases e : h = tan + d
                              · subst e
                                rcases HA.out with hb | hb
                                · exact .inl hb
                                · right; right
                                  intro _
                                  refine ⟨fun _ t ht => ?_, fun ho => absurd HO.out.1 ho⟩
                                  rw [HTS.out.1] at ht
                                  obtain ⟨t', ht', rfl⟩ := List.mem_map.1 ht
                                  obtain ⟨j, hj⟩ := List.mem_iff_getElem?.1 ht'
                                  rw [HO.out.2]
                                  exact hb j t' (by have := (List.getElem?_eq_some_iff.1 hj).1; omega) hj
                              · exact .inr (.inl (.inr ⟨rfl, by omega⟩))
                    · have q1 := HU.out.bad.cell k (by omega)
                      have q2 := HU.out.bad.free k
                      have HO : Hid (¬ okAt ws k hh) := by
                        have hx1 : ¬ okAt ws k hh := by unfold okAt; rw [HTK.out.1, HTK.out.2.1]; exact hok
                        exact hx1
                      have hcase : hh < tan ∨ (tan ≤ hh ∧ 16 < hh - tan + lan) := by omega
                      clear hok
                      rcases hcase with hc1 | ⟨hc1, hc2⟩
                      all_goals
                        go_wp2
                        go_roundg (17 - (hh + 1))
                        case measure => omega
                        case rel =>
                          refine ⟨b, M1, markB Bd1 k, hh + 1, rfl, by go_num, by omega, rfl, (HU.out.setBad hkn hM HO.out).weak (fun i h hd => ?_), ints_set HI.out hD⟩
                          rcases hd with hd | ⟨rfl, hd⟩
                          · exact .inr (.inl (.inl (.inl hd)))
                          · by_cases e : h = hh
                            · subst e; exact .inr (.inl (.inr ⟨rfl, rfl⟩))
                            · exact .inr (.inl (.inl (.inr ⟨rfl, by omega⟩)))
                · obtain rfl : hh = 17 := by omega
                  go_wp2
                  go_roundg (ws.length - (k + 1))
                  case measure => omega
                  case rel =>
                    refine ⟨b, M1, Bd1, k + 1, rfl, by go_num, by omega, rfl, HU.out.weak (fun i h hd => ?_)⟩
                    by_cases e : i = k
                    · subst e; exact .inr (.inl (.inr ⟨rfl, by omega⟩))
                    · exact .inr (.inl (.inl ⟨by omega, hd.2⟩))
            · obtain rfl : k = ws.length := by omega
              go_wp2
              go_roundg (2 * unm ws.length M' + (if b = true then 1 else 0))
              case measure =>
                have h1 := HU.out.le
                have h2 := HU.out.lt
                cases b
                · simp; omega
                · have := h2 rfl; simp; omega
              case rel => exact ⟨b, M', Bd', _, rfl, HU.out, rfl⟩

end Go.Proofs.YtkghmgoefiepeaaDoor.reads
