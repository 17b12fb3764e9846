import Derived.Test.YtkghmgoefiepeaaGreatDoorP0
import Derived.Test.YtkghmgoefiepeaaGreatDoorP31
set_option linter.unusedSimpArgs false
set_option linter.unusedVariables false
set_option maxHeartbeats 4000000
set_option maxRecDepth 100000
namespace Go.Proofs.YtkghmgoefiepeaaGreatDoor.reads
open Go.ChangeShapes Go.WideShapes Go.ChangeAt Go.RowKit Kn Go.Proofs.YtkghmgoefiepeaaGreatDoor.img
variable {w w1 w2 : World}
theorem _root_.Go.RowKit.Below.then (h : Below w.heap.size w w1) (h' : Below w1.heap.size w1 w2) : Below w.heap.size w w2 := h.trans (h'.mono h.size)
theorem results_fnd {fn : Func} {p : Tmp} (h : fn.results = #[.cell p 62]) {tmps : Array Value} {z : Nat} (v0 v1 : Value) (hp : tmps.getD p undef = .pointer (some ⟨z, 0, none⟩)) (z0 : w.cell? ⟨z, 0, none⟩ = some v0) (z1 : w.cell? ⟨z, 1, none⟩ = some v1) :
 (results fn tmps).run Tryz.prog w = .ok (.agg #[v0, v1]) w := by
 have hp2 : tmps[p]?.getD undef = .pointer (some ⟨z, 0, none⟩) := by rw [← hp]; simp
 simp [results, h, hp2, go_sem, z0, z1]
theorem results_row {fn : Func} {p : Tmp} (h : fn.results = #[.cell p 64]) {tmps : Array Value} {z : Nat} (v0 v1 v2 v3 : Value) (hp : tmps.getD p undef = .pointer (some ⟨z, 0, none⟩)) (z0 : w.cell? ⟨z, 0, none⟩ = some v0) (z1 : w.cell? ⟨z, 1, none⟩ = some v1) (z2 : w.cell? ⟨z, 2, none⟩ = some v2) (z3 : w.cell? ⟨z, 3, none⟩ = some v3) :
 (results fn tmps).run Tryz.prog w = .ok (.agg #[v0, v1, v2, v3]) w := by
 have hp2 : tmps[p]?.getD undef = .pointer (some ⟨z, 0, none⟩) := by rw [← hp]; simp
 simp [results, h, hp2, go_sem, z0, z1, z2, z3]
theorem climb_succ {α : Type} (ab : Nat → Option Nat) (ow : Nat → Option α) (f c : Nat) : climb ab ow (f + 1) (some c) = match ow c with
 | some x => some (c, x)
 | none => climb ab ow f (ab c) := rfl
def Kd.says (K : Kd) (m : Im) (s : ByteArray) (c : Option Nat) : Option (Nat × Nat) := climb m.ab (fun c => K.mid c s) (m.kl.length + 1) c
def fval (K : Kd) (r : Option (Nat × Nat)) : Value := .agg #[.pointer (cptr (r.map (fun x => K.cb x.1))), .pointer (cptr (r.map (·.2)))]
variable {m : Im}
variable {K : Kd}
theorem cfind_any (h : KIm w m K) (c : Option Nat) (hc : ∀ x, c = some x → x < m.kl.length) (s : ByteArray) :
 Calls Tryz.prog 163 #[.pointer (cptr (c.map K.cb)), .string s] w fun e w' => e = .returned (fval K (K.says m s c)) ∧ Below w.heap.size w w' := by
 obtain ⟨r, hr1, hr2⟩ := rank_ab h.ok
 unfold Kd.says
 obtain ⟨b, hb⟩ : ∃ b, climb m.ab (fun c => K.mid c s) (m.kl.length + 1) c = b := ⟨_, rfl⟩
 rw [hb]
 have HB : Hid _ := hb
 have HA : Hid (Below w.heap.size w (w.alloc (.cells #[.pointer none, .pointer none] 62))) := (Below.refl _ w).alloc (Nat.le_refl _) _
 have HK : Hid (KIm (w.alloc (.cells #[.pointer none, .pointer none] 62)) m K) := h.below HA.out
 have HN : ∀ (v0 v1 : Value) (k : Nat), (w.alloc (.cells #[v0, v1] 62)).cell? ⟨w.heap.size, k, none⟩ = #[v0, v1][k]? := fun v0 v1 k => new_cell w _ _ _ k rfl
 clear hb h
 go_enter Tryz.func163, Tryz.ntmps163
 go_wp2
 go_loopg [0] (m.kl.length + 1) (fun gk v wr => ∃ e : Option Nat, v = .pointer (cptr (e.map K.cb)) ∧ (∀ x, e = some x → x < m.kl.length ∧ r x < gk) ∧ climb m.ab (fun c => K.mid c s) gk e = b ∧ wr = w.alloc (.cells #[.pointer none, .pointer none] 62))
 case atStart => exact ⟨c, rfl, fun x hx => ⟨hc x hx, by have := hr1 x; omega⟩, HB.out, rfl⟩
 case round =>
  obtain ⟨e, rfl, he, hu, rfl⟩ := hrel
  cases e with
  | none =>
   have hbf : b = none := by rw [← hu]; exact climb_none _ _ _
   subst hbf
   simp only [Option.map_none, cptr]
   clear hu he
   go_wp2
   refine bodyPost_ret (results_fnd (z := w.heap.size) Tryz.results163 (.pointer none) (.pointer none) rfl (HN _ _ 0) (HN _ _ 1)) rfl ⟨rfl, HA.out⟩
  | some x =>
   obtain ⟨hx, hrx⟩ := he x rfl
   obtain ⟨g, rfl⟩ : ∃ g, gk = g + 1 := ⟨gk - 1, by omega⟩
   have hab := HK.out.cls.above hx
   have hcm := HK.out.cls.meth hx
   have lk := HK.out.lookM hx s
   rw [climb_succ] at hu
   simp only [Option.map_some, cptr] at hab lk ⊢
   cases hmd : K.mid x s with
   | some k =>
    rw [hmd] at lk
    simp only [hmd, Option.map_some] at lk hu
    subst hu
    clear he
    go_wp2
    refine bodyPost_ret (results_fnd (z := w.heap.size) Tryz.results163 (.pointer (some ⟨K.cb x, 0, none⟩)) (.pointer (some ⟨k, 0, none⟩)) rfl (HN _ _ 0) (HN _ _ 1)) rfl ⟨rfl, (Below.refl _ w).alloc (Nat.le_refl _) _⟩
   | none =>
    rw [hmd] at lk
    simp only [hmd, Option.map_none] at lk hu
    have HU : Hid _ := hu
    clear hu he
    go_wp2
    go_roundg g
    case measure => omega
    case rel =>
     exact ⟨m.ab x, by simp [cptr], fun y hy => ⟨ab_lt HK.out.ok hy, by have := hr2 x y hy; omega⟩, HU.out, rfl⟩
theorem TabAt.put {b n : Nat} {R : Nat → Rw4} (h : TabAt w b n R) {i : Nat} (hi : i < 64) (r : Rw4) :
 TabAt ((((w.setCell ⟨b, 6 + i * 4, none⟩ (.pointer r.fr)).setCell ⟨b, 6 + i * 4 + 1, none⟩ (.string r.sel)).setCell ⟨b, 6 + i * 4 + 2, none⟩ (.pointer r.hm)).setCell ⟨b, 6 + i * 4 + 3, none⟩ (.pointer r.mt)) b n (fun j => if j = i then r else R j) := by
 have ho : ∀ (W : World) (v : Value) (o p : Nat), o ≠ p → (W.setCell ⟨b, p, none⟩ v).cell? ⟨b, o, none⟩ = W.cell? ⟨b, o, none⟩ := fun W v o p hne => cs_other (by intro e; injection e with e1 e2; omega)
 refine ⟨(((h.cel.setCell _ _).setCell _ _).setCell _ _).setCell _ _, h.n1, h.n64, ?_, fun j hj => ?_, fun j hj => ?_, fun j hj => ?_, fun j hj => ?_⟩
 · rw [ho _ _ _ _ (by omega), ho _ _ _ _ (by omega), ho _ _ _ _ (by omega), ho _ _ _ _ (by omega)]; exact h.sz
 · by_cases e : j = i
   · subst e
     rw [ho _ _ _ _ (by omega), ho _ _ _ _ (by omega), ho _ _ _ _ (by omega), cs_same (h.c0 j hj)]
     simp
   · rw [ho _ _ _ _ (by omega), ho _ _ _ _ (by omega), ho _ _ _ _ (by omega), ho _ _ _ _ (by omega), h.c0 j hj]
     simp [e]
 · by_cases e : j = i
   · subst e
     rw [ho _ _ _ _ (by omega), ho _ _ _ _ (by omega), cs_same ((ho _ _ _ _ (by omega)).trans (h.c1 j hj))]
     simp
   · rw [ho _ _ _ _ (by omega), ho _ _ _ _ (by omega), ho _ _ _ _ (by omega), ho _ _ _ _ (by omega), h.c1 j hj]
     simp [e]
 · by_cases e : j = i
   · subst e
     rw [ho _ _ _ _ (by omega), cs_same (((ho _ _ _ _ (by omega)).trans (ho _ _ _ _ (by omega))).trans (h.c2 j hj))]
     simp
   · rw [ho _ _ _ _ (by omega), ho _ _ _ _ (by omega), ho _ _ _ _ (by omega), ho _ _ _ _ (by omega), h.c2 j hj]
     simp [e]
 · by_cases e : j = i
   · subst e
     rw [cs_same ((((ho _ _ _ _ (by omega)).trans (ho _ _ _ _ (by omega))).trans (ho _ _ _ _ (by omega))).trans (h.c3 j hj))]
     simp
   · rw [ho _ _ _ _ (by omega), ho _ _ _ _ (by omega), ho _ _ _ _ (by omega), ho _ _ _ _ (by omega), h.c3 j hj]
     simp [e]
theorem bytesRow_cell (s : ByteArray) (cap k : Nat) (hk : k < s.size) : ∃ n : Nat, n < 256 ∧ (bytesRow s cap)[k]? = some (.int .u8 n) := by
 refine ⟨(s.data[k]'hk).toNat, (s.data[k]'hk).toNat_lt, ?_⟩
 unfold bytesRow
 rw [Array.getElem?_append_left (by simpa using hk)]
 rw [Array.getElem?_map, Array.getElem?_eq_getElem hk]
 rfl
theorem hash_any (h : KIm w m K) {c : Nat} (hc : c < m.kl.length) (s : ByteArray) (hs : s.size ≤ 1000) :
 Calls Tryz.prog 166 #[.agg #[.pointer (some ⟨K.cb c, 0, none⟩), .string s]] w fun e w' => (∃ n : Nat, e = .returned (.int .u32 n)) ∧ Below w.heap.size w w' := by
 have hcv := fun W => run_bytes_of_string (P := Tryz.prog) W 9 200 5 s Tryz.underlying9 Tryz.underlying200 Tryz.underlying5
 have cn : w.cell? ⟨K.cb c, 1, none⟩ = some (.int .i64 (c : Nat)) := by
  have := h.cls.at_ c _ (List.getElem?_eq_getElem hc)
  simp only [World.cell?, this]
  rfl
 have hcl := (h.cls.cel hc).lt
 have hfew := h.ok.few
 clear h
 go_enter Tryz.func166, Tryz.ntmps166
 go_wp2
 obtain ⟨W1, hW1⟩ : ∃ W1, W1 = ((w.alloc (.cells #[.pointer (some ⟨K.cb c, 0, none⟩), .string s] 59)).drew.alloc (.cells (bytesRow s (grownCap (w.alloc (.cells #[.pointer (some ⟨K.cb c, 0, none⟩), .string s] 59)) s.size 0 5)) 5 ((bytesRow s (grownCap (w.alloc (.cells #[.pointer (some ⟨K.cb c, 0, none⟩), .string s] 59)) s.size 0 5)).size, (bytesRow s (grownCap (w.alloc (.cells #[.pointer (some ⟨K.cb c, 0, none⟩), .string s] 59)) s.size 0 5)).size + 1))) := ⟨_, rfl⟩
 have hB1 : Below w.heap.size w W1 := by rw [hW1]; exact ((Below.refl _ w).alloc (Nat.le_refl _) _).drew.alloc (by simp) _
 have q0 : W1.cell? ⟨w.heap.size, 0, none⟩ = some (.pointer (some ⟨K.cb c, 0, none⟩)) := by
  rw [hW1]
  refine (World.cell?_of_block (a := ⟨w.heap.size, 0, none⟩) (Below.heap_alloc _ _ _ (by simp))).trans ?_
  exact new_cell w _ _ _ 0 rfl
 have hby : ∀ k, k < s.size → ∃ n : Nat, n < 256 ∧ W1.cell? ⟨w.heap.size + 1, k, none⟩ = some (.int .u8 n) := fun k hk => by
  obtain ⟨n, h1, h2⟩ := bytesRow_cell s (grownCap (w.alloc (.cells #[.pointer (some ⟨K.cb c, 0, none⟩), .string s] 59)) s.size 0 5) k hk
  refine ⟨n, h1, ?_⟩
  rw [hW1]
  have := (MapKept.heap_alloc (w.alloc (.cells #[.pointer (some ⟨K.cb c, 0, none⟩), .string s] 59)).drew (.cells (bytesRow s (grownCap (w.alloc (.cells #[.pointer (some ⟨K.cb c, 0, none⟩), .string s] 59)) s.size 0 5)) 5 ((bytesRow s (grownCap (w.alloc (.cells #[.pointer (some ⟨K.cb c, 0, none⟩), .string s] 59)) s.size 0 5)).size, (bytesRow s (grownCap (w.alloc (.cells #[.pointer (some ⟨K.cb c, 0, none⟩), .string s] 59)) s.size 0 5)).size + 1))).1
  simp only [World.size_drew, World.size_alloc] at this
  simp only [World.cell?, this]
  exact h2
 have cn1 : W1.cell? ⟨K.cb c, 1, none⟩ = some (.int .i64 (c : Nat)) := (hB1.cell (p := ⟨K.cb c, 1, none⟩) hcl).trans cn
 have hl1 : K.cb c < W1.heap.size := Nat.lt_of_lt_of_le hcl hB1.size
 have HB1 : Hid _ := hB1
 go_loopw [3, 10] (fun x i wr => ∃ (k : Nat) (n : Int), i = .int .i64 k ∧ k ≤ s.size ∧ x = .int .u32 n ∧ wr = W1) (fun _ i _ => s.size - (intOf i).toNat)
 case atStart => exact ⟨0, _, rfl, Nat.zero_le _, rfl, hW1.symm⟩
 case round =>
  obtain ⟨k, n, rfl, hk, rfl, rfl⟩ := hrel
  clear hW1 cn hcl hB1
  by_cases hlt : k < s.size
  · obtain ⟨x, hx, hxc⟩ := hby k hlt
    clear hby
    go_wp2
    go_roundw
    case measure => simp [intOf] <;> omega
    case rel => exact ⟨k + 1, _, by go_num, by omega, rfl, trivial⟩
  · have hke : k = s.size := by omega
    subst hke
    clear hby
    go_wp2
    go_ret
    exact ⟨⟨((n + (c : Int)) % 4294967296).toNat, congrArg (fun x => Ending.returned (Value.int IntKind.u32 x)) (by show (n + (c : Int)) % 4294967296 = _; omega)⟩, HB1.out⟩
theorem entryFor_any (h : KIm w m K) {c : Nat} (hc : c < m.kl.length) (s : ByteArray) (hs : s.size ≤ 1000) :
 Calls Tryz.prog 161 #[.pointer (some ⟨K.b, 6, none⟩), .agg #[.pointer (some ⟨K.cb c, 0, none⟩), .string s]] w fun e w' => (∃ i, i < K.k.n ∧ e = .returned (.pointer (some ⟨K.b, 6 + i * 4, none⟩))) ∧ Below w.heap.size w w' := by
 have hB0 : Below w.heap.size w (w.alloc (.cells #[.pointer (some ⟨K.cb c, 0, none⟩), .string s] 59)) := (Below.refl _ w).alloc (Nat.le_refl _) _
 have h0 := h.below hB0
 have h1 := h0.drew
 have hen := entries_any K.b K.k.n K.k.R _ h0.cor.tab
 have hha := hash_any h1 hc s hs
 have n1 := h.cor.tab.n1
 have n64 := h.cor.tab.n64
 have HB0 : Hid _ := hB0
 clear h h0 h1 hB0
 go_enter Tryz.func161, Tryz.ntmps161
 go_wp2_with fail
 refine hen.mono ?_
 rintro e w' ⟨rfl, rfl⟩
 go_wp2_with fail
 refine hha.mono ?_
 rintro e w2 ⟨⟨x, rfl⟩, hb2⟩
 have HB2 : Hid _ := hb2
 clear hb2 hha hen
 have hn0 : ¬ ((K.k.n : Int) = 0) := by omega
 have hi1 : 0 ≤ (x : Int) % (K.k.n : Int) := Int.emod_nonneg _ hn0
 have hi2 : (x : Int) % (K.k.n : Int) < (K.k.n : Int) := Int.emod_lt_of_pos _ (by omega)
 go_wp2
 go_ret
 exact ⟨⟨x % K.k.n, Nat.mod_lt _ (by omega), rfl⟩, HB0.out.then (undrew HB2.out)⟩
theorem kept_any (fr hm mt : Option Addr) (s : ByteArray) (hs : s.size ≤ 1000) (w : World) :
 Calls Tryz.prog 162 #[.agg #[.pointer fr, .string s], .agg #[.pointer hm, .pointer mt]] w fun e w' => e = .returned (Rw4.val ⟨fr, s, hm, mt⟩) ∧ Below w.heap.size w w' := by
 obtain ⟨W1, hW1⟩ : ∃ W1, W1 = ((w.alloc (.cells #[.pointer fr, .string s] 59)).alloc (.cells #[.pointer hm, .pointer mt] 62)).alloc (.cells #[.pointer none, .string ⟨#[]⟩, .pointer none, .pointer none] 64) := ⟨_, rfl⟩
 have hB1 : Below w.heap.size w W1 := by rw [hW1]; exact below3 _ _ _ _
 have hcl := clone_any s W1 (by omega)
 unfold Rw4.val
 go_enter Tryz.func162, Tryz.ntmps162
 go_wp2_with fail
 rw [← hW1]
 refine hcl.mono ?_
 rintro e w2 ⟨rfl, hb2⟩
 have b0 : w2.heap[w.heap.size]? = some (.cells #[.pointer fr, .string s] 59) := by
  rw [hb2.block _ (by rw [hW1]; simp; omega), hW1, Below.heap_alloc _ _ _ (by simp; omega), Below.heap_alloc _ _ _ (by simp)]
  exact (MapKept.heap_alloc w _).1
 have b1 : w2.heap[w.heap.size + 1]? = some (.cells #[.pointer hm, .pointer mt] 62) := by
  rw [hb2.block _ (by rw [hW1]; simp), hW1, Below.heap_alloc _ _ _ (by simp)]
  have := (MapKept.heap_alloc (w.alloc (.cells #[.pointer fr, .string s] 59)) (.cells #[.pointer hm, .pointer mt] 62)).1
  rw [World.size_alloc] at this
  exact this
 have b2 : w2.heap[w.heap.size + 1 + 1]? = some (.cells #[.pointer none, .string ⟨#[]⟩, .pointer none, .pointer none] 64) := by
  rw [hb2.block _ (by rw [hW1]; simp), hW1]
  have := (MapKept.heap_alloc ((w.alloc (.cells #[.pointer fr, .string s] 59)).alloc (.cells #[.pointer hm, .pointer mt] 62)) (.cells #[.pointer none, .string ⟨#[]⟩, .pointer none, .pointer none] 64)).1
  simp only [World.size_alloc] at this
  exact this
 have hl2 : w.heap.size + 3 ≤ w2.heap.size := by have := hb2.size; rw [hW1] at this; simp at this; omega
 have q0 : w2.cell? ⟨w.heap.size, 0, none⟩ = some (.pointer fr) := by simp only [World.cell?, b0]; rfl
 have q1 : w2.cell? ⟨w.heap.size, 1, none⟩ = some (.string s) := by simp only [World.cell?, b0]; rfl
 have f0 : w2.cell? ⟨w.heap.size + 1, 0, none⟩ = some (.pointer hm) := by simp only [World.cell?, b1]; rfl
 have f1 : w2.cell? ⟨w.heap.size + 1, 1, none⟩ = some (.pointer mt) := by simp only [World.cell?, b1]; rfl
 have r0 : w2.cell? ⟨w.heap.size + 1 + 1, 0, none⟩ = some (.pointer none) := by simp only [World.cell?, b2]; rfl
 have r1 : w2.cell? ⟨w.heap.size + 1 + 1, 1, none⟩ = some (.string ⟨#[]⟩) := by simp only [World.cell?, b2]; rfl
 have r2 : w2.cell? ⟨w.heap.size + 1 + 1, 2, none⟩ = some (.pointer none) := by simp only [World.cell?, b2]; rfl
 have r3 : w2.cell? ⟨w.heap.size + 1 + 1, 3, none⟩ = some (.pointer none) := by simp only [World.cell?, b2]; rfl
 have fz0 : ∀ o, w2.frozen? ⟨w.heap.size, o, none⟩ = false := fun o => (Cel.free ⟨_, _, b0⟩ o)
 have fz2 : ∀ o, w2.frozen? ⟨w.heap.size + 1 + 1, o, none⟩ = false := fun o => (Cel.free ⟨_, _, b2⟩ o)
 have HB : Hid (Below w.heap.size w w2) := hB1.then hb2
 clear hb2 hB1 b0 b1 b2 hW1 hcl
 go_wp2
 refine bodyPost_ret (results_row (z := w.heap.size + 1 + 1) Tryz.results162 (.pointer fr) (.string s) (.pointer hm) (.pointer mt) rfl ?_ ?_ ?_ ?_) rfl ⟨rfl, ?_⟩
 · rw [cs_other (by intro e; injection e with e1 e2; omega), cs_other (by intro e; injection e with e1 e2; omega), cs_other (by intro e; injection e with e1 e2; omega)]; exact cs_same ((cs_other (by intro e; injection e with e1 e2; omega)).trans r0)
 · rw [cs_other (by intro e; injection e with e1 e2; omega), cs_other (by intro e; injection e with e1 e2; omega)]; exact cs_same ((cs_other (by intro e; injection e with e1 e2; omega)).trans ((cs_other (by intro e; injection e with e1 e2; omega)).trans r1))
 · rw [cs_other (by intro e; injection e with e1 e2; omega)]; exact cs_same ((cs_other (by intro e; injection e with e1 e2; omega)).trans ((cs_other (by intro e; injection e with e1 e2; omega)).trans ((cs_other (by intro e; injection e with e1 e2; omega)).trans r2)))
 · exact cs_same ((cs_other (by intro e; injection e with e1 e2; omega)).trans ((cs_other (by intro e; injection e with e1 e2; omega)).trans ((cs_other (by intro e; injection e with e1 e2; omega)).trans ((cs_other (by intro e; injection e with e1 e2; omega)).trans r3))))
 · exact ((((HB.out.setCell (Nat.le_refl _) _).setCell (by show w.heap.size ≤ w.heap.size + 1 + 1; omega) _).setCell (by show w.heap.size ≤ w.heap.size + 1 + 1; omega) _).setCell (by show w.heap.size ≤ w.heap.size + 1 + 1; omega) _).setCell (by show w.heap.size ≤ w.heap.size + 1 + 1; omega) _
variable {w' w0 : World}
variable {m0 : Im}
variable {K0 : Kd}
theorem Step.aside {S : Nat → Prop} (h : Step w0 w m0 K0 m K) (hc : Chg w w' S) (hS : ∀ k, S k → w0.heap.size ≤ k ∧ ¬ Foot m K k) (hg : ∀ k, Gl k → k < w0.heap.size) : Step w0 w' m0 K0 m K :=
 ⟨h.kim.chg hc (fun k e e' => (hS k e').2 e) (fun k e e' => by have := (hS k e').1; have := hg k e; omega), h.b, h.np, h.chg.then hc (fun k hk e => by have := (hS k e).1; omega), h.foot, h.len, h.cb, h.md⟩
theorem KIm.rmb (h : KIm w m K) {looks climbs : Nat} {pm : Nat → Mm} {R : Nat → Rw4} (hl : climbs ≤ looks)
 (hP : Pls K.k.np w' K.k.L pm (SdI m K)) (hT : TabAt w' K.b K.k.n R) (hr : ∀ i, i < K.k.n → SrI m K (R i))
 (ho : ∀ p s, (p, s) ∈ K.k.L → K.k.pm p = .only → pm p = .only) (ha : ∀ p s q, (p, s) ∈ K.k.L → (pm p).arr = some q → (K.k.pm p).arr = some q ∨ w.heap.size ≤ q)
 (hch : Chg w w' (fun k => k = K.b ∨ PlBlk K.k.L K.k.pm k)) (htyp : ∃ cur, w'.heap[K.b]? = some (.cells cur 70))
 (hc : ∀ o, o < 6 → o ≠ 2 → o ≠ 3 → w'.cell? ⟨K.b, o, none⟩ = w.cell? ⟨K.b, o, none⟩) (c2 : w'.cell? ⟨K.b, 2, none⟩ = some (.int .i64 (Go.RowKit.wrap64 (looks : Nat)))) (c3 : w'.cell? ⟨K.b, 3, none⟩ = some (.int .i64 (Go.RowKit.wrap64 (climbs : Nat)))) :
 Step w w' m K { m with looks := looks } { K with climbs := climbs, k := { K.k with pm := pm, R := R } } := by
 obtain ⟨n1, n2, n3, n4⟩ := h.forgotNot
 have hcc := h.cor
 have hmap : ∀ (k : Nat) (es : Array MapEntry) (ck : Nat), w.heap[k]? = some (.map es ck) → w'.heap[k]? = w.heap[k]? := fun k es ck hk => hch.block k (Array.getElem?_eq_some_iff.1 hk).1 (fun e => by
  rcases e with e | e
  · obtain ⟨cur, hcur⟩ := hcc.img
    rw [← e, hk] at hcur; cases hcur
  · exact not_plBlk_map hcc.pls hk e)
 have hpb : ∀ j, PlBlk K.k.L pm j → PlBlk K.k.L K.k.pm j ∨ w.heap.size ≤ j := by
  rintro j ⟨p, s, hps, e | e⟩
  · exact .inl ⟨p, s, hps, .inl e⟩
  · rcases ha p s j hps e with e | e
    · exact .inl ⟨p, s, hps, .inr e⟩
    · exact .inr e
 have hcor : Cor w' K.b { K.k with pm := pm, R := R } (fun _ => False) (SdI m K) (SrI m K) := by
  refine ⟨htyp, (hc 5 (by omega) (by omega) (by omega)).trans hcc.b5, ⟨?_, fun s v hv => ?_, hcc.snd.inj, fun s ib p hs hp => hP.cel (hcc.reg s p ⟨ib, hs, hp⟩)⟩, hP, hcc.reg, fun p s hps => ?_, hT, hr, fun k hk => ?_, fun k hk h1 e => ?_⟩
  · obtain ⟨es, ck, hm, _⟩ := hcc.snd.map
    exact hcc.snd.map.same (hmap _ _ _ hm)
  · obtain ⟨ib, rfl, h4, h5⟩ := hcc.snd.inn s v hv
    obtain ⟨es, ck, hm, hx⟩ := id h4
    exact ⟨ib, rfl, h4.same (hmap _ _ _ hm), h5⟩
  · rcases hcc.told p s hps with e | e | e
    · exact .inl e
    · exact .inr (.inl (ho p s hps e))
    · exact e.elim
  · have hm := hcc.mt k hk
    obtain ⟨n, hb⟩ := hm.blk
    refine hm.same (hch.block k hm.cel.lt (fun e => ?_)) (fun h1 => hch.block _ (hm.mat.cel h1).lt (fun e => ?_))
    · rcases e with e | e
      · exact hcc.bn (by rw [← e]; exact .inr (.inr (.inr hk)))
      · exact not_plBlk hcc.pls hb (by decide) (by decide) e
    · rcases e with e | e
      · exact (hcc.gn hk h1).2 e
      · exact hcc.gfr k hk h1 e
  · rcases hpb _ e with e | e
    · exact hcc.gfr k hk h1 e
    · have := ((hcc.mt k hk).mat.cel h1).lt
      have e : w.heap.size ≤ (K.k.md k).g := e
      omega
 have hfoot : ∀ k, Foot { m with looks := looks } { K with climbs := climbs, k := { K.k with pm := pm, R := R } } k → Foot m K k ∨ w.heap.size ≤ k := fun k e => by
  rcases e with e | e | e | e | e | e
  · exact .inl (.inl e)
  · exact .inl (.inr (.inl e))
  · exact .inl (.inr (.inr (.inl e)))
  · rcases e with e | e | e | e
    · exact .inl (.inr (.inr (.inr (.inl (.inl e)))))
    · exact .inl (.inr (.inr (.inr (.inl (.inr (.inl e))))))
    · rcases hpb k e with e | e
      · exact .inl (.inr (.inr (.inr (.inl (.inr (.inr (.inl e)))))))
      · exact .inr e
    · exact .inl (.inr (.inr (.inr (.inl (.inr (.inr (.inr e)))))))
  · exact .inl (.inr (.inr (.inr (.inr (.inl e)))))
  · exact .inl (.inr (.inr (.inr (.inr (.inr e)))))
 have hchF : Chg w w' (Foot m K) := hch.mono (fun k _ e => h.forgotFoot e)
 have hh := h.hd
 refine ⟨⟨h.ok.looks _, hcor, ⟨(hc 0 (by omega) (by omega) (by omega)).trans hh.c0, (hc 1 (by omega) (by omega) (by omega)).trans hh.c1, c2, c3, (hc 4 (by omega) (by omega) (by omega)).trans hh.c4⟩, h.np6, hl, h.lc.same (hch.block _ h.lc.lt n3), h.lcl, h.lcn, ⟨(h.cls.chg hch n1).at_, h.cls.inj⟩, fun c hc => (h.lm c hc).same (hch.block _ (h.lm c hc).lt (n2 c hc)), h.mid, h.own, h.isM, ⟨h.ap.mb_sb, h.ap.mb_ib, h.ap.cm_mb, h.ap.cm_sb, h.ap.cm_ib, h.ap.cm_inj⟩, h.obs.same (fun k hk => hch.block k (h.obs.lt hk) (n4 k hk)), h.glo.chg hchF (fun k hg e => h.gl k e hg), fun k hk hg => ?_⟩, rfl, rfl, hchF, hfoot, Nat.le_refl _, fun _ _ => rfl, fun k hk => ⟨hk, rfl⟩⟩
 rcases hfoot k hk with e | e
 · exact h.gl k e hg
 · have := h.glo.lt hg; omega
theorem KIm.looked (h : KIm w m K) : Step w (w.setCell ⟨K.b, 2, none⟩ (.int .i64 (Go.RowKit.wrap64 ((m.looks + 1 : Nat) : Int)))) m K { m with looks := m.looks + 1 } K := by
 have hP := h.cor.pls
 have hb : ∀ k, k ≠ K.b → (w.setCell ⟨K.b, 2, none⟩ (.int .i64 (Go.RowKit.wrap64 ((m.looks + 1 : Nat) : Int)))).heap[k]? = w.heap[k]? := fun k hk => Below.heap_setCell _ _ _ _ hk
 have ho : ∀ o, o ≠ 2 → (w.setCell ⟨K.b, 2, none⟩ (.int .i64 (Go.RowKit.wrap64 ((m.looks + 1 : Nat) : Int)))).cell? ⟨K.b, o, none⟩ = w.cell? ⟨K.b, o, none⟩ := fun o hne => cs_other (by intro e; injection e with e1 e2; omega)
 have hT := h.cor.tab
 refine h.rmb (looks := m.looks + 1) (climbs := K.climbs) (pm := K.k.pm) (R := K.k.R) (Nat.le_succ_of_le h.cll) (hP.same (fun k hk => hb k (fun e => h.cor.bn (by rw [← e]; exact .inr (.inr (.inl hk)))))) ?_ h.cor.rows (fun _ _ _ e => e) (fun _ _ _ _ e => .inl e) ((Chg.refl w _).setCell _ _ (fun _ => .inl rfl)) ?_ (fun o _ h2 _ => ho o h2) (cs_same h.hd.c2) ((ho 3 (by omega)).trans h.hd.c3)
 · exact ⟨hT.cel.setCell _ _, hT.n1, hT.n64, (ho _ (by omega)).trans hT.sz, fun i hi => (ho _ (by omega)).trans (hT.c0 i hi), fun i hi => (ho _ (by omega)).trans (hT.c1 i hi), fun i hi => (ho _ (by omega)).trans (hT.c2 i hi), fun i hi => (ho _ (by omega)).trans (hT.c3 i hi)⟩
 · obtain ⟨cur, hcur⟩ := h.cor.img
   exact ⟨_, by simp only [World.setCell, Array.getElem?_modify, if_pos, hcur]; rfl⟩
theorem typ_set {b : Nat} (o : Nat) (v : Value) (h : ∃ cur, w.heap[b]? = some (.cells cur 70)) : ∃ cur, (w.setCell ⟨b, o, none⟩ v).heap[b]? = some (.cells cur 70) := by
 obtain ⟨cur, hcur⟩ := h
 exact ⟨_, by simp only [World.setCell, Array.getElem?_modify, if_pos, hcur]; rfl⟩
theorem KIm.climbed (h : KIm w m K) (hl : K.climbs < m.looks) : Step w (w.setCell ⟨K.b, 3, none⟩ (.int .i64 (Go.RowKit.wrap64 ((K.climbs + 1 : Nat) : Int)))) m K m { K with climbs := K.climbs + 1 } := by
 have hP := h.cor.pls
 have hT := h.cor.tab
 have ho1 : ∀ o, o ≠ 3 → (w.setCell ⟨K.b, 3, none⟩ (.int .i64 (Go.RowKit.wrap64 ((K.climbs + 1 : Nat) : Int)))).cell? ⟨K.b, o, none⟩ = w.cell? ⟨K.b, o, none⟩ := fun o hne => cs_other (by intro e; injection e with e1 e2; omega)
 have hT1 : TabAt (w.setCell ⟨K.b, 3, none⟩ (.int .i64 (Go.RowKit.wrap64 ((K.climbs + 1 : Nat) : Int)))) K.b K.k.n K.k.R :=
  ⟨hT.cel.setCell _ _, hT.n1, hT.n64, (ho1 _ (by omega)).trans hT.sz, fun i hi => (ho1 _ (by omega)).trans (hT.c0 i hi), fun i hi => (ho1 _ (by omega)).trans (hT.c1 i hi), fun i hi => (ho1 _ (by omega)).trans (hT.c2 i hi), fun i hi => (ho1 _ (by omega)).trans (hT.c3 i hi)⟩
 exact h.rmb (looks := m.looks) (climbs := K.climbs + 1) (pm := K.k.pm) (R := K.k.R) hl (hP.same (fun k hk => Below.heap_setCell _ _ _ _ (fun e : k = K.b => h.cor.bn (by rw [← e]; exact .inr (.inr (.inl hk)))))) hT1 h.cor.rows (fun _ _ _ e => e) (fun _ _ _ _ e => .inl e) ((Chg.refl w _).setCell _ _ (fun _ => .inl rfl)) (typ_set _ _ h.cor.img) (fun o h6 _ h3 => ho1 o h3) ((ho1 2 (by omega)).trans h.hd.c2) (cs_same h.hd.c3)
def Kd.row (K : Kd) (i : Nat) (r : Rw4) : Kd := { K with k := { K.k with R := fun j => if j = i then r else K.k.R j } }
theorem KIm.rowed (h : KIm w m K) {i : Nat} (hi : i < K.k.n) {r : Rw4} (hr : Ans m K.cb K.mid r) :
 Step w ((((w.setCell ⟨K.b, 6 + i * 4, none⟩ (.pointer r.fr)).setCell ⟨K.b, 6 + i * 4 + 1, none⟩ (.string r.sel)).setCell ⟨K.b, 6 + i * 4 + 2, none⟩ (.pointer r.hm)).setCell ⟨K.b, 6 + i * 4 + 3, none⟩ (.pointer r.mt)) m K m (K.row i r) := by
 have hP := h.cor.pls
 have hT := h.cor.tab
 have h64 := hT.n64
 have ho : ∀ o, o < 6 → ((((w.setCell ⟨K.b, 6 + i * 4, none⟩ (.pointer r.fr)).setCell ⟨K.b, 6 + i * 4 + 1, none⟩ (.string r.sel)).setCell ⟨K.b, 6 + i * 4 + 2, none⟩ (.pointer r.hm)).setCell ⟨K.b, 6 + i * 4 + 3, none⟩ (.pointer r.mt)).cell? ⟨K.b, o, none⟩ = w.cell? ⟨K.b, o, none⟩ := fun o h6 => by
  rw [cs_other (by intro e; injection e with e1 e2; omega), cs_other (by intro e; injection e with e1 e2; omega), cs_other (by intro e; injection e with e1 e2; omega), cs_other (by intro e; injection e with e1 e2; omega)]
 refine h.rmb (looks := m.looks) (climbs := K.climbs) (pm := K.k.pm) (R := fun j => if j = i then r else K.k.R j) h.cll (hP.same (fun k hk => ?_)) (hT.put (by omega) r) (fun j hj => ?_) (fun _ _ _ e => e) (fun _ _ _ _ e => .inl e) ?_ (typ_set _ _ (typ_set _ _ (typ_set _ _ (typ_set _ _ h.cor.img)))) (fun o h6 _ _ => ho o h6) ((ho 2 (by omega)).trans h.hd.c2) ((ho 3 (by omega)).trans h.hd.c3)
 · have hk : k ≠ K.b := fun e => h.cor.bn (by rw [← e]; exact .inr (.inr (.inl hk)))
   rw [Below.heap_setCell _ _ _ _ hk, Below.heap_setCell _ _ _ _ hk, Below.heap_setCell _ _ _ _ hk, Below.heap_setCell _ _ _ _ hk]
 · by_cases e : j = i
   · simp only [e, if_true]; exact .inl hr
   · simp only [e, if_false]; exact h.cor.rows j hj
 · exact (((((Chg.refl w _).setCell _ _ (fun _ => .inl rfl)).setCell _ _ (fun _ => .inl rfl)).setCell _ _ (fun _ => .inl rfl)).setCell _ _ (fun _ => .inl rfl))
structure Lrn (np : Nat) (mm : Mm) (r : Rw4) (mm' : Mm) : Prop where
 only : mm = .only → mm' = .only
 rows : ∀ x, x ∈ mm'.rows → x ∈ mm.rows ∨ x = r
 few : mm.rows.length ≤ np → mm'.rows.length ≤ np
def Kd.learnt (K : Kd) (p : Nat) (mm : Mm) : Kd := { K with k := { K.k with pm := fun k => if k = p then mm else K.k.pm k } }
theorem KIm.learnt {w w3 : World} (h : KIm w m K) {p : Nat} {s : ByteArray} (hp : (p, s) ∈ K.k.L) {r : Rw4} {mm : Mm} (hl : Lrn K.np (K.k.pm p) r mm) (hr : SdI m K s r) (hok : mm.Ok w3) (hq : ∀ q, mm.arr = some q → (K.k.pm p).arr = some q ∨ w.heap.size ≤ q)
 (hqp : ∀ q, mm.arr = some q → q ≠ p) (hch : Chg w w3 (fun k => (K.k.pm p).arr = some k)) : Step w (w3.setCell ⟨p, 0, none⟩ mm.val) m K m (K.learnt p mm) := by
 have hP := h.cor.pls
 have hpb : p ≠ K.b := fun e => h.cor.bn (by rw [← e]; exact .inr (.inr (.inl ⟨p, s, hp, .inl rfl⟩)))
 have hab : ∀ q, (K.k.pm p).arr = some q → q ≠ K.b := fun q e e' => h.cor.bn (by rw [← e']; exact .inr (.inr (.inl ⟨p, s, hp, .inr e⟩)))
 have hb : (w3.setCell ⟨p, 0, none⟩ mm.val).heap[K.b]? = w.heap[K.b]? := (Below.heap_setCell _ _ _ _ (fun e => hpb e.symm)).trans (hch.block K.b h.cor.tab.cel.lt (fun e => hab _ e rfl))
 refine h.rmb (looks := m.looks) (climbs := K.climbs) (pm := fun k => if k = p then mm else K.k.pm k) (R := K.k.R) h.cll (hP.store hp hch hok (hl.few (hP.ok p s hp).2) (fun x hx => ?_) hq hqp) (h.cor.tab.same hb) h.cor.rows (fun p' s' hp' e => ?_) (fun p' s' q hp' e => ?_) ?_ ?_ (fun o _ _ _ => World.cell?_of_block hb) ((World.cell?_of_block hb).trans h.hd.c2) ((World.cell?_of_block hb).trans h.hd.c3)
 · rcases hl.rows x hx with e | e
   · exact hP.rows p s x hp e
   · rw [e]; exact hr
 · by_cases e1 : p' = p
   · subst e1; simp only [if_true]; exact hl.only e
   · simp only [e1, if_false]; exact e
 · by_cases e1 : p' = p
   · subst e1
     simp only [if_true] at e
     exact hq q e
   · simp only [e1, if_false] at e; exact .inl e
 · exact (hch.mono (fun k _ e => .inr ⟨p, s, hp, .inr e⟩)).setCell _ _ (fun _ => .inr ⟨p, s, hp, .inl rfl⟩)
 · obtain ⟨cur, hcur⟩ := h.cor.img
   exact ⟨cur, hb.trans hcur⟩
def Kd.nowhere (K : Kd) (p : Nat) (s : ByteArray) : Kd := { K with k := { K.k with L := (p, s) :: K.k.L, pm := fun k => if k = p then .only else K.k.pm k } }
theorem KIm.nowhere (h : KIm w m K) (s : ByteArray) : Step w (w.alloc (.cells #[Mm.only.val] 198)) m K m (K.nowhere w.heap.size s) := by
 have hbel : Below w.heap.size w (w.alloc (.cells #[Mm.only.val] 198)) := (Below.refl _ w).alloc (Nat.le_refl _) _
 have h' := h.below hbel
 have hcc := h'.cor
 have hP := hcc.pls
 have hold : ∀ q t, (q, t) ∈ K.k.L → q ≠ w.heap.size := fun q t hq e => by
  have := h.cor.lt (.inr (.inr (.inl ⟨q, t, hq, .inl rfl⟩)) : CBlk K.k q)
  omega
 have hpmo : ∀ q t, (q, t) ∈ K.k.L → (if q = w.heap.size then Mm.only else K.k.pm q) = K.k.pm q := fun q t hq => if_neg (hold q t hq)
 have hmem : ∀ q t, (q, t) ∈ (w.heap.size, s) :: K.k.L → (q = w.heap.size ∧ t = s) ∨ (q, t) ∈ K.k.L := fun q t hq => by
  rcases List.mem_cons.1 hq with e | e
  · injection e with e1 e2; exact .inl ⟨e1, e2⟩
  · exact .inr e
 have hpb : ∀ k, PlBlk ((w.heap.size, s) :: K.k.L) (fun k => if k = w.heap.size then .only else K.k.pm k) k → PlBlk K.k.L K.k.pm k ∨ w.heap.size ≤ k := by
  rintro k ⟨q, t, hq, e⟩
  rcases hmem q t hq with ⟨e1, e2⟩ | hq
  · rcases e with e | e
    · exact .inr (by omega)
    · simp only [e1, if_true] at e; cases e
  · simp only [hpmo q t hq] at e
    exact .inl ⟨q, t, hq, e⟩
 have hcor : Cor (w.alloc (.cells #[Mm.only.val] 198)) K.b (K.nowhere w.heap.size s).k (fun _ => False) (SdI m K) (SrI m K) := by
  refine ⟨hcc.img, hcc.b5, hcc.snd, ⟨hP.b6, ?_, fun q t hq => ?_, fun q t hq => ?_, fun q t r hq hr => ?_, fun q t q' t' a hq hq' ha ha' => ?_⟩, fun t q hr => List.mem_cons_of_mem _ (hcc.reg t q hr), fun q t hq => ?_, hcc.tab, hcc.rows, fun k hk => ?_, fun k hk h1 e => ?_⟩
  · show ((w.heap.size, s) :: K.k.L |>.map (·.1)).Nodup
    rw [List.map_cons, List.nodup_cons]
    refine ⟨fun e => ?_, hP.nd⟩
    obtain ⟨⟨q, t⟩, hq, e⟩ := List.mem_map.1 e
    exact hold q t hq e
  · rcases hmem q t hq with ⟨e1, e2⟩ | hq
    · subst e1
      show _ = some (Obj.cells #[(if w.heap.size = w.heap.size then Mm.only else K.k.pm w.heap.size).val] _)
      rw [if_pos rfl]
      exact (MapKept.heap_alloc w _).1
    · show _ = some (Obj.cells #[(if q = w.heap.size then Mm.only else K.k.pm q).val] _)
      rw [hpmo q t hq]
      exact hP.at_ q t hq
  · rcases hmem q t hq with ⟨e1, e2⟩ | hq
    · subst e1
      show (if w.heap.size = w.heap.size then Mm.only else K.k.pm w.heap.size).Ok _ ∧ (if w.heap.size = w.heap.size then Mm.only else K.k.pm w.heap.size).rows.length ≤ _
      rw [if_pos rfl]
      exact ⟨trivial, Nat.zero_le _⟩
    · show (if q = w.heap.size then Mm.only else K.k.pm q).Ok _ ∧ (if q = w.heap.size then Mm.only else K.k.pm q).rows.length ≤ _
      rw [hpmo q t hq]
      exact hP.ok q t hq
  · have hr : r ∈ (if q = w.heap.size then Mm.only else K.k.pm q).rows := hr
    rcases hmem q t hq with ⟨e1, e2⟩ | hq
    · subst e1
      rw [if_pos rfl] at hr
      cases hr
    · rw [hpmo q t hq] at hr
      exact hP.rows q t r hq hr
  · have ha : (if q = w.heap.size then Mm.only else K.k.pm q).arr = some a := ha
    have ha' : (if q' = w.heap.size then Mm.only else K.k.pm q').arr = some a := ha'
    rcases hmem q t hq with ⟨e1, e2⟩ | hq
    · subst e1
      rw [if_pos rfl] at ha
      cases ha
    · rcases hmem q' t' hq' with ⟨e1, e2⟩ | hq'
      · subst e1
        rw [if_pos rfl] at ha'
        cases ha'
      · rw [hpmo q t hq] at ha
        rw [hpmo q' t' hq'] at ha'
        exact hP.arr q t q' t' a hq hq' ha ha'
  · rcases hmem q t hq with ⟨e1, e2⟩ | hq
    · exact .inr (.inl (if_pos e1))
    · rcases hcc.told q t hq with e | e | e
      · exact .inl e
      · exact .inr (.inl (((if_neg (hold q t hq)).trans e)))
      · exact e.elim
  · have hm := hcc.mt k hk
    exact ⟨hm.blk, hm.mat, hm.len, fun i x hx hs => List.mem_cons_of_mem _ (hm.pls i x hx hs)⟩
  · rcases hpb _ e with e | e
    · exact hcc.gfr k hk h1 e
    · have := ((h.cor.mt k hk).mat.cel h1).lt
      have e : w.heap.size ≤ (K.k.md k).g := e
      omega
 have hfoot : ∀ k, Foot m (K.nowhere w.heap.size s) k → Foot m K k ∨ w.heap.size ≤ k := fun k e => by
  rcases e with e | e | e | e | e | e
  · exact .inl (.inl e)
  · exact .inl (.inr (.inl e))
  · exact .inl (.inr (.inr (.inl e)))
  · rcases e with e | e | e | e
    · exact .inl (.inr (.inr (.inr (.inl (.inl e)))))
    · exact .inl (.inr (.inr (.inr (.inl (.inr (.inl e))))))
    · rcases hpb k e with e | e
      · exact .inl (.inr (.inr (.inr (.inl (.inr (.inr (.inl e)))))))
      · exact .inr e
    · exact .inl (.inr (.inr (.inr (.inl (.inr (.inr (.inr e)))))))
  · exact .inl (.inr (.inr (.inr (.inr (.inl e)))))
  · exact .inl (.inr (.inr (.inr (.inr (.inr e)))))
 refine ⟨⟨h.ok, hcor, ⟨h'.hd.c0, h'.hd.c1, h'.hd.c2, h'.hd.c3, h'.hd.c4⟩, h.np6, h.cll, h'.lc, h.lcl, h.lcn, h'.cls, h'.lm, h.mid, h.own, h.isM, ⟨h.ap.mb_sb, h.ap.mb_ib, h.ap.cm_mb, h.ap.cm_sb, h.ap.cm_ib, h.ap.cm_inj⟩, h'.obs, h'.glo, fun k hk hg => ?_⟩, rfl, rfl, Chg.of_below hbel _, hfoot, Nat.le_refl _, fun _ _ => rfl, fun k hk => ⟨hk, rfl⟩⟩
 rcases hfoot k hk with e | e
 · exact h.gl k e hg
 · have := h.glo.lt hg; omega
end Go.Proofs.YtkghmgoefiepeaaGreatDoor.reads
