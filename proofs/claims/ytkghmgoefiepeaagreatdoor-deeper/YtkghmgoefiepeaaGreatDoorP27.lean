import Derived.Test.YtkghmgoefiepeaaGreatDoorP0
import Derived.Test.YtkghmgoefiepeaaGreatDoorP22
import Derived.Test.YtkghmgoefiepeaaGreatDoorP26
set_option linter.unusedSimpArgs false
set_option linter.unusedVariables false
set_option maxHeartbeats 4000000
set_option maxRecDepth 100000
namespace Go.Proofs.YtkghmgoefiepeaaGreatDoor.reads
open Go.ChangeShapes Go.WideShapes Go.ChangeAt Go.RowKit Kn Go.Proofs.YtkghmgoefiepeaaGreatDoor.img
variable {bd : Nat}
theorem moves_cor {w : World} {b : Nat} {K : Kc} {Sd : ByteArray → Rw4 → Prop} {Sr : Rw4 → Prop} (h : Cor w b K (fun _ => False) Sd Sr) (m : Im) (cb cm : Nat → Nat) (c0 : Nat) (hm : ImOk m) (hc0 : c0 < m.kl.length) (hcl : Cls w m cb cm)
 (hQ : ∀ s r, Sd s r → RowQ m cb r) (hR : ∀ r, Sr r → RowQ m cb r) :
 Calls Tryz.prog 66 #[.pointer (some ⟨b, 0, none⟩), .pointer (some ⟨cb c0, 0, none⟩)] w fun e w' => e = .returned (.tuple #[]) ∧ ∃ pm R, Cor w' b { K with pm := pm, R := R } (fun _ => False) (fun s r => Sd s r ∧ leanV m cb c0 r = false) (fun r => (Sr r ∧ leanV m cb c0 r = false) ∨ r = noRow) ∧
  (∀ p q, (pm p).arr = some q → (K.pm p).arr = some q) ∧ Chg w w' (fun k => k = b ∨ PlBlk K.L K.pm k) ∧ SameHd w w' b := by
 obtain ⟨cur, hcur⟩ := h.img
 refine (moves_any m cb cm b c0 K.sb K.n cur K.l K.ps K.R K.L K.pm Sd w hm hc0 hcur h.b5 h.snd h.tab hcl h.pls h.reg hQ (fun i hi => hR _ (h.rows i hi))).mono ?_
 rintro e w' ⟨rfl, pm', hP, hf1, hf2, hT, hch, hd⟩
 have hcase : ∀ p, (∃ s, Reg K.l K.ps s p ∧ pm' p = (K.pm p).forget (leanV m cb c0)) ∨ ((∀ s, ¬ Reg K.l K.ps s p) ∧ pm' p = K.pm p) := fun p => by
  by_cases e : ∃ s, Reg K.l K.ps s p
  · obtain ⟨s, e⟩ := e; exact .inl ⟨s, e, hf1 s p e⟩
  · exact .inr ⟨fun s e' => e ⟨s, e'⟩, hf2 p (fun s e' => e ⟨s, e'⟩)⟩
 have ha : ∀ p q, (pm' p).arr = some q → (K.pm p).arr = some q := fun p q e => by
  rcases hcase p with ⟨s, _, h1⟩ | ⟨_, h1⟩
  · rw [h1] at e
    rcases Mm.forget_arr (leanV m cb c0) (K.pm p) with h1 | h1
    · rw [h1] at e; cases e
    · rw [h1] at e; exact e
  · rw [h1] at e; exact e
 refine ⟨rfl, pm', _, h.forgot (hP.weaken (fun p s r hps hr hsd => ⟨hsd, ?_⟩)) hT (fun i hi => ?_) (fun p s hps e => .inr ?_) ha hch hd, ha, hch, hd⟩
 · rcases hcase p with ⟨s, _, h1⟩ | ⟨h0, h1⟩
   · rw [h1] at hr
     exact (Mm.forget_rows hr).2
   · rw [h1] at hr
     rcases h.told p s hps with e | e | e
     · exact absurd e (h0 s)
     · rw [e] at hr; cases hr
     · exact e.elim
 · by_cases e : i < K.n ∧ leanV m cb c0 (K.R i) = true
   · rw [if_pos e]; exact .inr rfl
   · rw [if_neg e]
     refine .inl ⟨h.rows i hi, ?_⟩
     cases hl : leanV m cb c0 (K.R i) with
     | false => rfl
     | true => exact absurd ⟨hi, hl⟩ e
 · rcases hcase p with ⟨s, _, h1⟩ | ⟨_, h1⟩
   · rw [h1]; exact Mm.forget_only.2 e
   · rw [h1]; exact e
end Go.Proofs.YtkghmgoefiepeaaGreatDoor.reads
namespace Kn
open Go
theorem climb_congr {α : Type} {ab ab' : Nat → Option Nat} {ow ow' : Nat → Option α} {n : Nat} (h1 : ∀ c, c < n → ab' c = ab c) (h2 : ∀ c, c < n → ow' c = ow c) (h3 : ∀ c a, c < n → ab c = some a → a < n) : ∀ (f : Nat) (c : Nat), c < n → climb ab' ow' f (some c) = climb ab ow f (some c)
 | 0, _, _ => rfl
 | f + 1, c, hc => by
  have hu : ∀ (a : Nat → Option Nat) (o : Nat → Option α), climb a o (f + 1) (some c) = match o c with
   | some x => some (c, x)
   | none => climb a o f (a c) := fun _ _ => rfl
  rw [hu ab' ow', hu ab ow, h2 c hc]
  cases ho : ow c with
  | some y => rfl
  | none =>
   simp only
   rw [h1 c hc]
   cases ha : ab c with
   | none => cases f <;> rfl
   | some a => exact climb_congr h1 h2 h3 f a (h3 c a hc ha)
end Kn
namespace Go.Proofs.YtkghmgoefiepeaaGreatDoor.reads
open Go.ChangeShapes Go.WideShapes Go.ChangeAt Go.RowKit Kn Go.Proofs.YtkghmgoefiepeaaGreatDoor.img
variable {m : Im}
theorem up_lt (hm : ImOk m) {c d : Nat} (h : Up m.ab c d) : c < m.kl.length → d < m.kl.length := by
 induction h with
 | refl c => exact id
 | step ha _ ih => exact fun _ => ih (ab_lt hm ha)
def Ans (m : Im) (cb : Nat → Nat) (mid : Nat → ByteArray → Option Nat) (r : Rw4) : Prop :=
 ∃ c, c < m.kl.length ∧ r.fr = some ⟨cb c, 0, none⟩ ∧ r.hm = cptr ((climb m.ab (fun c => mid c r.sel) (m.kl.length + 1) (some c)).map (fun x => cb x.1)) ∧ r.mt = cptr ((climb m.ab (fun c => mid c r.sel) (m.kl.length + 1) (some c)).map (·.2))
theorem Ans.rowC {cb : Nat → Nat} {mid : Nat → ByteArray → Option Nat} {r : Rw4} (hm : ImOk m) (h : Ans m cb mid r) : RowC m cb r := by
 obtain ⟨c, hc, h1, h2, _⟩ := h
 refine ⟨⟨c, hc, h1⟩, (climb m.ab (fun c => mid c r.sel) (m.kl.length + 1) (some c)).map (·.1), fun x hx => ?_, by rw [h2, Option.map_map]; rfl⟩
 obtain ⟨⟨d, k⟩, e1, e2⟩ := Option.map_eq_some_iff.1 hx
 subst e2
 exact up_lt hm (climb_up _ _ _ _ e1).1 hc
variable {m' : Im}
theorem Ans.ow {cb : Nat → Nat} {mid mid' : Nat → ByteArray → Option Nat} {c0 : Nat} {sel : ByteArray} {r : Rw4} (hm : ImOk m) (h : Ans m cb mid r) (hl : leanM m cb c0 sel r = false) (hab : m'.ab = m.ab) (hlen : m'.kl.length = m.kl.length) (hmid : ∀ c s, ¬ (c = c0 ∧ s = sel) → mid' c s = mid c s) : Ans m' cb mid' r := by
 obtain ⟨c, hc, h1, h2, h3⟩ := h
 have key : climb m'.ab (fun c => mid' c r.sel) (m'.kl.length + 1) (some c) = climb m.ab (fun c => mid c r.sel) (m.kl.length + 1) (some c) := by
  rw [hab, hlen]
  by_cases hs : r.sel = sel
  · refine climb_ow (c0 := c0) (fun d hd => hmid d r.sel (fun e => hd e.1)) _ _ (fun F _ hcame => ?_)
    have : cameB m cb c0 r := by
     refine ⟨c, (climb m.ab (fun c => mid c r.sel) (m.kl.length + 1) (some c)).map (·.1), hc, fun x hx => ?_, h1, by rw [h2, Option.map_map]; rfl, hcame.1, fun x hx => ?_⟩
     · obtain ⟨⟨d, k⟩, e1, e2⟩ := Option.map_eq_some_iff.1 hx
       subst e2
       exact up_lt hm (climb_up _ _ _ _ e1).1 hc
     · obtain ⟨⟨d, k⟩, e1, e2⟩ := Option.map_eq_some_iff.1 hx
       subst e2
       exact hcame.2 d k e1
    unfold leanM cameD at hl
    rw [show decide (r.sel = sel) = true from by simp [hs], Bool.true_and, @decide_eq_false_iff_not _ (Classical.propDecidable _)] at hl
    exact hl this
  · exact congrArg (fun o => climb m.ab o (m.kl.length + 1) (some c)) (funext fun d => hmid d r.sel (fun e => hs e.2))
 exact ⟨c, by rw [hlen]; exact hc, h1, by rw [key]; exact h2, by rw [key]; exact h3⟩
theorem Ans.ab {cb : Nat → Nat} {mid : Nat → ByteArray → Option Nat} {c0 : Nat} {r : Rw4} (hm : ImOk m) (h : Ans m cb mid r) (hl : leanV m cb c0 r = false) (hab : ∀ c, c ≠ c0 → m'.ab c = m.ab c) (hlen : m'.kl.length = m.kl.length) (hinj : ∀ c d, c < m.kl.length → d < m.kl.length → cb c = cb d → c = d) (hc0 : c0 < m.kl.length) : Ans m' cb mid r := by
 obtain ⟨c, hc, h1, h2, h3⟩ := h
 have key : climb m'.ab (fun c => mid c r.sel) (m'.kl.length + 1) (some c) = climb m.ab (fun c => mid c r.sel) (m.kl.length + 1) (some c) := by
  rw [hlen]
  refine climb_ab hab _ _ (fun hcame => ?_)
  have hcb : cameB m cb c0 r := by
   refine ⟨c, (climb m.ab (fun c => mid c r.sel) (m.kl.length + 1) (some c)).map (·.1), hc, fun x hx => ?_, h1, by rw [h2, Option.map_map]; rfl, hcame.1.1, fun x hx => ?_⟩
   · obtain ⟨⟨d, k⟩, e1, e2⟩ := Option.map_eq_some_iff.1 hx
     subst e2
     exact up_lt hm (climb_up _ _ _ _ e1).1 hc
   · obtain ⟨⟨d, k⟩, e1, e2⟩ := Option.map_eq_some_iff.1 hx
     subst e2
     exact hcame.1.2 d k e1
  have hne : ¬ r.hm = some ⟨cb c0, 0, none⟩ := fun e => by
   rw [h2] at e
   cases hcl : climb m.ab (fun c => mid c r.sel) (m.kl.length + 1) (some c) with
   | none => rw [hcl] at e; cases e
   | some x =>
    rw [hcl] at e
    injection e with e
    injection e with e _ _
    have hlt := up_lt hm (climb_up _ _ x.1 x.2 hcl).1 hc
    have he := hinj x.1 c0 hlt hc0 e
    exact hcame.2 x.2 (by rw [hcl, ← he])
  unfold leanV cameD at hl
  have ht : @decide (cameB m cb c0 r) (Classical.propDecidable _) = true := @decide_eq_true _ (Classical.propDecidable _) hcb
  rw [ht, Bool.true_and, show decide (r.hm = some ⟨cb c0, 0, none⟩) = false from decide_eq_false hne] at hl
  cases hl
 exact ⟨c, by rw [hlen]; exact hc, h1, by rw [key]; exact h2, by rw [key]; exact h3⟩
theorem Ans.more {cb cb' : Nat → Nat} {mid mid' : Nat → ByteArray → Option Nat} {r : Rw4} (hm : ImOk m) (hm' : ImOk m') (h : Ans m cb mid r) (hab : ∀ c, c < m.kl.length → m'.ab c = m.ab c) (hlen : m.kl.length ≤ m'.kl.length) (hcb : ∀ c, c < m.kl.length → cb' c = cb c) (hmid : ∀ c s, c < m.kl.length → mid' c s = mid c s) : Ans m' cb' mid' r := by
 obtain ⟨c, hc, h1, h2, h3⟩ := h
 obtain ⟨rk, hr1, hr2⟩ := rank_ab hm'
 have key : climb m'.ab (fun c => mid' c r.sel) (m'.kl.length + 1) (some c) = climb m.ab (fun c => mid c r.sel) (m.kl.length + 1) (some c) := by
  obtain ⟨rk0, hr01, hr02⟩ := rank_ab hm
  have e1 : climb m'.ab (fun c => mid' c r.sel) (m'.kl.length + 1) (some c) = climb m.ab (fun c => mid c r.sel) (m'.kl.length + 1) (some c) :=
   climb_congr (n := m.kl.length) hab (fun d hd => hmid d r.sel hd) (fun d a _ ha => ab_lt hm ha) _ c hc
  rw [e1]
  exact climb_fuel hr02 _ _ c (by have := hr01 c; omega) (by have := hr01 c; omega)
 have hcl : (climb m.ab (fun c => mid c r.sel) (m.kl.length + 1) (some c)).map (fun x => cb' x.1) = (climb m.ab (fun c => mid c r.sel) (m.kl.length + 1) (some c)).map (fun x => cb x.1) := by
  cases hx : climb m.ab (fun c => mid c r.sel) (m.kl.length + 1) (some c) with
  | none => rfl
  | some x =>
   have hlt := up_lt hm (climb_up _ _ x.1 x.2 hx).1 hc
   simp [hcb x.1 hlt]
 exact ⟨c, by omega, by rw [hcb c hc]; exact h1, by rw [key, hcl]; exact h2, by rw [key]; exact h3⟩
def Gl (k : Nat) : Prop := k = 0 ∨ k = 2 ∨ k = 1
structure Glo (w : World) : Prop where
 l0 : 0 < w.heap.size
 l1 : 2 < w.heap.size
 l2 : 1 < w.heap.size
 e : HasEff w
 p : HasPlains w
 h : HasHeads w
variable {w : World}
theorem Glo.lt (h : Glo w) {k : Nat} (hk : Gl k) : k < w.heap.size := by
 rcases hk with e | e | e <;> subst e
 · exact h.l0
 · exact h.l1
 · exact h.l2
variable {w' : World}
theorem Glo.same (h : Glo w) (hs : w.heap.size ≤ w'.heap.size) (hk : ∀ k, Gl k → w'.heap[k]? = w.heap[k]?) : Glo w' := by
 have he := hk 0 (.inl rfl)
 have hp := hk 2 (.inr (.inl rfl))
 have hh := hk 1 (.inr (.inr rfl))
 refine ⟨Nat.lt_of_lt_of_le h.l0 hs, Nat.lt_of_lt_of_le h.l1 hs, Nat.lt_of_lt_of_le h.l2 hs, fun a b c d e f hx => ?_, fun i v hv => (World.cell?_of_block (a := ⟨_, i, none⟩) hp).trans (h.p i v hv), fun i v hv => (World.cell?_of_block (a := ⟨_, i, none⟩) hh).trans (h.h i v hv)⟩
 have h1 := h.e a b c d e f hx
 exact ⟨(World.cell?_of_block he).trans h1.c0, (World.cell?_of_block he).trans h1.c1, (World.cell?_of_block he).trans h1.c2, (World.cell?_of_block he).trans h1.c3, (World.cell?_of_block he).trans h1.c4⟩
theorem Glo.chg {S : Nat → Prop} (h : Glo w) (hc : Chg w w' S) (hS : ∀ k, Gl k → ¬ S k) : Glo w' := h.same hc.size (fun k hk => hc.block k (h.lt hk) (hS k hk))
def vcs : List Vl → List Value
 | [] => []
 | v :: r => .bool v.obj :: .int .i64 v.n :: vcs r
def ocs (cb ob : Nat → Nat) : Nat → List Ob → List Value
 | _, [] => []
 | i, o :: r => .pointer (some ⟨cb o.cls, 0, none⟩) :: .slice (some ⟨ob i, 0, none⟩) o.slots.length o.slots.length :: ocs cb ob (i + 1) r
theorem vcs_len (l : List Vl) : (vcs l).length = l.length * 2 := by
 induction l with
 | nil => rfl
 | cons v r ih => simp [vcs, ih]; omega
theorem vcs_get : ∀ (l : List Vl) (i : Nat) (v : Vl), l[i]? = some v → (vcs l)[i * 2]? = some (.bool v.obj) ∧ (vcs l)[i * 2 + 1]? = some (.int .i64 v.n)
 | [], i, v, h => by cases h
 | x :: r, 0, v, h => by
  simp at h
  subst h
  exact ⟨rfl, rfl⟩
 | x :: r, i + 1, v, h => by
  have := vcs_get r i v (by simpa using h)
  rw [show (i + 1) * 2 = i * 2 + 1 + 1 from by omega]
  simpa [vcs] using this
theorem vcs_set : ∀ (l : List Vl) (i : Nat) (v : Vl), i < l.length → vcs (l.set i v) = ((vcs l).set (i * 2) (.bool v.obj)).set (i * 2 + 1) (.int .i64 v.n)
 | [], i, v, h => by simp at h
 | x :: r, 0, v, h => rfl
 | x :: r, i + 1, v, h => by
  have := vcs_set r i v (by simpa using h)
  rw [show (i + 1) * 2 = i * 2 + 1 + 1 from by omega]
  simp [vcs, this]
theorem ocs_get (cb ob : Nat → Nat) : ∀ (l : List Ob) (k i : Nat) (o : Ob), l[i]? = some o → (ocs cb ob k l)[i * 2]? = some (.pointer (some ⟨cb o.cls, 0, none⟩)) ∧ (ocs cb ob k l)[i * 2 + 1]? = some (.slice (some ⟨ob (k + i), 0, none⟩) o.slots.length o.slots.length)
 | [], k, i, o, h => by cases h
 | x :: r, k, 0, o, h => by
  simp at h
  subst h
  exact ⟨rfl, rfl⟩
 | x :: r, k, i + 1, o, h => by
  have := ocs_get cb ob r (k + 1) i o (by simpa using h)
  rw [show (i + 1) * 2 = i * 2 + 1 + 1 from by omega, show k + (i + 1) = k + 1 + i from by omega]
  simpa [ocs] using this
theorem ocs_congr {cb cb' ob ob' : Nat → Nat} : ∀ (l l' : List Ob) (k : Nat), l'.length = l.length → (∀ i o o', l[i]? = some o → l'[i]? = some o' → cb' o'.cls = cb o.cls ∧ ob' (k + i) = ob (k + i) ∧ o'.slots.length = o.slots.length) → ocs cb' ob' k l' = ocs cb ob k l
 | [], [], _, _, _ => rfl
 | [], _ :: _, _, h, _ => by cases h
 | _ :: _, [], _, h, _ => by cases h
 | x :: r, x' :: r', k, h, hx => by
  obtain ⟨h1, h2, h3⟩ := hx 0 x x' rfl rfl
  have := ocs_congr (cb := cb) (cb' := cb') (ob := ob) (ob' := ob') r r' (k + 1) (by simpa using h) (fun i o o' ho ho' => by
   have := hx (i + 1) o o' (by simpa using ho) (by simpa using ho')
   rw [show k + 1 + i = k + (i + 1) from by omega]
   exact this)
  simp only [Nat.add_zero] at h2
  simp [ocs, h1, h2, h3, this]
theorem ocs_snoc (cb ob : Nat → Nat) : ∀ (l : List Ob) (k : Nat) (o : Ob), ocs cb ob k (l ++ [o]) = ocs cb ob k l ++ [.pointer (some ⟨cb o.cls, 0, none⟩), .slice (some ⟨ob (k + l.length), 0, none⟩) o.slots.length o.slots.length]
 | [], k, o => rfl
 | x :: r, k, o => by
  have := ocs_snoc cb ob r (k + 1) o
  simp only [List.cons_append, ocs, this, List.length_cons]
  rw [show k + 1 + r.length = k + (r.length + 1) from by omega]
theorem ocs_set (cb ob : Nat → Nat) : ∀ (l : List Ob) (k i : Nat) (o o' : Ob), l[i]? = some o → o'.slots.length = o.slots.length → ocs cb ob k (l.set i o') = (ocs cb ob k l).set (i * 2) (.pointer (some ⟨cb o'.cls, 0, none⟩))
 | [], _, _, _, _, h, _ => by cases h
 | x :: r, k, 0, o, o', h, hs => by
  simp at h
  subst h
  simp [ocs, hs]
 | x :: r, k, i + 1, o, o', h, hs => by
  have := ocs_set cb ob r (k + 1) i o o' (by simpa using h) hs
  rw [show (i + 1) * 2 = i * 2 + 1 + 1 from by omega]
  simp [ocs, this]
structure ObsAt (w : World) (cb ob : Nat → Nat) (v : Value) (obs : List Ob) : Prop where
 own : w.ownsRow 0 105 2 v obs.length (ocs cb ob 0 obs)
 at_ : ∀ i o, obs[i]? = some o → w.heap[ob i]? = some (.cells (vcs o.slots).toArray 33)
 inj : ∀ i j, i < obs.length → j < obs.length → ob i = ob j → i = j
 nil : obs = [] → v = .slice none 0 0
def OBlk (ob : Nat → Nat) (v : Value) (n : Nat) (k : Nat) : Prop := v.ownBlock = some k ∨ ∃ i, i < n ∧ k = ob i
theorem ObsAt.lt {cb ob : Nat → Nat} {v : Value} {obs : List Ob} (h : ObsAt w cb ob v obs) {k : Nat} (hk : OBlk ob v obs.length k) : k < w.heap.size := by
 rcases hk with e | ⟨i, hi, rfl⟩
 · exact (h.own.lt k e).2
 · exact (Array.getElem?_eq_some_iff.1 (h.at_ i _ (List.getElem?_eq_getElem hi))).1
theorem ObsAt.same {cb ob : Nat → Nat} {v : Value} {obs : List Ob} (h : ObsAt w cb ob v obs) (hk : ∀ k, OBlk ob v obs.length k → w'.heap[k]? = w.heap[k]?) : ObsAt w' cb ob v obs := by
 refine ⟨⟨h.own.1, ?_⟩, fun i o ho => (hk _ (.inr ⟨i, (List.getElem?_eq_some_iff.1 ho).1, rfl⟩)).trans (h.at_ i o ho), h.inj, h.nil⟩
 rcases h.own.2 with e | ⟨g, cap, cur, e, h1, h2, h3⟩
 · exact .inl e
 · exact .inr ⟨g, cap, cur, e, h1, (hk g (.inl (by rw [e]; rfl))).trans h2, h3⟩
theorem ObsAt.kind {cb ob : Nat → Nat} {v : Value} {obs : List Ob} (h : ObsAt w cb ob v obs) {k : Nat} (hk : OBlk ob v obs.length k) : ∃ cs, w.heap[k]? = some (.cells cs 105) ∨ w.heap[k]? = some (.cells cs 33) := by
 rcases hk with e | ⟨i, hi, rfl⟩
 · rcases h.own.2 with ⟨e1, _⟩ | ⟨g, cap, cur, e1, h1, h2, h3⟩
   · rw [e1] at e; cases e
   · rw [e1] at e
     simp [Value.ownBlock] at e
     subst e
     exact ⟨cur, .inl h2⟩
 · exact ⟨_, .inr (h.at_ i _ (List.getElem?_eq_getElem hi))⟩
structure Kd where
 b : Nat
 mb : Nat
 cb : Nat → Nat
 cm : Nat → Nat
 lc : List (ByteArray × Value)
 lm : Nat → List (ByteArray × Value)
 mid : Nat → ByteArray → Option Nat
 climbs : Nat
 k : Kc
 ov : Value
 ob : Nat → Nat
def Kd.np (K : Kd) : Nat := K.k.np
def SdI (m : Im) (K : Kd) (s : ByteArray) (r : Rw4) : Prop := r.sel = s ∧ Ans m K.cb K.mid r
def SrI (m : Im) (K : Kd) (r : Rw4) : Prop := Ans m K.cb K.mid r ∨ r = noRow
def Foot (m : Im) (K : Kd) (k : Nat) : Prop := k = K.b ∨ k = K.mb ∨ (∃ c, c < m.kl.length ∧ (k = K.cb c ∨ k = K.cm c)) ∨ CBlk K.k k ∨ OBlk K.ob K.ov m.obs.length k ∨ ∃ j, K.k.Mk j ∧ 1 ≤ (K.k.md j).ws.length ∧ k = (K.k.md j).g
structure Apart (m : Im) (K : Kd) : Prop where
 mb_sb : K.mb ≠ K.k.sb
 mb_ib : ∀ s, K.k.l.lookup s ≠ some (.map (some K.mb))
 cm_mb : ∀ c, c < m.kl.length → K.cm c ≠ K.mb
 cm_sb : ∀ c, c < m.kl.length → K.cm c ≠ K.k.sb
 cm_ib : ∀ c s, c < m.kl.length → K.k.l.lookup s ≠ some (.map (some (K.cm c)))
 cm_inj : ∀ c d, c < m.kl.length → d < m.kl.length → K.cm c = K.cm d → c = d
structure Heads (w : World) (m : Im) (K : Kd) : Prop where
 c0 : w.cell? ⟨K.b, 0, none⟩ = some (.map (some K.mb))
 c1 : w.cell? ⟨K.b, 1, none⟩ = some K.ov
 c2 : w.cell? ⟨K.b, 2, none⟩ = some (.int .i64 (Go.RowKit.wrap64 (m.looks : Nat)))
 c3 : w.cell? ⟨K.b, 3, none⟩ = some (.int .i64 (Go.RowKit.wrap64 (K.climbs : Nat)))
 c4 : w.cell? ⟨K.b, 4, none⟩ = some (.int .i64 (K.np : Nat))
structure KIm (w : World) (m : Im) (K : Kd) : Prop where
 ok : ImOk m
 cor : Cor w K.b K.k (fun _ => False) (SdI m K) (SrI m K)
 hd : Heads w m K
 np6 : K.np ≤ 6
 cll : K.climbs ≤ m.looks
 lc : SMap w K.mb K.lc
 lcl : ∀ s, K.lc.lookup s = (m.cls s).map (fun c => .pointer (some ⟨K.cb c, 0, none⟩))
 lcn : K.lc.length = m.kl.length
 cls : Cls w m K.cb K.cm
 lm : ∀ c, c < m.kl.length → SMap w (K.cm c) (K.lm c)
 mid : ∀ c s, c < m.kl.length → (K.lm c).lookup s = (K.mid c s).map (fun k => .pointer (some ⟨k, 0, none⟩))
 own : ∀ c s, m.own c s = (K.mid c s).map (fun k => (K.k.md k).ws)
 isM : ∀ c s k, K.mid c s = some k → K.k.Mk k
 ap : Apart m K
 obs : ObsAt w K.cb K.ob K.ov m.obs
 glo : Glo w
 gl : ∀ k, Foot m K k → ¬ Gl k
variable {K : Kd}
theorem KIm.lt (h : KIm w m K) {k : Nat} (hk : Foot m K k) : k < w.heap.size := by
 rcases hk with e | e | ⟨c, hc, e | e⟩ | e | e | ⟨j, hj, h1, e⟩
 · subst e; exact h.cor.tab.cel.lt
 · subst e; exact h.lc.lt
 · subst e; exact (h.cls.cel hc).lt
 · subst e; exact (h.lm c hc).lt
 · exact h.cor.lt e
 · exact h.obs.lt e
 · subst e; exact ((h.cor.mt j hj).mat.cel h1).lt
theorem Heads.same (h : Heads w m K) (e : w'.heap[K.b]? = w.heap[K.b]?) : Heads w' m K :=
 ⟨(World.cell?_of_block e).trans h.c0, (World.cell?_of_block e).trans h.c1, (World.cell?_of_block e).trans h.c2, (World.cell?_of_block e).trans h.c3, (World.cell?_of_block e).trans h.c4⟩
theorem Heads.hd (h : Heads w m K) (e : SameHd w w' K.b) : Heads w' m K :=
 ⟨(e.cell 0 (by omega)).trans h.c0, (e.cell 1 (by omega)).trans h.c1, (e.cell 2 (by omega)).trans h.c2, (e.cell 3 (by omega)).trans h.c3, (e.cell 4 (by omega)).trans h.c4⟩
theorem KIm.same (h : KIm w m K) (hk : ∀ k, Foot m K k → w'.heap[k]? = w.heap[k]?) (hg : Glo w') : KIm w' m K := by
 have hb := hk K.b (.inl rfl)
 exact ⟨h.ok, h.cor.same hb (fun k e => hk k (.inr (.inr (.inr (.inl e))))) (fun k e h1 => hk _ (.inr (.inr (.inr (.inr (.inr ⟨k, e, h1, rfl⟩)))))), h.hd.same hb, h.np6, h.cll, h.lc.same (hk _ (.inr (.inl rfl))), h.lcl, h.lcn,
  h.cls.same (fun c hc => hk _ (.inr (.inr (.inl ⟨c, hc, .inl rfl⟩)))), fun c hc => (h.lm c hc).same (hk _ (.inr (.inr (.inl ⟨c, hc, .inr rfl⟩)))), h.mid, h.own, h.isM, h.ap, h.obs.same (fun k e => hk k (.inr (.inr (.inr (.inr (.inl e)))))), hg, h.gl⟩
theorem KIm.chg {S : Nat → Prop} (h : KIm w m K) (hc : Chg w w' S) (hS : ∀ k, Foot m K k → ¬ S k) (hg : ∀ k, Gl k → ¬ S k) : KIm w' m K := h.same (fun k e => hc.block k (h.lt e) (hS k e)) (h.glo.chg hc hg)
theorem KIm.below (h : KIm w m K) (hb : Below w.heap.size w w') : KIm w' m K := h.chg (Chg.of_below hb (fun _ => False)) (fun _ _ e => e) (fun _ _ e => e)
theorem KIm.drew (h : KIm w m K) : KIm w.drew m K := h.same (fun _ _ => rfl) (h.glo.same (Nat.le_refl _) (fun _ _ => rfl))
structure Step (w w' : World) (m : Im) (K : Kd) (m' : Im) (K' : Kd) : Prop where
 kim : KIm w' m' K'
 b : K'.b = K.b
 np : K'.np = K.np
 chg : Chg w w' (Foot m K)
 foot : ∀ k, Foot m' K' k → Foot m K k ∨ w.heap.size ≤ k
 len : m.kl.length ≤ m'.kl.length
 cb : ∀ c, c < m.kl.length → K'.cb c = K.cb c
 md : ∀ k, K.k.Mk k → K'.k.Mk k ∧ K'.k.md k = K.k.md k
variable {w1 w2 : World}
theorem Step.trans {m m1 m2 : Im} {K K1 K2 : Kd} (h : Step w w1 m K m1 K1) (h' : Step w1 w2 m1 K1 m2 K2) : Step w w2 m K m2 K2 :=
 ⟨h'.kim, h'.b.trans h.b, h'.np.trans h.np, h.chg.then h'.chg (fun k hk e => by rcases h.foot k e with e | e; exact e; omega), fun k e => by
  rcases h'.foot k e with e | e
  · exact h.foot k e
  · have := h.chg.size; exact .inr (by omega), Nat.le_trans h.len h'.len, fun c hc => (h'.cb c (Nat.lt_of_lt_of_le hc h.len)).trans (h.cb c hc), fun k hk => ⟨(h'.md k (h.md k hk).1).1, (h'.md k (h.md k hk).1).2.trans (h.md k hk).2⟩⟩
theorem Step.below (h : KIm w m K) (hb : Below w.heap.size w w') : Step w w' m K m K :=
 ⟨h.below hb, rfl, rfl, Chg.of_below hb _, fun k e => .inl e, Nat.le_refl _, fun _ _ => rfl, fun _ hk => ⟨hk, rfl⟩⟩
theorem Step.refl (h : KIm w m K) : Step w w m K m K := Step.below h (Below.refl _ _)
theorem KIm.look (h : KIm w m K) (s : ByteArray) : (Instr.lookup 55 (.map (some K.mb)) (.string s) false).run Tryz.prog w = .ok (.pointer (cptr ((m.cls s).map K.cb))) w := by
 rw [lookup_cls w K.mb K.lc h.lc, h.lcl s]
 cases m.cls s <;> rfl
theorem cls_lt {s : ByteArray} {c : Nat} (h : m.cls s = some c) : c < m.kl.length := by
 obtain ⟨k, hk, _⟩ := cls_some h
 exact (List.getElem?_eq_some_iff.1 hk).1
theorem KIm.lookM (h : KIm w m K) {c : Nat} (hc : c < m.kl.length) (s : ByteArray) : (Instr.lookup 99 (.map (some (K.cm c))) (.string s) false).run Tryz.prog w = .ok (.pointer (cptr (K.mid c s))) w := by
 rw [lookup_mth w (K.cm c) (K.lm c) (h.lm c hc), h.mid c s hc]
 cases K.mid c s <;> rfl
end Go.Proofs.YtkghmgoefiepeaaGreatDoor.reads
namespace Kn
open Go
structure OneMeth (m m' : Im) (c0 : Nat) (sel : ByteArray) (x : Option (List (W × Nat))) : Prop where
 len : m'.kl.length = m.kl.length
 kl : ∀ (c : Nat) (k : Kl), m.kl[c]? = some k → ∃ k' : Kl, m'.kl[c]? = some k' ∧ k'.name = k.name ∧ k'.above = k.above ∧ k'.tot = k.tot
 own : ∀ c s, m'.own c s = if c = c0 ∧ s = sel then x else m.own c s
 looks : m'.looks = m.looks
 obs : m'.obs = m.obs
variable {m m' : Im}
theorem OneMeth.ab {c0 : Nat} {sel : ByteArray} {x : Option (List (W × Nat))} (h : OneMeth m m' c0 sel x) : m'.ab = m.ab := by
 funext c
 unfold Im.ab
 cases hk : m.kl[c]? with
 | none =>
  have h1 : m.kl.length ≤ c := List.getElem?_eq_none_iff.1 hk
  have : m'.kl[c]? = none := List.getElem?_eq_none_iff.2 (by rw [h.len]; exact h1)
  rw [this]
 | some k =>
  obtain ⟨k', h1, _, h2, _⟩ := h.kl c k hk
  rw [h1]
  exact h2
theorem findIdx_names {α : Type} (f : α → ByteArray) (s : ByteArray) : ∀ (l l' : List α), l'.length = l.length → (∀ (c : Nat) (k : α), l[c]? = some k → ∃ k' : α, l'[c]? = some k' ∧ f k' = f k) → l'.findIdx? (fun k => f k == s) = l.findIdx? (fun k => f k == s)
 | [], [], _, _ => rfl
 | [], _ :: _, h, _ => by cases h
 | _ :: _, [], h, _ => by cases h
 | x :: r, x' :: r', h, hx => by
  obtain ⟨k', e1, e2⟩ := hx 0 x rfl
  simp at e1
  subst e1
  have := findIdx_names f s r r' (by simpa using h) (fun c k hk => by simpa using hx (c + 1) k (by simpa using hk))
  simp only [List.findIdx?_cons, e2, this]
theorem OneMeth.cls {c0 : Nat} {sel : ByteArray} {x : Option (List (W × Nat))} (h : OneMeth m m' c0 sel x) (s : ByteArray) : m'.cls s = m.cls s :=
 findIdx_names Kl.name s _ _ h.len (fun c k hk => by obtain ⟨k', h1, h2, _⟩ := h.kl c k hk; exact ⟨k', h1, h2⟩)
theorem own_set {c0 : Nat} (hc : c0 < m.kl.length) (f : Kl → Kl) (c : Nat) (s : ByteArray) : (m.setKl c0 f).own c s = if c = c0 then (m.kl[c0]?.bind (fun k => (f k).own s)) else m.own c s := by
 unfold Im.own
 rw [setKl_get]
 by_cases e : c = c0
 · subst e; simp [Option.bind_map, Function.comp_def]
 · have e' : ¬ c0 = c := fun h => e h.symm
   simp [e, e']
theorem put_own (k : Kl) (x : Mt) (s : ByteArray) : (k.put x).own s = if s = x.sel then some x.ws else k.own s := by
 unfold Kl.put Kl.own
 simp only
 rw [List.find?_append]
 by_cases e : s = x.sel
 · subst e
   have : (k.ms.filter (fun y => !(y.sel == x.sel))).find? (fun y => y.sel == x.sel) = none := by
    rw [List.find?_eq_none]
    intro y hy
    simp only [List.mem_filter] at hy
    simpa using hy.2
   rw [this]
   simp [beq_ba_self]
 · rw [if_neg e]
   have h1 : ([x] : List Mt).find? (fun y => y.sel == s) = none := by
    simp [List.find?_cons, (beq_ba_false x.sel s).2 (fun h => e h.symm)]
   rw [h1, Option.or_none]
   congr 1
   rw [List.find?_filter]
   congr 1
   funext y
   cases hy : (y.sel == s) with
   | false => simp
   | true =>
    have : y.sel = s := (beq_ba y.sel s).1 hy
    rw [this, (beq_ba_false s x.sel).2 e]
    rfl
theorem drop_own (k : Kl) (sel s : ByteArray) : (k.drop sel).own s = if s = sel then none else k.own s := by
 unfold Kl.drop Kl.own
 simp only
 rw [List.find?_filter]
 by_cases e : s = sel
 · subst e
   rw [if_pos rfl]
   have : k.ms.find? (fun y => decide (!(y.sel == s)) && (y.sel == s)) = none := by
    rw [List.find?_eq_none]
    intro y _
    cases hy : (y.sel == s) <;> simp
   simp only [Option.map_eq_none_iff]
   rw [List.find?_eq_none]
   intro y _
   cases hy : (y.sel == s) <;> simp
 · rw [if_neg e]
   congr 1
   congr 1
   funext y
   cases hy : (y.sel == s) with
   | false => simp
   | true =>
    have : y.sel = s := (beq_ba y.sel s).1 hy
    rw [this, (beq_ba_false s sel).2 e]
    rfl
theorem oneMeth_put {c0 : Nat} (hc : c0 < m.kl.length) (x : Mt) : OneMeth m (m.setKl c0 (·.put x)) c0 x.sel (some x.ws) := by
 refine ⟨setKl_len _ _ _, fun c k hk => ?_, fun c s => ?_, rfl, rfl⟩
 · rw [setKl_get]
   by_cases e : c0 = c
   · rw [if_pos e, hk]; exact ⟨_, rfl, rfl, rfl, rfl⟩
   · rw [if_neg e]; exact ⟨k, hk, rfl, rfl, rfl⟩
 · rw [own_set hc]
   by_cases e : c = c0
   · subst e
     rw [if_pos rfl]
     unfold Im.own
     rw [List.getElem?_eq_getElem hc]
     simp only [Option.bind_some, put_own, true_and]
   · rw [if_neg e, if_neg (fun h => e h.1)]
theorem oneMeth_drop {c0 : Nat} (hc : c0 < m.kl.length) (sel : ByteArray) : OneMeth m (m.setKl c0 (·.drop sel)) c0 sel none := by
 refine ⟨setKl_len _ _ _, fun c k hk => ?_, fun c s => ?_, rfl, rfl⟩
 · rw [setKl_get]
   by_cases e : c0 = c
   · rw [if_pos e, hk]; exact ⟨_, rfl, rfl, rfl, rfl⟩
   · rw [if_neg e]; exact ⟨k, hk, rfl, rfl, rfl⟩
 · rw [own_set hc]
   by_cases e : c = c0
   · subst e
     rw [if_pos rfl]
     unfold Im.own
     rw [List.getElem?_eq_getElem hc]
     simp only [Option.bind_some, drop_own, true_and]
   · rw [if_neg e, if_neg (fun h => e h.1)]
end Kn
namespace Go.Proofs.YtkghmgoefiepeaaGreatDoor.reads
open Go.ChangeShapes Go.WideShapes Go.ChangeAt Go.RowKit Kn Go.Proofs.YtkghmgoefiepeaaGreatDoor.img
variable {w : World}
variable {m : Im}
variable {K : Kd}
theorem KIm.rowQ (h : KIm w m K) : (∀ s r, SdI m K s r → RowQ m K.cb r ∧ r.sel = s) ∧ ∀ r, SrI m K r → RowQ m K.cb r :=
 ⟨fun s r hr => ⟨.inl (hr.2.rowC h.ok), hr.1⟩, fun r hr => by rcases hr with hr | hr; exact .inl (hr.rowC h.ok); exact .inr hr⟩
def Kd.meth (K : Kd) (c0 : Nat) (sel : ByteArray) (x : Option Nat) (lm' : List (ByteArray × Value)) (kc : Kc) : Kd :=
 { K with lm := fun c => if c = c0 then lm' else K.lm c, mid := fun c s => if c = c0 ∧ s = sel then x else K.mid c s, k := kc }
structure Grew (N : Nat) (K kc : Kc) : Prop where
 np : kc.np = K.np
 sb : kc.sb = K.sb
 n : kc.n = K.n
 l : ∀ s ib, kc.l.lookup s = some (.map (some ib)) → K.l.lookup s = some (.map (some ib)) ∨ N ≤ ib
 blk : ∀ k, CBlk kc k → CBlk K k ∨ N ≤ k
 g : ∀ j, kc.Mk j → 1 ≤ (kc.md j).ws.length → (K.Mk j ∧ kc.md j = K.md j) ∨ N ≤ (kc.md j).g
 md : ∀ k, K.Mk k → kc.Mk k ∧ kc.md k = K.md k
theorem Grew.of_kept {N : Nat} {K : Kc} {l : List (ByteArray × Value)} {ps : Nat → List Nat} {pm : Nat → Mm} {R : Nat → Rw4} (h : Kept N K l pm) : Grew N K { K with l := l, ps := ps, pm := pm, R := R } :=
 ⟨rfl, rfl, rfl, h.l, fun k hk => CBlk.old (K := K) (ps := ps) (R := R) hk h.l h.arr, fun j hj _ => .inl ⟨hj, rfl⟩, fun k hk => ⟨hk, rfl⟩⟩
variable {w' : World}
variable {m' : Im}
theorem KIm.remeth (h : KIm w m K) {c0 : Nat} {sel : ByteArray} {x : Option Nat} {lm' : List (ByteArray × Value)} {kc : Kc} (hc0 : c0 < m.kl.length) (hm' : ImOk m') (ho : OneMeth m m' c0 sel (x.map (fun k => (kc.md k).ws)))
 (hcor : Cor w' K.b kc (fun _ => False) (fun s r => SdI m K s r ∧ leanM m K.cb c0 sel r = false) (fun r => (SrI m K r ∧ leanM m K.cb c0 sel r = false) ∨ r = noRow)) (hgr : Grew w.heap.size K.k kc) (hx : ∀ k, x = some k → kc.Mk k)
 (hlm : SMap w' (K.cm c0) lm') (hlk : ∀ s, lm'.lookup s = if s = sel then x.map (fun k => .pointer (some ⟨k, 0, none⟩)) else (K.lm c0).lookup s) (hch : Chg w w' (fun j => j = K.b ∨ j = K.cm c0 ∨ CBlk K.k j)) (hd : SameHd w w' K.b) :
 Step w w' m K m' (K.meth c0 sel x lm' kc) := by
 have hmid : ∀ c s, ¬ (c = c0 ∧ s = sel) → (if c = c0 ∧ s = sel then x else K.mid c s) = K.mid c s := fun c s e => if_neg e
 have hAns : ∀ r, Ans m K.cb K.mid r → leanM m K.cb c0 sel r = false → Ans m' K.cb (K.meth c0 sel x lm' kc).mid r := fun r hr hl => hr.ow h.ok hl ho.ab ho.len hmid
 have hcb : ∀ c, c < m.kl.length → ¬ (K.cb c = K.b ∨ K.cb c = K.cm c0 ∨ CBlk K.k (K.cb c)) := fun c hc e => by
  rcases e with e | e | e
  · exact (h.cor.clsn h.cls hc).2 e
  · exact cel_ne_map (h.cls.cel hc) (h.lm c0 hc0) e
  · exact (h.cor.clsn h.cls hc).1 e
 have hcm : ∀ c, c < m.kl.length → c ≠ c0 → ¬ (K.cm c = K.b ∨ K.cm c = K.cm c0 ∨ CBlk K.k (K.cm c)) := fun c hc hne e => by
  obtain ⟨es, ck, hx, _⟩ := id (h.lm c hc)
  have hn := h.cor.mapn hx (h.ap.cm_sb c hc) (fun s => h.ap.cm_ib c s hc)
  rcases e with e | e | e
  · exact hn.2 e
  · exact hne (h.ap.cm_inj c c0 hc hc0 e)
  · exact hn.1 e
 have hmb : ¬ (K.mb = K.b ∨ K.mb = K.cm c0 ∨ CBlk K.k K.mb) := fun e => by
  obtain ⟨es, ck, hx, _⟩ := id h.lc
  have hn := h.cor.mapn hx h.ap.mb_sb h.ap.mb_ib
  rcases e with e | e | e
  · exact hn.2 e
  · exact h.ap.cm_mb c0 hc0 e.symm
  · exact hn.1 e
 have hob : ∀ k, OBlk K.ob K.ov m.obs.length k → ¬ (k = K.b ∨ k = K.cm c0 ∨ CBlk K.k k) := fun k hk e => by
  obtain ⟨cs, hcs⟩ := h.obs.kind hk
  have hcel : Cel w k := by rcases hcs with e | e <;> exact ⟨_, _, e⟩
  rcases e with e | e | e
  · obtain ⟨cur, hcur⟩ := h.cor.img
    rw [← e] at hcur
    rcases hcs with hc | hc
    · rw [hcur] at hc; injection hc with hc; injection hc with _ hc _; revert hc; decide
    · rw [hcur] at hc; injection hc with hc; injection hc with _ hc _; revert hc; decide
  · exact cel_ne_map hcel (h.lm c0 hc0) e
  · rcases hcs with hc | hc
    · exact h.cor.other hc (by decide) (by decide) (by decide) e
    · exact h.cor.other hc (by decide) (by decide) (by decide) e
 have hfoot : ∀ k, Foot m' (K.meth c0 sel x lm' kc) k → Foot m K k ∨ w.heap.size ≤ k := fun k e => by
  rcases e with e | e | ⟨c, hc, e⟩ | e | e | ⟨j, hj, h1, e⟩
  · exact .inl (.inl e)
  · exact .inl (.inr (.inl e))
  · exact .inl (.inr (.inr (.inl ⟨c, by rw [← ho.len]; exact hc, e⟩)))
  · rcases hgr.blk k e with e | e
    · exact .inl (.inr (.inr (.inr (.inl e))))
    · exact .inr e
  · rw [ho.obs] at e
    exact .inl (.inr (.inr (.inr (.inr (.inl e)))))
  · rcases hgr.g j hj h1 with ⟨h2, h3⟩ | h2
    · have h1' : 1 ≤ (K.k.md j).ws.length := by rw [← h3]; exact h1
      have e' : k = (K.k.md j).g := by rw [← h3]; exact e
      exact .inl (.inr (.inr (.inr (.inr (.inr ⟨j, h2, h1', e'⟩)))))
    · exact .inr (by rw [e]; exact h2)
 have hchF : Chg w w' (Foot m K) := hch.mono (fun k _ e => by
  rcases e with e | e | e
  · exact .inl e
  · exact .inr (.inr (.inl ⟨c0, hc0, .inr e⟩))
  · exact .inr (.inr (.inr (.inl e))))
 have hglo : Glo w' := h.glo.chg hchF (fun k hg e => h.gl k e hg)
 have hnp : (K.meth c0 sel x lm' kc).np = K.np := hgr.np
 refine ⟨⟨hm', hcor.weaken (fun s r hr => ⟨hr.1.1, hAns r hr.1.2 hr.2⟩) (fun r hr => ?_), ?_, hnp ▸ h.np6, ?_, h.lc.same (hch.block _ h.lc.lt hmb), fun s => ?_, ?_, ?_, fun c hc => ?_, fun c s hc => ?_, fun c s => ?_, fun c s k hk => ?_, ?_, ?_, hglo, fun k hk hg => ?_⟩, rfl, hnp, hchF, hfoot, by rw [ho.len]; exact Nat.le_refl _, fun _ _ => rfl, hgr.md⟩
 · rcases hr with ⟨hr | hr, hl⟩ | hr
   · exact .inl (hAns r hr hl)
   · exact .inr hr
   · exact .inr hr
 · have := h.hd.hd hd
   exact ⟨this.c0, this.c1, by rw [ho.looks]; exact this.c2, this.c3, by rw [hnp]; exact this.c4⟩
 · rw [ho.looks]; exact h.cll
 · rw [ho.cls s]; exact h.lcl s
 · rw [ho.len]; exact h.lcn
 · refine ⟨fun c k hk => ?_, fun c d hc hd => h.cls.inj c d (by rw [← ho.len]; exact hc) (by rw [← ho.len]; exact hd)⟩
   have hc : c < m.kl.length := by rw [← ho.len]; exact (List.getElem?_eq_some_iff.1 hk).1
   obtain ⟨k', h1, h2, h3, h4⟩ := ho.kl c _ (List.getElem?_eq_getElem hc)
   rw [hk] at h1
   injection h1 with h1
   subst h1
   rw [h2, h3, h4]
   exact (hch.block _ (h.cls.cel hc).lt (hcb c hc)).trans (h.cls.at_ c _ (List.getElem?_eq_getElem hc))
 · have hc' : c < m.kl.length := by rw [← ho.len]; exact hc
   by_cases e : c = c0
   · subst e
     show SMap w' (K.cm c) (if c = c then lm' else K.lm c)
     rw [if_pos rfl]; exact hlm
   · show SMap w' (K.cm c) (if c = c0 then lm' else K.lm c)
     rw [if_neg e]
     exact (h.lm c hc').same (hch.block _ (h.lm c hc').lt (hcm c hc' e))
 · have hc' : c < m.kl.length := by rw [← ho.len]; exact hc
   show (if c = c0 then lm' else K.lm c).lookup s = (if c = c0 ∧ s = sel then x else K.mid c s).map _
   by_cases e : c = c0
   · subst e
     rw [if_pos rfl, hlk s]
     by_cases e2 : s = sel
     · rw [if_pos e2, if_pos ⟨rfl, e2⟩]
     · rw [if_neg e2, if_neg (fun h => e2 h.2)]; exact h.mid c s hc'
   · rw [if_neg e, if_neg (fun h => e h.1)]; exact h.mid c s hc'
 · show m'.own c s = (if c = c0 ∧ s = sel then x else K.mid c s).map (fun k => (kc.md k).ws)
   rw [ho.own c s]
   by_cases e : c = c0 ∧ s = sel
   · rw [if_pos e, if_pos e]
   · rw [if_neg e, if_neg e, h.own c s]
     cases hk : K.mid c s with
     | none => rfl
     | some k => simp only [Option.map_some]; rw [(hgr.md k (h.isM c s k hk)).2]
 · have hk' : (if c = c0 ∧ s = sel then x else K.mid c s) = some k := hk
   by_cases e : c = c0 ∧ s = sel
   · rw [if_pos e] at hk'; exact hx k hk'
   · rw [if_neg e] at hk'; exact (hgr.md k (h.isM c s k hk')).1
 · have hnew : ∀ k s, k < w.heap.size → K.k.l.lookup s ≠ some (.map (some k)) → kc.l.lookup s ≠ some (.map (some k)) := fun k s hk hn e => by
    rcases hgr.l s k e with e | e
    · exact hn e
    · omega
   refine ⟨?_, fun s => hnew _ s h.lc.lt (h.ap.mb_ib s), fun c hc => h.ap.cm_mb c (by rw [← ho.len]; exact hc), fun c hc => ?_, fun c s hc => ?_, fun c d hc hd => h.ap.cm_inj c d (by rw [← ho.len]; exact hc) (by rw [← ho.len]; exact hd)⟩
   · show K.mb ≠ kc.sb
     rw [hgr.sb]; exact h.ap.mb_sb
   · show K.cm c ≠ kc.sb
     rw [hgr.sb]; exact h.ap.cm_sb c (by rw [← ho.len]; exact hc)
   · have hc' : c < m.kl.length := by rw [← ho.len]; exact hc
     exact hnew _ s (h.lm c hc').lt (h.ap.cm_ib c s hc')
 · rw [ho.obs]
   exact h.obs.same (fun k hk => hch.block k (h.obs.lt hk) (hob k hk))
 · rcases hfoot k hk with e | e
   · exact h.gl k e hg
   · have := h.glo.lt hg; omega
end Go.Proofs.YtkghmgoefiepeaaGreatDoor.reads
