import Derived.Test.YtkghmgoefiepeaaGreatDoorP0
import Derived.Test.YtkghmgoefiepeaaGreatDoorP30
set_option linter.unusedSimpArgs false
set_option linter.unusedVariables false
set_option maxHeartbeats 4000000
set_option maxRecDepth 100000
namespace Kn
open Go
def Vl.val (v : Vl) : Value := .agg #[.bool v.obj, .int .i64 v.n]
end Kn
namespace Go.Proofs.YtkghmgoefiepeaaGreatDoor.reads
open Go.ChangeShapes Go.WideShapes Go.ChangeAt Go.RowKit Kn Go.Proofs.YtkghmgoefiepeaaGreatDoor.img
structure ObF (w : World) (cb ob : Nat → Nat) (p : Option Addr) (obs : List Ob) (i : Nat) (o : Ob) (g : Nat) : Prop where
 p : p = some ⟨g, 0, none⟩
 c0 : w.cell? ⟨g, i * 2, none⟩ = some (.pointer (some ⟨cb o.cls, 0, none⟩))
 c1 : w.cell? ⟨g, i * 2 + 1, none⟩ = some (.slice (some ⟨ob i, 0, none⟩) o.slots.length o.slots.length)
 fz : ∀ k, w.frozen? ⟨g, k, none⟩ = false
 typ : ∃ cs, w.heap[g]? = some (.cells cs 105)
variable {w : World}
theorem ObsAt.form {cb ob : Nat → Nat} {v : Value} {obs : List Ob} (h : ObsAt w cb ob v obs) : ∃ p cap, v = .slice p obs.length cap ∧ ∀ i o, obs[i]? = some o → ∃ g, v.ownBlock = some g ∧ ObF w cb ob p obs i o g := by
 have hown := h.own
 rcases h.own.2 with ⟨e, hn⟩ | ⟨g, cap, cur, e, h1, h2, h3⟩
 · refine ⟨none, 0, by rw [e, hn], fun i o ho => ?_⟩
   have := (List.getElem?_eq_some_iff.1 ho).1
   omega
 · refine ⟨some ⟨g, 0, none⟩, cap, e, fun i o ho => ⟨g, by rw [e]; rfl, rfl, ?_, ?_, fun k => Cel.free ⟨_, _, h2⟩ k, ⟨cur, h2⟩⟩⟩
   · have hi := (List.getElem?_eq_some_iff.1 ho).1
     rw [e] at hown
     rw [hown.cellAt (i * 2) (by omega)]
     exact (ocs_get cb ob obs 0 i o ho).1
   · have hi := (List.getElem?_eq_some_iff.1 ho).1
     rw [e] at hown
     rw [hown.cellAt (i * 2 + 1) (by omega)]
     have := (ocs_get cb ob obs 0 i o ho).2
     rw [Nat.zero_add] at this
     exact this
variable {m : Im}
theorem there_get {o : Int} (h : m.there o = true) : ∃ i x, o = ((i : Nat) : Int) ∧ m.obs[i]? = some x ∧ o.toNat = i ∧ i < m.obs.length := by
 obtain ⟨h0, h1⟩ := Im.there_iff.1 h
 have hi : o.toNat < m.obs.length := by omega
 exact ⟨o.toNat, _, by omega, List.getElem?_eq_getElem hi, rfl, hi⟩
theorem has_any {b : Nat} {p : Option Addr} {n cap : Nat} (hn : n ≤ 40) (h1 : w.cell? ⟨b, 1, none⟩ = some (.slice p n cap)) (o : Int) :
 Calls Tryz.prog 52 #[.pointer (some ⟨b, 0, none⟩), .int .i64 o] w fun e w' => e = .returned (.bool (decide (0 ≤ o) && decide (o < (n : Int)))) ∧ w' = w := by
 by_cases h0 : 0 ≤ o
 · by_cases hl : o < (n : Int)
   · rw [show (decide (0 ≤ o) && decide (o < (n : Int))) = true from by simp [h0, hl]]
     go_enter Tryz.func52, Tryz.ntmps52
     go_wp2
     go_ret
     exact ⟨by first | rfl | simp, rfl⟩
   · rw [show (decide (0 ≤ o) && decide (o < (n : Int))) = false from by simp [hl]]
     go_enter Tryz.func52, Tryz.ntmps52
     go_wp2
     go_ret
     exact ⟨by first | rfl | simp, rfl⟩
 · rw [show (decide (0 ≤ o) && decide (o < (n : Int))) = false from by simp [h0]]
   go_enter Tryz.func52, Tryz.ntmps52
   go_wp2
   go_ret
   exact ⟨by first | rfl | simp, rfl⟩
theorem made_eq (h : ImOk m) (s : ByteArray) : m.made s = if s = ⟨#[73, 110, 116]⟩ then none else m.cls s := by
 unfold Im.made
 by_cases e : s = ⟨#[73, 110, 116]⟩
 · rw [if_pos e]
   cases hc : m.cls s with
   | none => rfl
   | some c =>
    have := (cls_two h hc).2.2 e
    subst this
    rfl
 · rw [if_neg e]
   cases hc : m.cls s with
   | none => rfl
   | some c =>
    have : c ≠ 1 := fun e1 => e ((cls_two h hc).2.1 e1)
    match c, this with
    | 0, _ => rfl
    | 1, h => exact absurd rfl h
    | c + 2, _ => rfl
variable {K : Kd}
theorem madeOf_any (h : KIm w m K) (s : ByteArray) :
 Calls Tryz.prog 39 #[.pointer (some ⟨K.b, 0, none⟩), .string s] w fun e w' => e = .returned (.pointer (cptr ((m.made s).map K.cb))) ∧ w' = w := by
 have lk := h.look s
 have c0 := h.hd.c0
 have hmd := made_eq h.ok s
 by_cases e : s = ⟨#[73, 110, 116]⟩
 · rw [if_pos e] at hmd
   rw [hmd]
   subst e
   clear h hmd
   go_enter Tryz.func39, Tryz.ntmps39
   go_wp2
   go_ret
   exact ⟨rfl, rfl⟩
 · have n1 : (s.toList == [73, 110, 116]) = false := beq_eq_false_iff_ne.2 (not_lit e)
   rw [if_neg e] at hmd
   rw [hmd]
   clear h hmd
   go_enter Tryz.func39, Tryz.ntmps39
   go_wp2
   go_ret
   exact ⟨rfl, rfl⟩
theorem results_val {fn : Func} {p k : Tmp} (h : fn.results = #[.cell p 33, .tmp k]) {tmps : Array Value} {z : Nat} (v0 v1 v : Value) (hp : tmps.getD p undef = .pointer (some ⟨z, 0, none⟩)) (hk : tmps.getD k undef = v) (z0 : w.cell? ⟨z, 0, none⟩ = some v0) (z1 : w.cell? ⟨z, 1, none⟩ = some v1) :
 (results fn tmps).run Tryz.prog w = .ok (.tuple #[.agg #[v0, v1], v]) w := by
 have hp2 : tmps[p]?.getD undef = .pointer (some ⟨z, 0, none⟩) := by rw [← hp]; simp
 have hk2 : tmps[k]?.getD undef = v := by rw [← hk]; simp
 simp [results, h, hp2, hk2, go_sem, z0, z1]
theorem ObsAt.val {cb ob : Nat → Nat} {v : Value} {obs : List Ob} (h : ObsAt w cb ob v obs) {i : Nat} {o : Ob} (ho : obs[i]? = some o) {j : Nat} {x : Vl} (hx : o.slots[j]? = some x) : w.cell? ⟨ob i, j * 2, none⟩ = some (.bool x.obj) ∧ w.cell? ⟨ob i, j * 2 + 1, none⟩ = some (.int .i64 x.n) := by
 have hb := h.at_ i o ho
 have := vcs_get o.slots j x hx
 simp only [World.cell?, hb]
 simpa using this
variable {w' : World}
theorem KIm.reobs (h : KIm w m K) {obs : List Ob} {ov : Value} {ob : Nat → Nat} (hm' : ImOk { m with obs := obs }) (ho : ObsAt w' K.cb ob ov obs) (hob : ∀ k, OBlk ob ov obs.length k → OBlk K.ob K.ov m.obs.length k ∨ w.heap.size ≤ k)
 (hch : Chg w w' (fun k => k = K.b ∨ OBlk K.ob K.ov m.obs.length k)) (htyp : ∃ cur, w'.heap[K.b]? = some (.cells cur 70)) (hcell : ∀ o, o ≠ 1 → w'.cell? ⟨K.b, o, none⟩ = w.cell? ⟨K.b, o, none⟩) (hc1 : w'.cell? ⟨K.b, 1, none⟩ = some ov) :
 Step w w' m K { m with obs := obs } { K with ov := ov, ob := ob } := by
 have hon : ∀ k, OBlk K.ob K.ov m.obs.length k → Cel w k ∧ (∀ cs t fz, w.heap[k]? = some (.cells cs t fz) → t = 105 ∨ t = 33) := fun k hk => by
  obtain ⟨cs, hcs⟩ := h.obs.kind hk
  rcases hcs with e | e
  · exact ⟨⟨_, _, e⟩, fun cs' t fz e' => by rw [e] at e'; injection e' with e'; injection e' with _ e' _; exact .inl e'.symm⟩
  · exact ⟨⟨_, _, e⟩, fun cs' t fz e' => by rw [e] at e'; injection e' with e'; injection e' with _ e' _; exact .inr e'.symm⟩
 have hty : ∀ k cs t fz, w.heap[k]? = some (.cells cs t fz) → t ≠ 105 → t ≠ 33 → ¬ OBlk K.ob K.ov m.obs.length k := fun k cs t fz hk h1 h2 e => by
  rcases (hon k e).2 cs t fz hk with e | e
  · exact h1 e
  · exact h2 e
 have hmp : ∀ k l, SMap w k l → ¬ (k = K.b ∨ OBlk K.ob K.ov m.obs.length k) := fun k l hs e => by
  rcases e with e | e
  · exact cel_ne_map h.cor.tab.cel hs e.symm
  · exact cel_ne_map (hon k e).1 hs rfl
 have hcl : ∀ c, c < m.kl.length → ¬ (K.cb c = K.b ∨ OBlk K.ob K.ov m.obs.length (K.cb c)) := fun c hc e => by
  rcases e with e | e
  · exact (h.cor.clsn h.cls hc).2 e
  · exact hty _ _ _ _ (h.cls.at_ c _ (List.getElem?_eq_getElem hc)) (by decide) (by decide) e
 have hcb : ∀ k, CBlk K.k k → ¬ (k = K.b ∨ OBlk K.ob K.ov m.obs.length k) := fun k hk e => by
  rcases e with e | e
  · exact h.cor.bn (by rw [← e]; exact hk)
  · obtain ⟨cs, hcs⟩ := h.obs.kind e
    rcases hcs with hc | hc
    · exact h.cor.other hc (by decide) (by decide) (by decide) hk
    · exact h.cor.other hc (by decide) (by decide) (by decide) hk
 have hg : ∀ j, K.k.Mk j → 1 ≤ (K.k.md j).ws.length → ¬ ((K.k.md j).g = K.b ∨ OBlk K.ob K.ov m.obs.length (K.k.md j).g) := fun j hj h1 e => by
  rcases e with e | e
  · exact (h.cor.gn hj h1).2 e
  · obtain ⟨x, hx⟩ : ∃ x, (K.k.md j).ws[0]? = some x := ⟨_, List.getElem?_eq_getElem (by omega)⟩
    have c0 := (h.cor.mt j hj).mat.c0 0 x hx
    rw [Nat.zero_mul] at c0
    rcases e with e | ⟨i, hi, e⟩
    · obtain ⟨p, cap, hv, hf⟩ := h.obs.form
      by_cases hn : 0 < m.obs.length
      · obtain ⟨g', hg', hF⟩ := hf 0 _ (List.getElem?_eq_getElem hn)
        rw [hg'] at e
        injection e with e
        have := hF.c0
        rw [e, Nat.zero_mul, c0] at this
        cases this
      · have hnil := h.obs.nil (List.eq_nil_of_length_eq_zero (by omega))
        rw [hnil] at e
        cases e
    · have hb := h.obs.at_ i _ (List.getElem?_eq_getElem hi)
      rw [e] at c0
      simp only [World.cell?, hb] at c0
      cases hsl : (m.obs[i]).slots with
      | nil => rw [hsl] at c0; simp [vcs] at c0
      | cons a l => rw [hsl] at c0; simp [vcs] at c0
 have hfoot : ∀ k, Foot { m with obs := obs } { K with ov := ov, ob := ob } k → Foot m K k ∨ w.heap.size ≤ k := fun k e => by
  rcases e with e | e | e | e | e | e
  · exact .inl (.inl e)
  · exact .inl (.inr (.inl e))
  · exact .inl (.inr (.inr (.inl e)))
  · exact .inl (.inr (.inr (.inr (.inl e))))
  · rcases hob k e with e | e
    · exact .inl (.inr (.inr (.inr (.inr (.inl e)))))
    · exact .inr e
  · exact .inl (.inr (.inr (.inr (.inr (.inr e)))))
 have hchF : Chg w w' (Foot m K) := hch.mono (fun k _ e => by
  rcases e with e | e
  · exact .inl e
  · exact .inr (.inr (.inr (.inr (.inl e)))))
 have hcor : Cor w' K.b K.k (fun _ => False) (SdI m K) (SrI m K) := by
  have hcc := h.cor
  have hblk : ∀ k, CBlk K.k k → w'.heap[k]? = w.heap[k]? := fun k e => hch.block k (hcc.lt e) (hcb k e)
  have ht := hcc.tab
  refine ⟨htyp, (hcell 5 (by omega)).trans hcc.b5, ⟨hcc.snd.map.same (hblk _ (.inl rfl)), fun s v hv => ?_, hcc.snd.inj, fun s ib p hs hp => (hcc.snd.cel s ib p hs hp).same (hblk p (.inr (.inr (.inl ⟨p, s, hcc.reg s p ⟨ib, hs, hp⟩, .inl rfl⟩))))⟩, hcc.pls.same (fun k e => hblk k (.inr (.inr (.inl e)))), hcc.reg, hcc.told, ⟨?_, ht.n1, ht.n64, (hcell _ (by omega)).trans ht.sz, fun i hi => (hcell _ (by omega)).trans (ht.c0 i hi), fun i hi => (hcell _ (by omega)).trans (ht.c1 i hi), fun i hi => (hcell _ (by omega)).trans (ht.c2 i hi), fun i hi => (hcell _ (by omega)).trans (ht.c3 i hi)⟩, hcc.rows, fun k e => (hcc.mt k e).same (hblk k (.inr (.inr (.inr e)))) (fun h1 => hch.block _ ((hcc.mt k e).mat.cel h1).lt (hg k e h1)), hcc.gfr⟩
  · obtain ⟨ib, rfl, h4, h5⟩ := hcc.snd.inn s v hv
    exact ⟨ib, rfl, h4.same (hblk _ (.inr (.inl ⟨s, hv⟩))), h5⟩
  · obtain ⟨cur, hcur⟩ := htyp
    exact ⟨_, _, hcur⟩
 have hh := h.hd
 refine ⟨⟨hm', hcor, ⟨(hcell 0 (by omega)).trans hh.c0, hc1, (hcell 2 (by omega)).trans hh.c2, (hcell 3 (by omega)).trans hh.c3, (hcell 4 (by omega)).trans hh.c4⟩, h.np6, h.cll, h.lc.same (hch.block _ h.lc.lt (hmp _ _ h.lc)), h.lcl, h.lcn, ⟨(h.cls.chg hch hcl).at_, h.cls.inj⟩, fun c hc => (h.lm c hc).same (hch.block _ (h.lm c hc).lt (hmp _ _ (h.lm c hc))), h.mid, h.own, h.isM, ⟨h.ap.mb_sb, h.ap.mb_ib, h.ap.cm_mb, h.ap.cm_sb, h.ap.cm_ib, h.ap.cm_inj⟩, ho, h.glo.chg hchF (fun k hg e => h.gl k e hg), fun k hk hgl => ?_⟩, rfl, rfl, hchF, hfoot, Nat.le_refl _, fun _ _ => rfl, fun k hk => ⟨hk, rfl⟩⟩
 rcases hfoot k hk with e | e
 · exact h.gl k e hgl
 · have := h.glo.lt hgl; omega
theorem KIm.rebe (h : KIm w m K) {i c g : Nat} {x : Ob} (hx : m.obs[i]? = some x) (hg : K.ov.ownBlock = some g) (hm' : ImOk { m with obs := m.obs.set i { x with cls := c } }) :
 Step w (w.setCell ⟨g, i * 2, none⟩ (.pointer (some ⟨K.cb c, 0, none⟩))) m K { m with obs := m.obs.set i { x with cls := c } } K := by
 have hi := (List.getElem?_eq_some_iff.1 hx).1
 obtain ⟨p, cap, hv, hf⟩ := h.obs.form
 obtain ⟨g', hg', hF⟩ := hf i x hx
 rw [hg'] at hg
 injection hg with hg
 subst hg
 obtain ⟨rfl⟩ := hF.p
 have hgO : OBlk K.ob K.ov m.obs.length g' := .inl hg'
 obtain ⟨cs0, hcs0⟩ := hF.typ
 have hset : ∀ j, j ≠ g' → (w.setCell ⟨g', i * 2, none⟩ (.pointer (some ⟨K.cb c, 0, none⟩))).heap[j]? = w.heap[j]? := fun j hj => Below.heap_setCell _ _ _ _ hj
 have hb : K.b ≠ g' := fun e => by
  obtain ⟨cur, hcur⟩ := h.cor.img
  rw [e, hcs0] at hcur
  injection hcur with hcur
  injection hcur with _ hcur _
  revert hcur
  decide
 have hlen : (m.obs.set i { x with cls := c }).length = m.obs.length := by simp
 have hown := h.obs.own
 rw [hv] at hown
 have hst := (hown.stored (i * 2) (.pointer (some ⟨K.cb c, 0, none⟩)))
 refine KIm.reobs (ov := K.ov) (ob := K.ob) h hm' ⟨?_, fun j o ho => ?_, fun a b ha hb => h.obs.inj a b (by rw [← hlen]; exact ha) (by rw [← hlen]; exact hb), fun e => ?_⟩ (fun k hk => .inl (by rw [← hlen]; exact hk)) ((Chg.refl w _).setCell _ _ (fun _ => .inr hgO)) ?_ (fun o _ => World.cell?_of_block (a := ⟨K.b, o, none⟩) (hset _ hb)) ((World.cell?_of_block (a := ⟨K.b, 1, none⟩) (hset _ hb)).trans h.hd.c1)
 · rw [hlen, hv, ocs_set K.cb K.ob m.obs 0 i x { x with cls := c } hx rfl]
   exact hst.1
 · have hne : K.ob j ≠ g' := fun e => by
    have hj : j < m.obs.length := by rw [← hlen]; exact (List.getElem?_eq_some_iff.1 ho).1
    have := h.obs.at_ j _ (List.getElem?_eq_getElem hj)
    rw [e, hcs0] at this
    injection this with this
    injection this with _ this _
    revert this
    decide
   refine (hset _ hne).trans ?_
   by_cases e : i = j
   · subst e
     rw [List.getElem?_set_self hi] at ho
     injection ho with ho
     subst ho
     exact h.obs.at_ i x hx
   · rw [List.getElem?_set_ne e] at ho
     exact h.obs.at_ j o ho
 · have : (m.obs.set i { x with cls := c }).length = 0 := by rw [e]; rfl
   omega
 · obtain ⟨cur, hcur⟩ := h.cor.img
   exact ⟨cur, (hset _ hb).trans hcur⟩
theorem be_any (h : KIm w m K) (o : Int) (cn : ByteArray) :
 Calls Tryz.prog 33 #[.pointer (some ⟨K.b, 0, none⟩), .int .i64 o, .string cn] w fun e w' => e = .returned (.int .i64 (m.be o cn).1) ∧ ∃ K', Step w w' m K (m.be o cn).2 K' := by
 obtain ⟨p, cap, hv, hf⟩ := h.obs.form
 have c1 := h.hd.c1
 rw [hv] at c1
 have hn := h.ok.objs
 have hcall := has_any hn c1 o
 rw [show (decide (0 ≤ o) && decide (o < (m.obs.length : Int))) = m.there o from rfl] at hcall
 have hcall2 := madeOf_any h cn
 have hok := (be_ok h.ok o cn).1
 obtain ⟨r, hr⟩ : ∃ r, m.be o cn = r := ⟨_, rfl⟩
 rw [hr] at hok ⊢
 unfold Im.be at hr
 cases ht : m.there o with
 | false =>
  rw [ht, if_pos rfl] at hr
  subst hr
  rw [ht] at hcall
  have HS : Hid (Step w w m K m K) := Step.refl h
  clear h hcall2 hf hv hok ht
  go_enter Tryz.func33, Tryz.ntmps33
  go_wp2_with fail
  refine hcall.mono ?_
  rintro e w' ⟨rfl, rfl⟩
  go_wp2
  go_ret
  exact ⟨rfl, K, HS.out⟩
 | true =>
  rw [ht, if_neg (by simp)] at hr
  obtain ⟨i, x, rfl, hx, hi, hil⟩ := there_get ht
  obtain ⟨g, hg, hF⟩ := hf i x hx
  rw [ht] at hcall
  cases hmd : m.made cn with
  | none =>
   rw [hmd] at hr hcall2
   simp only at hr
   subst hr
   simp only [Option.map_none, cptr] at hcall2
   have HS : Hid (Step w w m K m K) := Step.refl h
   clear h hf hv hok ht hF hx hmd
   go_enter Tryz.func33, Tryz.ntmps33
   go_wp2_with fail
   refine hcall.mono ?_
   rintro e w' ⟨rfl, rfl⟩
   go_wp2_with fail
   refine hcall2.mono ?_
   rintro e w' ⟨rfl, rfl⟩
   go_wp2
   go_ret
   exact ⟨rfl, K, HS.out⟩
  | some c =>
   rw [hmd] at hr hcall2
   simp only [hi, hx] at hr
   simp only [Option.map_some, cptr] at hcall2
   have hc := cls_lt (made_some hmd).2
   have t3 := h.cls.tot hc
   have htl := tot_le h.ok c
   have hxo := h.ok.obj x (List.mem_of_getElem? hx)
   have hxl : x.slots.length ≤ 10 := by rw [hxo.2.2.1]; exact tot_le h.ok x.cls
   have o1 := hF.c1
   have o0 := hF.c0
   have ofz := hF.fz
   obtain ⟨rfl⟩ := hF.p
   have hil' : (i : Int) < (m.obs.length : Int) := by omega
   have HH : Hid (KIm w m K ∧ m.obs[i]? = some x ∧ K.ov.ownBlock = some g) := ⟨h, hx, hg⟩
   by_cases hne : m.tot c ≠ x.slots.length
   · rw [if_pos hne] at hr
     subst hr
     have hnb : ((m.tot c : Int) != (x.slots.length : Int)) = true := by simp; omega
     clear h hf hv hok ht hF hx hmd hg hxo
     go_enter Tryz.func33, Tryz.ntmps33
     go_wp2_with fail
     refine hcall.mono ?_
     rintro e w' ⟨rfl, rfl⟩
     go_wp2_with fail
     refine hcall2.mono ?_
     rintro e w' ⟨rfl, rfl⟩
     go_wp2_with fail
     go_region
     go_wp2
     go_ret
     exact ⟨rfl, K, drew_step HH.out.1⟩
   · rw [if_neg hne] at hr
     subst hr
     have heq : m.tot c = x.slots.length := by omega
     rw [heq] at t3
     have HO : Hid _ := hok
     clear h hf hv hok ht hF hx hmd hg hxo
     go_enter Tryz.func33, Tryz.ntmps33
     go_wp2_with fail
     refine hcall.mono ?_
     rintro e w' ⟨rfl, rfl⟩
     go_wp2_with fail
     refine hcall2.mono ?_
     rintro e w' ⟨rfl, rfl⟩
     go_wp2_with fail
     go_region
     go_wp2
     go_ret
     obtain ⟨h, hx, hg⟩ := HH.out
     exact ⟨rfl, K, (drew_step h).trans (h.drew.rebe hx hg HO.out)⟩
theorem setCell_cells {b o : Nat} {cs : Array Value} {t : TypeId} (v : Value) (h : w.heap[b]? = some (.cells cs t)) : (w.setCell ⟨b, o, none⟩ v).heap[b]? = some (.cells (cs.setIfInBounds o v) t) := by
 simp only [World.setCell, Array.getElem?_modify, if_pos, h]; rfl
theorem KIm.restore (h : KIm w m K) {i j : Nat} {x : Ob} {v : Vl} (hx : m.obs[i]? = some x) (hj : j < x.slots.length) (hm' : ImOk { m with obs := m.obs.modify i (fun o => { o with slots := o.slots.set j v }) }) :
 Step w ((w.setCell ⟨K.ob i, j * 2, none⟩ (.bool v.obj)).setCell ⟨K.ob i, j * 2 + 1, none⟩ (.int .i64 v.n)) m K { m with obs := m.obs.modify i (fun o => { o with slots := o.slots.set j v }) } K := by
 have hi := (List.getElem?_eq_some_iff.1 hx).1
 have hb0 := h.obs.at_ i x hx
 have hset : ∀ k, k ≠ K.ob i → ((w.setCell ⟨K.ob i, j * 2, none⟩ (.bool v.obj)).setCell ⟨K.ob i, j * 2 + 1, none⟩ (.int .i64 v.n)).heap[k]? = w.heap[k]? := fun k hk => (Below.heap_setCell _ ⟨K.ob i, j * 2 + 1, none⟩ _ _ hk).trans (Below.heap_setCell _ ⟨K.ob i, j * 2, none⟩ _ _ hk)
 have hb : K.b ≠ K.ob i := fun e => by
  obtain ⟨cur, hcur⟩ := h.cor.img
  rw [e, hb0] at hcur
  injection hcur with hcur
  injection hcur with _ hcur _
  revert hcur
  decide
 have hlen : (m.obs.modify i (fun o => { o with slots := o.slots.set j v })).length = m.obs.length := by simp
 have hget : ∀ k o, (m.obs.modify i (fun o => { o with slots := o.slots.set j v }))[k]? = some o → (k = i ∧ o = { x with slots := x.slots.set j v }) ∨ (k ≠ i ∧ m.obs[k]? = some o) := fun k o ho => by
  rw [List.getElem?_modify] at ho
  by_cases e : i = k
  · subst e
    rw [hx] at ho
    simp at ho
    exact .inl ⟨rfl, ho.symm⟩
  · simp only [e, if_false] at ho
    refine .inr ⟨fun e' => e e'.symm, ?_⟩
    simpa using ho
 refine KIm.reobs (ov := K.ov) (ob := K.ob) h hm' ⟨?_, fun k o ho => ?_, fun a b ha hb => h.obs.inj a b (by rw [← hlen]; exact ha) (by rw [← hlen]; exact hb), fun e => ?_⟩ (fun k hk => .inl (by rw [← hlen]; exact hk)) (((Chg.refl w _).setCell _ _ (fun _ => .inr (.inr ⟨i, hi, rfl⟩))).setCell _ _ (fun _ => .inr (.inr ⟨i, hi, rfl⟩))) ?_ (fun o _ => World.cell?_of_block (a := ⟨K.b, o, none⟩) (hset _ hb)) ((World.cell?_of_block (a := ⟨K.b, 1, none⟩) (hset _ hb)).trans h.hd.c1)
 · have e1 : ocs K.cb K.ob 0 (m.obs.modify i (fun o => { o with slots := o.slots.set j v })) = ocs K.cb K.ob 0 m.obs := ocs_congr _ _ 0 hlen (fun k o o' ho ho' => by
    rcases hget k o' ho' with ⟨rfl, rfl⟩ | ⟨_, ho2⟩
    · rw [hx] at ho; injection ho with ho; subst ho; exact ⟨rfl, rfl, by simp⟩
    · rw [ho] at ho2; injection ho2 with ho2; subst ho2; exact ⟨rfl, rfl, rfl⟩)
   rw [hlen, e1]
   refine ⟨h.obs.own.1, ?_⟩
   rcases h.obs.own.2 with e | ⟨g, cap, cur, e, h1, h2, h3⟩
   · exact .inl e
   · refine .inr ⟨g, cap, cur, e, h1, (hset g (fun e' => ?_)).trans h2, h3⟩
     rw [e', hb0] at h2
     injection h2 with h2
     injection h2 with _ h2 _
     revert h2
     decide
 · rcases hget k o ho with ⟨rfl, rfl⟩ | ⟨hne, ho2⟩
   · have h1 := setCell_cells (w := w) (b := K.ob k) (o := j * 2) (.bool v.obj) hb0
     have h2 := setCell_cells (w := w.setCell ⟨K.ob k, j * 2, none⟩ (.bool v.obj)) (b := K.ob k) (o := j * 2 + 1) (.int .i64 v.n) h1
     rw [h2, vcs_set x.slots j v hj]
     simp
   · exact (hset _ (fun e => hne (h.obs.inj k i (by have := (List.getElem?_eq_some_iff.1 ho2).1; exact this) hi e))).trans (h.obs.at_ k o ho2)
 · have : (m.obs.modify i (fun o => { o with slots := o.slots.set j v })).length = 0 := by rw [e]; rfl
   omega
 · obtain ⟨cur, hcur⟩ := h.cor.img
   exact ⟨cur, (hset _ hb).trans hcur⟩
theorem info_val : (Tryz.prog.info? 33).map (fun i => (i.zero, i.size, i.bytes)) = some (some (.agg #[.bool false, .int .i64 0]), 2, 16) := by kernel_rfl
theorem info_obj : (Tryz.prog.info? 105).map (fun i => (i.zero, i.size, i.bytes)) = some (some (.agg #[.pointer none, .slice none 0 0]), 2, 32) := by kernel_rfl
theorem made_vals : ∀ n, n ≤ 10 → madeCells #[.bool false, .int .i64 0] (n * 2) = (vcs (List.replicate n Vl.zero)).toArray
 | 0, _ => by kernel_rfl
 | 1, _ => by kernel_rfl
 | 2, _ => by kernel_rfl
 | 3, _ => by kernel_rfl
 | 4, _ => by kernel_rfl
 | 5, _ => by kernel_rfl
 | 6, _ => by kernel_rfl
 | 7, _ => by kernel_rfl
 | 8, _ => by kernel_rfl
 | 9, _ => by kernel_rfl
 | 10, _ => by kernel_rfl
 | n + 11, h => by omega
theorem mk_vals (n : Nat) (hn : n ≤ 10) (w : World) : (Instr.makeSlice 34 (.int .i64 (n : Int)) (.int .i64 (n : Int))).run Tryz.prog w = .ok (.slice (some ⟨w.heap.size, 0, none⟩) n n) (w.alloc (.cells (vcs (List.replicate n Vl.zero)).toArray 33)) := by
 obtain ⟨i0, hi, h0, h1, h2⟩ := info_parts info_val
 have h := run_make (P := Tryz.prog) w 34 33 i0 _ Tryz.underlying34 hi h0 .i64 .i64 (n : Int) (n : Int) (by omega) (by omega) (by rw [h2]; omega) (by omega)
 rw [h, Int.toNat_natCast, h1]
 show Result.ok _ (w.alloc (.cells (madeCells #[.bool false, .int .i64 0] (n * 2)) _)) = _
 rw [made_vals n hn]
end Go.Proofs.YtkghmgoefiepeaaGreatDoor.reads
