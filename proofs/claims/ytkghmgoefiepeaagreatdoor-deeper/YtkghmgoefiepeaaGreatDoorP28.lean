import Derived.Test.YtkghmgoefiepeaaGreatDoorP0
import Derived.Test.YtkghmgoefiepeaaGreatDoorP27
set_option linter.unusedSimpArgs false
set_option linter.unusedVariables false
set_option maxHeartbeats 4000000
set_option maxRecDepth 100000
namespace Go.Proofs.YtkghmgoefiepeaaGreatDoor.reads
open Go.ChangeShapes Go.WideShapes Go.ChangeAt Go.RowKit Kn Go.Proofs.YtkghmgoefiepeaaGreatDoor.img
variable {w : World}
variable {m : Im}
variable {K : Kd}
theorem KIm.own_none (h : KIm w m K) {c : Nat} {s : ByteArray} (e : K.mid c s = none) : m.own c s = none := by rw [h.own, e]; rfl
theorem KIm.own_some (h : KIm w m K) {c k : Nat} {s : ByteArray} (e : K.mid c s = some k) : m.own c s = some (K.k.md k).ws := by rw [h.own, e]; rfl
theorem drop_any (h : KIm w m K) (cn sel : ByteArray) :
 Calls Tryz.prog 19 #[.pointer (some ⟨K.b, 0, none⟩), .string cn, .string sel] w fun e w' => e = .returned (.int .i64 (m.drop cn sel).1) ∧ ∃ K', Step w w' m K (m.drop cn sel).2 K' := by
 have lk := h.look cn
 have c0 := h.hd.c0
 cases hcl : m.cls cn with
 | none =>
  have hdr : m.drop cn sel = (2, m) := by unfold Im.drop; rw [hcl]
  rw [hdr]
  rw [hcl] at lk
  simp only [Option.map_none, cptr] at lk
  have HS : Hid (Step w w m K m K) := Step.refl h
  clear h hdr hcl
  go_enter Tryz.func19, Tryz.ntmps19
  go_wp2
  go_ret
  exact ⟨rfl, K, HS.out⟩
 | some c =>
  have hc := cls_lt hcl
  rw [hcl] at lk
  simp only [Option.map_some, cptr] at lk
  have c4 := h.cls.meth hc
  have lk2 := h.lookM hc sel
  cases hmi : K.mid c sel with
  | none =>
   have hdr : m.drop cn sel = (4, m) := by unfold Im.drop; rw [hcl]; simp only; rw [h.own_none hmi]
   rw [hdr]
   rw [hmi] at lk2
   simp only [Option.map_none, cptr] at lk2
   have HS : Hid (Step w w m K m K) := Step.refl h
   clear h hdr hcl
   go_enter Tryz.func19, Tryz.ntmps19
   go_wp2
   go_ret
   exact ⟨rfl, K, HS.out⟩
  | some k =>
   have hdr : m.drop cn sel = (0, m.setKl c (·.drop sel)) := by unfold Im.drop; rw [hcl]; simp only; rw [h.own_some hmi]
   have hok : ImOk (m.drop cn sel).2 := (drop_ok h.ok cn sel).1
   rw [hdr] at hok ⊢
   rw [hmi] at lk2
   simp only [Option.map_some, cptr] at lk2
   have hcall : Calls Tryz.prog 49 #[.pointer (some ⟨K.b, 0, none⟩), .pointer (some ⟨K.cb c, 0, none⟩), .string sel] w fun e w' => e = .returned (.tuple #[]) ∧ ∃ K', Step w w' m K (m.setKl c (·.drop sel)) K' := by
    refine (takeAway_cor h.cor m K.cb K.cm c k sel (K.lm c) h.ok hc h.cls (h.lm c hc) (h.ap.cm_sb c hc) (fun s => h.ap.cm_ib c s hc) (h.isM c sel k hmi) (by rw [h.mid c sel hc, hmi]; rfl) h.rowQ.1 h.rowQ.2).mono ?_
    rintro e w' ⟨rfl, l, ps, pm, R, hcor, hsm, hkp, hch, hd⟩
    exact ⟨rfl, _, h.remeth (x := none) hc hok (oneMeth_drop hc sel) hcor (Grew.of_kept hkp) (fun k e => by cases e) hsm (fun s => by rw [lookup_del]; rfl) hch hd⟩
   clear h hdr hcl hok
   go_enter Tryz.func19, Tryz.ntmps19
   go_wp2_with fail
   refine hcall.mono ?_
   rintro e w' ⟨rfl, hS⟩
   go_wp2
   go_ret
   exact ⟨rfl, hS⟩
theorem greatest_snoc (ws : List (Kn.W × Nat)) (k : Nat) (x : Kn.W × Nat) (hx : ws[k]? = some x) : greatest (ws.take (k + 1)) = if x.1.k = 103 ∨ x.1.k = 112 then max (greatest (ws.take k)) (x.1.n.toNat + 1) else greatest (ws.take k) := by
 unfold greatest
 rw [List.take_add_one, hx, Option.toList_some, List.foldl_append]
 rfl
theorem greatest_le {ws : List (Kn.W × Nat)} (h : ∀ (i : Nat) (x : Kn.W × Nat), ws[i]? = some x → (x.1.k = 103 ∨ x.1.k = 112) → x.1.n < 10) : ∀ k, k ≤ ws.length → greatest (ws.take k) ≤ 10
 | 0, _ => by simp [greatest]
 | k + 1, hk => by
  obtain ⟨x, hx⟩ : ∃ x, ws[k]? = some x := ⟨_, List.getElem?_eq_getElem (by omega)⟩
  rw [greatest_snoc ws k x hx]
  have ih := greatest_le h k (by omega)
  by_cases e : x.1.k = 103 ∨ x.1.k = 112
  · rw [if_pos e]; have := h k x hx e; omega
  · rw [if_neg e]; exact ih
theorem mslots_any (L : List (Nat × ByteArray)) (k0 : Nat) (d : Md) (w : World) (hm : MtAt w L k0 d) (hs : ∀ (i : Nat) (x : Kn.W × Nat), d.ws[i]? = some x → (x.1.k = 103 ∨ x.1.k = 112) → 0 ≤ x.1.n ∧ x.1.n < 10) (hf : ∀ (i : Nat) (x : Kn.W × Nat), d.ws[i]? = some x → Fine0 x.1) :
 Calls Tryz.prog 67 #[.pointer (some ⟨k0, 0, none⟩)] w fun e w' => e = .returned (.int .i64 (greatest d.ws : Nat)) ∧ Below w.heap.size w w' := by
 obtain ⟨n0, hb⟩ := hm.blk
 have m0 : w.cell? ⟨k0, 0, none⟩ = some (.slice d.p d.ws.length d.cap) := by simp only [World.cell?, hb]; rfl
 have hn := hm.len
 have HM : Hid (MAt w d.p d.g d.ws d.pl d.ws.length) := hm.mat
 have HS : Hid _ := hs
 have HF : Hid _ := hf
 clear hm hs hf hb
 obtain ⟨ws, p, g, cap, pl⟩ := d
 simp only at m0 hn HM HS HF ⊢
 go_enter Tryz.func67, Tryz.ntmps67
 go_wp2
 go_loopw [3, 11] (fun t i wr => ∃ k : Nat, i = .int .i64 k ∧ k ≤ ws.length ∧ t = .int .i64 (greatest (ws.take k) : Nat) ∧ Below w.heap.size w wr) (fun _ i _ => ws.length - (intOf i).toNat)
 case atStart => exact ⟨0, rfl, by omega, rfl, Below.refl _ _⟩
 case round =>
  obtain ⟨k, rfl, hk, rfl, hbw⟩ := hrel
  by_cases hkn : k < ws.length
  · obtain ⟨x, hx⟩ : ∃ x, ws[k]? = some x := ⟨_, List.getElem?_eq_getElem hkn⟩
    have hm := HM.out
    obtain rfl : p = some ⟨g, 0, none⟩ := hm.head (by omega)
    have hgl0 := (hm.cel (by omega)).lt
    have hwr := hm.same (hbw.block g hgl0)
    have hgl : g < wr.heap.size := Nat.lt_of_lt_of_le hgl0 hbw.size
    have c0 := hwr.c0 k x hx
    have c1 := hwr.c1 k x hx
    have c2 := hwr.c2 k x hx
    have c3 := hwr.c3 k x hx
    have c4 := hwr.c4 k x hx
    have c5 := hwr.c5 k x hx
    obtain ⟨q, hq⟩ : ∃ q, (if k < ws.length ∧ sendsW x.1 = true then some (⟨pl k, 0, none⟩ : Addr) else none) = q := ⟨_, rfl⟩
    rw [hq] at c5
    have hgr := greatest_snoc ws k x hx
    have hg10 : greatest (ws.take k) ≤ 10 := greatest_le (fun i x hx e => (HS.out i x hx e).2) k hk
    have hs10 := HS.out k x hx
    obtain ⟨t, l, sd, jp, st, he⟩ := eff_of x.1.k x.1.n (HF.out k x hx).kind
    have hsl := he.slot
    have HB : Hid _ := hbw
    have hsz := hbw.size
    have hcall := namesSlot_any (kindOf x.1.k) x.1.n (ofL x.1.a) (ofL x.1.sel) (ofL x.1.b) (wr.alloc (.cells #[.int .i64 (kindOf x.1.k : Nat), .int .i64 x.1.n, .string (ofL x.1.a), .string (ofL x.1.sel), .string (ofL x.1.b), .pointer q] 146)) (q := q)
    have hz := (MapKept.heap_alloc wr (.cells #[.int .i64 (kindOf x.1.k : Nat), .int .i64 x.1.n, .string (ofL x.1.a), .string (ofL x.1.sel), .string (ofL x.1.b), .pointer q] 146)).1
    clear hm hwr hbw he hq m0 hgl0
    cases hsb : slotB (kindOf x.1.k) with
    | false =>
     rw [hsb] at hcall
     have hno : ¬ (x.1.k = 103 ∨ x.1.k = 112) := fun e => by have := hsl.2 e; rw [hsb] at this; cases this
     rw [if_neg hno] at hgr
     have HG : Hid _ := hgr
     clear hs10 hsl hsb hno hgr hx
     go_wp2_with fail
     refine hcall.mono ?_
     rintro e w2 ⟨rfl, hb2⟩
     have HB2 : Hid (Below w.heap.size w w2) := (HB.out.alloc hsz _).trans (hb2.mono (by simp; omega))
     clear hb2 hcall c0 c1 c2 c3 c4 c5
     go_wp2
     go_roundw
     case rel => exact ⟨k + 1, by go_num, by omega, by rw [HG.out], HB2.out⟩
     case measure => simp [intOf] <;> omega
    | true =>
     rw [hsb] at hcall
     have hyes := hsl.1 hsb
     rw [if_pos hyes] at hgr
     obtain ⟨hn0, hn10⟩ := hs10 hyes
     obtain ⟨xn, hxn⟩ : ∃ xn : Nat, x.1.n = (xn : Int) := ⟨x.1.n.toNat, by omega⟩
     rw [hxn] at hgr hcall hz hn10
     rw [Int.toNat_natCast] at hgr
     have HG : Hid _ := hgr
     rw [hxn] at c1
     clear hs10 hsl hsb hyes hgr hx hn0 hxn
     go_wp2_with fail
     refine hcall.mono ?_
     rintro e w2 ⟨rfl, hb2⟩
     have HB2 : Hid (Below w.heap.size w w2) := (HB.out.alloc hsz _).trans (hb2.mono (by simp; omega))
     have z1 : w2.cell? ⟨wr.heap.size, 1, none⟩ = some (.int .i64 (xn : Nat)) := by
      refine (hb2.cell (p := ⟨wr.heap.size, 1, none⟩) (by simp)).trans ?_
      simp only [World.cell?, hz]; rfl
     clear hb2 hcall c0 c1 c2 c3 c4 c5
     go_wp2
     go_roundw
     case rel => exact ⟨k + 1, by go_num, by omega, by rw [HG.out]; congr 1; split <;> omega, HB2.out⟩
     case measure => simp [intOf] <;> omega
  · obtain rfl : k = ws.length := by omega
    rw [List.take_length]
    go_wp2
    go_ret
    exact ⟨rfl, hbw⟩
theorem give_any (h : KIm w m K) {t k : Nat} (ht : t < m.kl.length) (hk : K.k.Mk k) (sel : ByteArray) (hok : ImOk (m.setKl t (·.put ⟨sel, (K.k.md k).ws⟩))) :
 Calls Tryz.prog 44 #[.pointer (some ⟨K.b, 0, none⟩), .pointer (some ⟨K.cb t, 0, none⟩), .string sel, .pointer (some ⟨k, 0, none⟩)] w fun e w' => e = .returned (.tuple #[]) ∧ ∃ K', Step w w' m K (m.setKl t (·.put ⟨sel, (K.k.md k).ws⟩)) K' := by
 refine (give_cor h.cor m K.cb K.cm t k sel (K.lm t) (K.mid t sel) h.ok ht h.cls (h.lm t ht) (h.ap.cm_sb t ht) (fun s => h.ap.cm_ib t s ht) hk (.inl (fun _ e => e)) (h.mid t sel ht) (fun k0 e => h.isM t sel k0 e) h.rowQ.1 h.rowQ.2).mono ?_
 rintro e w' ⟨rfl, l, ps, pm, R, hcor, hsm, hkp, hch, hd⟩
 exact ⟨rfl, _, h.remeth (sel := sel) (x := some k) (kc := { K.k with l := l, ps := ps, pm := pm, R := R }) ht hok (oneMeth_put ht ⟨sel, (K.k.md k).ws⟩) hcor (Grew.of_kept hkp) (fun k' e => by injection e with e; subst e; exact hk) hsm (fun s => by rw [lookup_put]; rfl) hch hd⟩
theorem KIm.isSlots (h : KIm w m K) {c : Nat} {s : ByteArray} {ws : List (Kn.W × Nat)} (ho : m.own c s = some ws) : (∀ (i : Nat) (x : Kn.W × Nat), ws[i]? = some x → (x.1.k = 103 ∨ x.1.k = 112) → 0 ≤ x.1.n ∧ x.1.n < 10) ∧ ∀ (i : Nat) (x : Kn.W × Nat), ws[i]? = some x → Fine0 x.1 := by
 obtain ⟨_, hg⟩ := own_good h.ok ho
 refine ⟨fun i x hx e => ⟨(hg.shp i x hx).low (by rcases e with e | e; exact .inr (.inl e); exact .inr (.inr e)), ?_⟩, hg.fine⟩
 have hi : i < ws.length := (List.getElem?_eq_some_iff.1 hx).1
 have hn := hg.num i hi
 have hw : wAt ws i = x.1 := by unfold wAt; rw [hx]; rfl
 have htot : m.tot c ≤ 10 := by
  obtain ⟨k, _, hk, _⟩ := Kn.own_some ho
  rw [tot_of hk]; exact h.ok.tot c k hk
 apply Classical.byContradiction
 intro hlt
 refine hn (.inr ?_)
 unfold slotBad
 rw [hw]
 exact ⟨e, by omega⟩
theorem copy_any (h : KIm w m K) (cn sel to : ByteArray) (hsz : sel.size ≤ 140737488355328) :
 Calls Tryz.prog 32 #[.pointer (some ⟨K.b, 0, none⟩), .string cn, .string sel, .string to] w fun e w' => e = .returned (.int .i64 (m.copy cn sel to).1) ∧ ∃ K', Step w w' m K (m.copy cn sel to).2 K' := by
 have lk := h.drew.look cn
 have lk' := h.drew.look to
 have c0 : w.cell? ⟨K.b, 0, none⟩ = some (.map (some K.mb)) := h.hd.c0
 have HS : Hid (Step w w.drew m K m K) := by
  have hx1 : Step w w.drew m K m K := Step.below h ⟨rfl, rfl, rfl, Nat.le_refl _, fun _ _ => rfl⟩
  exact hx1
 cases hcl : m.cls cn with
 | none =>
  have hdr : m.copy cn sel to = (2, m) := by unfold Im.copy; rw [hcl]
  rw [hdr]
  obtain ⟨v, hv⟩ : ∃ v, cptr ((m.cls to).map K.cb) = v := ⟨_, rfl⟩
  rw [hcl] at lk
  simp only [Option.map_none, cptr] at lk
  rw [hv] at lk'
  clear h hdr hcl hv
  go_enter Tryz.func32, Tryz.ntmps32
  go_wp2_with fail
  go_region
  go_wp2
  go_ret
  exact ⟨rfl, K, HS.out⟩
 | some c =>
  have hc := cls_lt hcl
  rw [hcl] at lk
  simp only [Option.map_some, cptr] at lk
  cases hcl2 : m.cls to with
  | none =>
   have hdr : m.copy cn sel to = (2, m) := by unfold Im.copy; rw [hcl, hcl2]
   rw [hdr]
   rw [hcl2] at lk'
   simp only [Option.map_none, cptr] at lk'
   clear h hdr hcl hcl2
   go_enter Tryz.func32, Tryz.ntmps32
   go_wp2_with fail
   go_region
   go_wp2
   go_ret
   exact ⟨rfl, K, HS.out⟩
  | some t =>
   have ht := cls_lt hcl2
   rw [hcl2] at lk'
   simp only [Option.map_some, cptr] at lk'
   have c4 : w.cell? ⟨K.cb c, 4, none⟩ = some (.map (some (K.cm c))) := h.cls.meth hc
   have lk2 := h.drew.lookM hc sel
   cases hmi : K.mid c sel with
   | none =>
    have hdr : m.copy cn sel to = (4, m) := by unfold Im.copy; rw [hcl, hcl2]; simp only; rw [h.own_none hmi]
    rw [hdr]
    rw [hmi] at lk2
    simp only [Option.map_none, cptr] at lk2
    clear h hdr hcl
    go_enter Tryz.func32, Tryz.ntmps32
    go_wp2_with fail
    go_region
    go_wp2
    go_ret
    exact ⟨rfl, K, HS.out⟩
   | some k =>
    rw [hmi] at lk2
    simp only [Option.map_some, cptr] at lk2
    have how := h.own_some hmi
    have hsl := h.isSlots how
    have hmk := h.isM c sel k hmi
    have hcp : m.copy cn sel to = if m.tot t < greatest (K.k.md k).ws then (7, m) else (0, m.setKl t (·.put ⟨sel, (K.k.md k).ws⟩)) := by unfold Im.copy; rw [hcl, hcl2]; simp only; rw [how]
    have hok := (copy_ok h.ok cn sel to).1
    have ht3 : w.cell? ⟨K.cb t, 3, none⟩ = some (.int .i64 (m.tot t : Nat)) := by
     have := h.cls.at_ t _ (List.getElem?_eq_getElem ht)
     rw [tot_of (List.getElem?_eq_getElem ht)]
     simp only [World.cell?, this]; rfl
    have htl := World.block_lt_of_cell? w ⟨K.cb t, 3, none⟩ ht3
    have htot : m.tot t ≤ 10 := by rw [tot_of (List.getElem?_eq_getElem ht)]; exact h.ok.tot t _ (List.getElem?_eq_getElem ht)
    have hgr10 : greatest (K.k.md k).ws ≤ 10 := by have := greatest_le (fun i x hx e => (hsl.1 i x hx e).2) (K.k.md k).ws.length (Nat.le_refl _); rwa [List.take_length] at this
    have HH : Hid _ := h
    have HK : Hid (K.k.Mk k ∧ t < m.kl.length) := ⟨hmk, ht⟩
    have hms : ∀ W : World, Below w.heap.size w W → Calls Tryz.prog 67 #[.pointer (some ⟨k, 0, none⟩)] W fun e w' => e = .returned (.int .i64 (greatest (K.k.md k).ws : Nat)) ∧ Below W.heap.size W w' := fun W hW => mslots_any K.k.L k (K.k.md k) W ((h.below hW).cor.mt k hmk) hsl.1 hsl.2
    have hcall1 := hms w.drew.drew ⟨rfl, rfl, rfl, Nat.le_refl _, fun _ _ => rfl⟩
    obtain ⟨cr, hcr⟩ : ∃ cr, m.copy cn sel to = cr := ⟨_, rfl⟩
    rw [hcr] at hok hcp ⊢
    clear h hcl hcl2 hmi hmk hsl how hms hcr
    go_enter Tryz.func32, Tryz.ntmps32
    go_wp2_with fail
    go_region
    go_wp2_with fail
    clear c0 c4 lk lk' lk2
    refine wp_region_noPanic ?_
    refine wp_region_held_drew (S := (fun w' => w'.cell? ⟨K.cb t, 3, none⟩ = some (.int .i64 (m.tot t : Nat)))) (by kernel_rfl) (by go_keep) (fun hHeld => ?_)
    refine tkH 0 ?_
    refine tkH 2 ?_
    refine tkH 3 ?_
    refine tkH 4 ?_
    refine tkL 5 ?_
    refine rdH 1 fun Kmac hKmac => ?_
    go_simp
    refine hcall1.mono ?_; rintro e w2 ⟨rfl, hb2⟩; have ht4 : w2.cell? ⟨K.cb t, 3, none⟩ = some (.int .i64 (m.tot t : Nat)) := (hb2.cell (p := ⟨K.cb t, 3, none⟩) htl).trans ht3
    try go_wp2_with fail
    refine hKmac.go fun hHeld => ?_
    clear hKmac Kmac
    try refine lyH ?_
    refine tkL 6 ?_
    refine wpAnyH_done (by kernel_rfl) ?_ _
    refine NoPanic.normal ?_
    clear hHeld
    clear hHeld
    have HB : Hid (Below w.heap.size w w2) := by
     have hx1 : Below w.heap.size w w2 := undrew (undrew hb2)
     exact hx1
    clear hb2 hcall1 ht3
    by_cases hlt : m.tot t < greatest (K.k.md k).ws
    · rw [if_pos hlt] at hcp
      have hi : (m.tot t : Int) < (greatest (K.k.md k).ws : Int) := by omega
      subst hcp
      clear hok
      go_wp2
      go_ret
      exact ⟨rfl, K, Step.below HH.out HB.out⟩
    · rw [if_neg hlt] at hcp
      subst hcp
      have hi : ¬ (m.tot t : Int) < (greatest (K.k.md k).ws : Int) := by omega
      have HO : Hid _ := hok
      clear hok
      go_wp2_with fail
      refine (clone_any sel _ hsz).mono ?_
      rintro e w3 ⟨rfl, hb3⟩
      have HB3 : Hid (Below w.heap.size w w3) := HB.out.trans (hb3.mono HB.out.size)
      have hcall := give_any (HH.out.below HB3.out) HK.out.2 HK.out.1 sel HO.out
      clear hb3
      go_wp2_with fail
      refine hcall.mono ?_
      rintro e w4 ⟨rfl, K', hS⟩
      have HS4 : Hid (∃ K', Step w w4 m K (m.setKl t (·.put ⟨sel, (K.k.md k).ws⟩)) K') := by
       have hx1 : ∃ K', Step w w4 m K (m.setKl t (·.put ⟨sel, (K.k.md k).ws⟩)) K' := ⟨K', (Step.below HH.out HB3.out).trans hS⟩
       exact hx1
      clear hS hcall
      go_wp2
      go_ret
      exact ⟨rfl, HS4.out⟩
theorem own_sel (h : ImOk m) {c : Nat} {sel : ByteArray} {ws : List (Kn.W × Nat)} (e : m.own c sel = some ws) : selector (bl sel) = true := by
 unfold Im.own at e
 obtain ⟨k, hk, e⟩ := Option.bind_eq_some_iff.1 e
 unfold Kl.own at e
 obtain ⟨x, hx, _⟩ := Option.map_eq_some_iff.1 e
 have h1 := List.find?_some hx
 have h2 := (h.meth c k x hk (List.mem_of_find?_eq_some hx)).1
 have hs : x.sel = sel := Classical.byContradiction fun hne => by
  rw [(beq_ba_false _ _).2 hne] at h1
  cases h1
 rw [← hs]
 exact h2
theorem sel_small {s : ByteArray} (h : selector (bl s) = true) : s.size ≤ 8 := by
 unfold selector at h
 simp only [Bool.and_eq_true, decide_eq_true_eq] at h
 exact h.1.1.1.1.2
theorem own_small (h : ImOk m) {c : Nat} {sel : ByteArray} {ws : List (Kn.W × Nat)} (e : m.own c sel = some ws) : sel.size ≤ 8 := sel_small (own_sel h e)
theorem copy_all (h : KIm w m K) (cn sel to : ByteArray) :
 Calls Tryz.prog 32 #[.pointer (some ⟨K.b, 0, none⟩), .string cn, .string sel, .string to] w fun e w' => e = .returned (.int .i64 (m.copy cn sel to).1) ∧ ∃ K', Step w w' m K (m.copy cn sel to).2 K' := by
 have lk := h.drew.look cn
 have lk' := h.drew.look to
 have c0 : w.cell? ⟨K.b, 0, none⟩ = some (.map (some K.mb)) := h.hd.c0
 have HS : Hid (Step w w.drew m K m K) := by
  have hx1 : Step w w.drew m K m K := Step.below h ⟨rfl, rfl, rfl, Nat.le_refl _, fun _ _ => rfl⟩
  exact hx1
 cases hcl : m.cls cn with
 | none =>
  have hdr : m.copy cn sel to = (2, m) := by unfold Im.copy; rw [hcl]
  rw [hdr]
  obtain ⟨v, hv⟩ : ∃ v, cptr ((m.cls to).map K.cb) = v := ⟨_, rfl⟩
  rw [hcl] at lk
  simp only [Option.map_none, cptr] at lk
  rw [hv] at lk'
  clear h hdr hcl hv
  go_enter Tryz.func32, Tryz.ntmps32
  go_wp2_with fail
  go_region
  go_wp2
  go_ret
  exact ⟨rfl, K, HS.out⟩
 | some c =>
  have hc := cls_lt hcl
  rw [hcl] at lk
  simp only [Option.map_some, cptr] at lk
  cases hcl2 : m.cls to with
  | none =>
   have hdr : m.copy cn sel to = (2, m) := by unfold Im.copy; rw [hcl, hcl2]
   rw [hdr]
   rw [hcl2] at lk'
   simp only [Option.map_none, cptr] at lk'
   clear h hdr hcl hcl2
   go_enter Tryz.func32, Tryz.ntmps32
   go_wp2_with fail
   go_region
   go_wp2
   go_ret
   exact ⟨rfl, K, HS.out⟩
  | some t =>
   have ht := cls_lt hcl2
   rw [hcl2] at lk'
   simp only [Option.map_some, cptr] at lk'
   have c4 : w.cell? ⟨K.cb c, 4, none⟩ = some (.map (some (K.cm c))) := h.cls.meth hc
   have lk2 := h.drew.lookM hc sel
   cases hmi : K.mid c sel with
   | none =>
    have hdr : m.copy cn sel to = (4, m) := by unfold Im.copy; rw [hcl, hcl2]; simp only; rw [h.own_none hmi]
    rw [hdr]
    rw [hmi] at lk2
    simp only [Option.map_none, cptr] at lk2
    clear h hdr hcl
    go_enter Tryz.func32, Tryz.ntmps32
    go_wp2_with fail
    go_region
    go_wp2
    go_ret
    exact ⟨rfl, K, HS.out⟩
   | some k => exact copy_any h cn sel to (by have := own_small h.ok (h.own_some hmi); omega)
end Go.Proofs.YtkghmgoefiepeaaGreatDoor.reads
