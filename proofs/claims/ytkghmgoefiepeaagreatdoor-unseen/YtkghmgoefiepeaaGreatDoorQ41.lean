import Derived.Test.YtkghmgoefiepeaaGreatDoorQ0
import Derived.Test.YtkghmgoefiepeaaGreatDoorQ36
set_option linter.unusedSimpArgs false
set_option linter.unusedVariables false
set_option maxHeartbeats 4000000
set_option maxRecDepth 100000
namespace Go.Proofs.YtkghmgoefiepeaaGreatDoor.reads
open Go.ChangeShapes Go.WideShapes Go.ChangeAt Go.RowKit Kn Go.Proofs.YtkghmgoefiepeaaGreatDoor.img
variable {w w0 : World}
variable {m m0 : Im}
variable {K K0 : Kd}
variable {Dd : Nat → Prop}
variable {bs : List (Nat × Nat)}
variable {fs : List Fr}
theorem rsend_any {rb:Nat}{fuel:Nat} (h:Sg Dd w0 m0 K0 rb w m K fuel bs fs) (h0:Glo w0) {p:Nat}{s:ByteArray} (hp:(p,s)∈K.k.L) (frm:Option Nat) (hfrm:∀ x,frm=some x→x < m.kl.length) (hs:s.size≤1000)
 (to:Vl) {av:Value}{args:List Vl}{ab:Nat} (hav:ArgsAt w av args ab) (hab:args≠[]→ab < w.heap.size∧ab≠rb∧¬ Foot m K ab) (h3:args.length≤3) (h32:fs.length≤32) :
 Calls Tryz.prog 89 #[.pointer (some ⟨rb,0,none⟩),.pointer (some ⟨p,0,none⟩),.agg #[.pointer (cptr (frm.map K.cb)),.string s],to.val,av] w (SPost Dd w0 m0 K0 rb (m.send fuel frm to s args fs) w m K):=by
 cases hsay:K.says m s frm with
 | none=>exact send_none h h0 hp frm hfrm hs to hav hab h3 h32 hsay
 | some x=>exact send_found h h0 hp frm hfrm hs to hav hab h3 h32 hsay
theorem slice_stack (fb a k:Nat) (h:a+k≤16) (w:World):∃ ap,(Instr.sliceAt 210 (.pointer (some ⟨fb,11,none⟩)) (some (.int .i64 (a:Nat))) (some (.int .i64 ((a:Int)+(k:Int)))) none).run Tryz.prog w=.ok (.slice ap k (16 - a)) w∧(1≤k→ap=some ⟨fb,11+a*2,none⟩):=by
 obtain ⟨i0,hi,_,hs,_⟩:=info_parts info_val
 have h1:¬ ((a:Int)+(k:Int) < 0):=by omega
 have h2:¬ ((16:Int) < (a:Int)+(k:Int)):=by omega
 have h3:¬ ((a:Int)+(k:Int) < (a:Int)):=by omega
 have h4:((a:Int)+(k:Int)).toNat=a+k:=by omega
 simp [Instr.sliceAt,Instr.sureAddr,Instr.sliceBounds,Instr.sliceBound,run_underlying Tryz.underlying210,Go.sizeOf,typeInfo,hi,hs,h1,h2,h3,h4,Addr.add,asIntOf]
 rw [if_pos ⟨by omega,by omega⟩]
 refine ⟨_,rfl,fun hk=>?_⟩
 rw [if_neg (by omega)]
 by_cases e:a*2=0
 · rw [if_pos e,e]
 · rw [if_neg e]
theorem vcs_rev (st:List Vl) (k:Nat) (hk:k≤st.length) {fb:Nat} (hc:∀ i v,st.reverse[i]?=some v→w.cell? ⟨fb,11+i*2,none⟩=some (.bool v.obj)∧w.cell? ⟨fb,11+i*2+1,none⟩=some (.int .i64 v.n)) :
 ∀ j u,(vcs (st.take k).reverse)[j]?=some u→w.cell? ((⟨fb,11+(st.length - k)*2,none⟩:Addr).add j)=some u:=fun j u hu=>by
 have hadd:(⟨fb,11+(st.length - k)*2,none⟩:Addr).add j=⟨fb,11+(st.length - k)*2+j,none⟩:=by unfold Addr.add;split <;> simp_all
 rw [hadd]
 have hl:=(List.getElem?_eq_some_iff.1 hu).1
 rw [vcs_len,List.length_reverse,List.length_take,Nat.min_eq_left hk] at hl
 have hi:j / 2 < k:=by omega
 obtain ⟨v,hv⟩:∃ v,(st.take k).reverse[j / 2]?=some v:=⟨_,List.getElem?_eq_getElem (by simp;omega)⟩
 have hv':st.reverse[st.length - k+j / 2]?=some v:=by
  rw [← hv,List.reverse_take,List.getElem?_drop]
 obtain ⟨e1,e2⟩:=hc _ v hv'
 obtain ⟨g1,g2⟩:=vcs_get _ _ v hv
 rcases Nat.mod_two_eq_zero_or_one j with h2 | h2
 · have ej:j=j / 2*2:=by omega
   rw [ej,g1] at hu
   rw [← hu,show 11+(st.length - k)*2+j=11+(st.length - k+j / 2)*2 from by omega]
   exact e1
 · have ej:j=j / 2*2+1:=by omega
   rw [ej,g2] at hu
   rw [← hu,show 11+(st.length - k)*2+j=11+(st.length - k+j / 2)*2+1 from by omega]
   exact e2
structure StkArgs (w:World) (av:Value) (st:List Vl) (k fb:Nat):Prop where
 val:∃ ap,av=.slice ap k (16 - (st.length - k))∧(1≤k→ap=some ⟨fb,11+(st.length - k)*2,none⟩)
 cell:∀ j u,(vcs (st.take k).reverse)[j]?=some u→w.cell? ⟨fb,11+(st.length - k)*2+j,none⟩=some u
theorem add_plain (fb o j:Nat):(⟨fb,o,none⟩:Addr).add j=⟨fb,o+j,none⟩:=by unfold Addr.add;split <;> simp_all
theorem StkArgs.args {av:Value}{st:List Vl}{k fb:Nat} (h:StkArgs w av st k fb) (hk:k≤st.length):ArgsAt w av (st.take k).reverse fb:=by
 obtain ⟨ap,e1,e2⟩:=h.val
 have hlen:(st.take k).reverse.length=k:=by simp;omega
 refine ⟨ap,_,by rw [hlen];exact e1,fun hne=>⟨_,e2 ?_,rfl,fun j u hu=>?_⟩⟩
 · cases k with
   | zero=>simp at hne
   | succ n=>omega
 · rw [add_plain];exact h.cell j u hu
variable {w' : World}
theorem StkArgs.keep {av:Value}{st:List Vl}{k fb:Nat} (h:StkArgs w av st k fb) (hk:k≤st.length) (h16:st.length≤16) (e:∀ o,o≠43→w'.cell? ⟨fb,o,none⟩=w.cell? ⟨fb,o,none⟩):StkArgs w' av st k fb :=
 ⟨h.val,fun j u hu=>(e _ (by
  have hl:=(List.getElem?_eq_some_iff.1 hu).1
  rw [vcs_len,List.length_reverse,List.length_take,Nat.min_eq_left hk] at hl
  omega)).trans (h.cell j u hu)⟩
theorem takeArgs_any {fb:Nat}{mp kp:Option Addr}{sf:Vl}{args:List Vl}{pc:Nat}{st:List Vl}{snd:Option Nat} (h:FrRaw w fb mp kp sf args pc st snd) {k:Nat} (hk:k≤st.length) :
 Calls Tryz.prog 148 #[.pointer (some ⟨fb,0,none⟩),.int .i64 (k:Nat)] w fun e w'=>(∃ av,e=.returned av∧StkArgs w' av st k fb)∧FrRaw w' fb mp kp sf args pc (st.drop k) snd∧Chg w w' (fun k=>k=fb):=by
 have h16:=h.s16
 have ch:=h.ch
 have hfl:=h.cel.lt
 have fz:=fun o=>h.cel.free o
 obtain ⟨a,ha⟩:∃ a,st.length=a+k:=⟨st.length - k,by omega⟩
 have hak:st.length - k=a:=by omega
 have hfr:=h.take hk
 rw [hak] at hfr
 obtain ⟨ap,hsl,hap⟩:=slice_stack fb a k (by omega) ((w.setCell ⟨fb,43,none⟩ (.int .i64 (a:Nat))).drew)
 rw [ha] at ch
 simp only [Int.natCast_add] at ch
 have ha16:(a:Int)≤16:=by omega
 have hk16:(k:Int)≤16:=by omega
 have HF:Hid _:=hfr
 have HA:Hid (∀ j u,(vcs (st.take k).reverse)[j]?=some u→(w.setCell ⟨fb,43,none⟩ (.int .i64 (a:Nat))).cell? ((⟨fb,11+a*2,none⟩:Addr).add j)=some u):=by
  have hx:=vcs_rev st k hk (w:=w.setCell ⟨fb,43,none⟩ (.int .i64 (a:Nat))) (fb:=fb) (fun i v hv=>by
   have hi:=(List.getElem?_eq_some_iff.1 hv).1
   simp at hi
   exact ⟨(fo _ _ _ _ (by omega)).trans (h.cs i v hv).1,(fo _ _ _ _ (by omega)).trans (h.cs i v hv).2⟩)
  rw [hak] at hx
  exact hx
 have HP:Hid _:=hap
 clear h hfr hap hak
 go_enter Tryz.func148,Tryz.ntmps148
 go_wp2_with fail
 obtain ⟨W2,hW2⟩:∃ W2,W2=w.setCell ⟨fb,43,none⟩ (.int .i64 (a:Nat)):=⟨_,rfl⟩
 rw [← hW2] at hsl HF HA ⊢
 have HC:Hid (Chg w W2 (fun k=>k=fb)):=by
  have hx:Chg w W2 (fun k=>k=fb):=by rw [hW2];exact (Chg.refl w (fun k=>k=fb)).setCell _ _ (fun _=>rfl)
  exact hx
 have ch2:W2.cell? ⟨fb,43,none⟩=some (.int .i64 (a:Nat)):=by rw [hW2];exact cs_same ch
 have hfl2:=HF.out.cel.lt
 have hwr:IntKind.i64.wrap ((a:Int)+(k:Int))=(a:Int)+(k:Int):=by rw [IntKind.wrap_i64];omega
 clear hW2 ch fz
 refine wp_region_noPanic ?_
 refine wp_region_held_drew (S:=(fun w'=>w'.cell? ⟨fb,43,none⟩=some (.int .i64 (a:Nat)))) (by kernel_rfl) (by go_keep) (fun hHeld=>?_)
 refine tkH 0 ?_
 refine tkH 1 ?_
 refine tkH 2 ?_
 refine tkH 3 ?_
 refine tkH 4 ?_
 refine tkH 5 ?_
 refine tkH 6 ?_
 refine tkH 7 ?_
 refine tkH 8 ?_
 refine tkH 9 ?_
 refine tkH 10 ?_
 refine tkH 11 ?_
 refine tkL 12 ?_
 refine rdH 13 fun Kmac hKmac=>?_
 go_simp
 refine hKmac.go fun hHeld=>?_
 clear hKmac Kmac
 try refine lyH ?_
 refine tkL 14 ?_
 refine wpAnyH_done (by kernel_rfl) ?_ _
 refine NoPanic.normal ?_
 clear hsl
 go_wp2
 go_ret
 have hak:st.length - k=a:=by omega
 refine ⟨⟨_,rfl,⟨ap,by rw [hak];rfl,by rw [hak];exact HP.out⟩,fun j u hu=>?_⟩,HF.out.same rfl,HC.out.drew⟩
 have:=HA.out j u hu
 rw [add_plain] at this
 rw [hak]
 exact this
end Go.Proofs.YtkghmgoefiepeaaGreatDoor.reads
