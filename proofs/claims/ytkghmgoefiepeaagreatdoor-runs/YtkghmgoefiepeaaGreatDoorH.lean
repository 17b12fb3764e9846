import Derived.Deep.WholeRow
import Derived.Test.YtkghmgoefiepeaaGreatDoorProg
import Derived.OpenShut
import Derived.Laws.CopyRow
import Derived.Test.YtkghmgoefiepeaaGreatDoorG
set_option linter.all false
set_option maxHeartbeats 4000000
set_option maxRecDepth 100000
namespace Go.Proofs.Rz
open ChangeShapes WideShapes ChangeAt RowKit Kn Tryz
def SB (v:Value):Array Value:=#[v]++Array.replicate 40 (.int .u32 0)++Array.replicate 40 (.bool false)++#[.slice none 0 0]
def jI (v:Value):zeroCells157.setIfInBounds 0 v=SB v:=VE
def aV:(prog.info? 157).map (·.size)=some 82:=VE
def He (v:Value):(SB v).size=82:=by simp[SB]
def lG (w:World)(p:Option Addr)(n cap:Nat):(storeCells (VJ w.heap.size 0) (zeroCells157.toList.set 0 (.slice p n cap))).run prog (w.alloc (.cells zeroCells157 157))=.ok () (w.alloc (.cells (SB (.slice p n cap)) 157)):=by
 have h:=run_storeCells_new (P:=prog) w 157 zeroCells157 (SB (.slice p n cap)) (by rw[He];exact aV) (by rw[He];kernel_rfl) VE;rw[<- jI]at h ⊢;simpa using h
def akR (w:World)(v:Value):Wk (w.alloc (.cells (SB v) 157)) w.heap.size v (λ_=>0) (λ_=>false) (.slice none 0 0):=by
 have hb:=(Z4 w (.cells (SB v) 157)).1;refine⟨Vy,?_,λi hi=>?_,λi hi=>?_,?_,λi=>?_⟩
 . refine Iq ?_;simp[SB]
 . refine Iq ?_;show (SB v)[1+i]?=_;unfold SB;rw[Yh Vo,Yh Vo,XG Vy];simp[hi]
 . refine Iq ?_;show (SB v)[41+i]?=_;unfold SB;rw[Yh Vo,XG Vy];have e:41+i-(#[v]++Array.replicate 40 (Value.int IntKind.u32 0)).size=i:=Vy;rw[e,Array.getElem?_replicate,ZU hi]
 . refine Iq ?_;show (SB v)[81]?=_;unfold SB;rw[XG Vy];simp
 . simp only[World.frozen?,hb];simp
def alr (w:World)(ws:List (W×Nat))(v:Value):Wi w (w.alloc (.cells (SB v) 157)) ws v w.heap.size (λ_=>0) (λ_=>false) (.slice none 0 0) [] (λ_ _=>False):=by
 refine⟨akR w v,ZN _,(ZR _ _).alloc UM _,YW _ _ _ _,λi _=>Vy,λi h hm=>?_,λi hi=>(by cases hi),λx hx=>(by cases hx),λi h hi hh=>?_⟩
 . unfold NT at hm;split at hm
   . simp at hm
   . simpa using hm
 . right;right;intro hm;rw[O4 hi]at hm;simp at hm
def aaH (n:Nat):(pairs n).length=(n+1)*17:=by
 unfold pairs;rw[List.length_flatMap];simp[List.map_const']
def alC (n:Nat)(M:Nat->Nat->Bool)(h:n<=40):Gv n M<=697:=by
 have:=List.countP_le_length (p:=λp:Nat×Nat=>!M p.1 p.2) (l:=pairs n);rw[aaH]at this;unfold Gv;omega
variable {w : World}
def aco {B:Nat}{e:TypeId}{v:Value}{A:List (Nat×Nat)}{x:Nat×Nat}(h:w.ownsRow B e 2 v (A++[x]).length (P9 (A++[x]))):∃g c,v=.slice (some (VJ g 0)) (A.length+1) c/\A.length+1<=c/\c<=maxLen/\g<w.heap.size/\B<=g/\w.cell? (VJ g (A.length*2))=some (VI (x.1:Nat))/\w.cell? (VJ g (A.length*2+1))=some (VI (x.2:Nat)):=by
 have hl:(A++[x]).length=A.length+1:=Vy;have hc:=λg hg=>h.cells (g:=g) hg;rcases h.2 with⟨_,h0⟩|⟨g,c,cur,hv,hb,hg,hn,hm,_⟩
 . omega
 . subst hv
   have key:∀j u,(P9 (A++[x]))[j]?=some u->w.cell? (VJ g j)=some u:=by
    intro j u hj;have:=hc g rfl j u hj;exact ac5
   refine⟨g,c,by rw[hl],VH,hm,(Z5.1 hg).1,hb,key _ _ ?_,key _ _ ?_⟩
   . exact aiz
   . exact aiz
def vk {ws:List (W×Nat)}{H:Nat->Nat}{k:Nat}(hk:k<ws.length)(hH:H k<2 ^ 17):1<cnt (NT ws H) k 17↔H k &&& (H k-1)≠0:=by
 rw[iR]
 have hb:∀h,(H k).testBit h=true->h<=16:=λh hh=>by
  apply Zt;intro hn;have:H k<2 ^ h:=ZY hH (Yb VH VH);rw[Nat.testBit_lt_two_pow this]at hh;cases hh
 constructor
 . rintro⟨h1,h2,hlt,_,m1,m2⟩ hz;rw[O4 hk]at m1 m2;have:=(Dn 17 (H k) hH).1 hz h1 h2 m1 m2;omega
 . intro hz;have:¬∀h1 h2,(H k).testBit h1=true->(H k).testBit h2=true->h1=h2:=λh=>hz ((Dn 17 (H k) hH).2 h);obtain⟨h1,hx⟩:=Classical.not_forall.1 this;obtain⟨h2,hx⟩:=Classical.not_forall.1 hx;obtain⟨b1,hx⟩:=Classical.not_imp.1 hx;obtain⟨b2,hne⟩:=Classical.not_imp.1 hx;rcases Nat.lt_or_gt_of_ne hne with hlt|hlt
   . exact⟨h1,h2,hlt,hb h2 b2,by rw[O4 hk];exact b1,by rw[O4 hk];exact b2⟩
   . exact⟨h2,h1,hlt,hb h1 b1,by rw[O4 hk];exact b2,by rw[O4 hk];exact b1⟩
variable {w0 : World}
def abP {ws:List (W×Nat)}{vw va:Value}{b:Nat}{H:Nat->Nat}{Fd:Nat->Bool}(h:Wi w0 w ws vw b H Fd va [] (λ_ _=>False))(h0:NT ws H 0 0=true){k:Nat}(hk:k<ws.length):Wrong ws k↔(H k &&& (H k-1)≠0\/Fd k=true):=by
 have hm:Marked ws (NT ws H) Fd:=⟨h0,h.reach,h.bad⟩
 have hg:∀i j,i<ws.length->j<=16->Gone ws (NT ws H) Fd i j:=λi j hi hj=>by
  rcases h.gone i j hi hj with hf|hm|hg
  . exact hf.elim
  . cases hm
  . exact hg
 rw[yY hm hg hk,vk hk (h.hH k hk),Or.comm]
def Bj (ws:List (W×Nat))(p:Option Addr)(g cap:Nat)(w:World)(hn:ws.length<=40)(hw:KAt w p g ws)(hf:∀(i:Nat) (x:W×Nat),ws[i]?=some x->Fine x.1 ws.length)(hge:0<w.heap.size)(hE:Qc w):
 Calls prog 43 #[.slice p ws.length cap] w λe w'=>∃r:Int,e=.returned (VI r)/\Kt (Wrong ws) ws.length r/\Below w.heap.size w w':=by
 have HW:Hid _:=hw;have HF:Hid _:=hf;have HE:=UQ hE;clear hw hf hE;go_enter func43,ntmps43;have hst:=lG w p ws.length cap;go_wp2_with fail;clear hst;have hw0:=alr w ws (.slice p ws.length cap);refine(DI ws p cap w.heap.size 0 0 _ _ _ [] _ w _ hn VH VH (KY ws) Vy hw0).mono ?_;rintro e W1 ⟨rfl,H1,lj,A1,Lv,hmk,_,R2,_,_⟩
 have hU:A1.length+2*Gv ws.length (NT ws H1)<=1394:=by
  have:=alC ws.length (NT ws (λ_=>0)) hn;simp at R2;omega
 have HI:Hid _:=Lv;have HM:Hid _:=hmk;clear Lv hmk R2 hw0;go_wp2_with fail
 go_loopg [4] (A1.length+2*Gv ws.length (NT ws H1)) (λgk _ wr=>∃(H:Nat->Nat) (Fd:Nat->Bool) (va:Value) (A:List (Nat×Nat)),Wi w wr ws (.slice p ws.length cap) w.heap.size H Fd va A (λ_ _=>False)/\NT ws H 0 0=true/\gk=A.length+2*Gv ws.length (NT ws H)/\gk<=1394)
 case atStart=>exact⟨H1,_,lj,A1,HI.o,HM.o,rfl,hU⟩
 case round=>
  clear HI HM hU;obtain⟨H,Fd,va,A,Lv,hmk,rfl,hU⟩:=hrel;have HI:Hid _:=Lv;have HM:Hid _:=hmk;clear Lv hmk;have ca:=HI.o.wk.ca;have fa:=HI.o.wk.free 81;have hbl:=HI.o.wk.lt;rcases List.eq_nil_or_concat A with rfl|⟨A',x,rfl⟩
  . obtain⟨q,c,rfl⟩:=Rn HI.o.own
    have nF:Hid (∀k,k<ws.length->(Wrong ws k↔(H k &&& (H k-1)≠0\/Fd k=true))):=by
     have hx1:∀k,k<ws.length->(Wrong ws k↔(H k &&& (H k-1)≠0\/Fd k=true)):=λk hk=>abP HI.o HM.o hk;exact hx1
    have HH:=UQ HI.o.hH;go_wp2
    go_loopw [33] (λi w2=>∃k:Nat,i=VI k/\k<=ws.length/\(∀j,j<k->¬Wrong ws j)/\Wk w2 w.heap.size (.slice p ws.length cap) H Fd (.slice q 0 c)/\Below w.heap.size w w2) (λi _=>ws.length-(intOf i).toNat)
    case atStart=>exact⟨0,rfl,VH,λj h=>VH,HI.o.wk,HI.o.below⟩
    case round=>
     clear ca fa;obtain⟨k,rfl,hk,hno,hwk,Cr⟩:=hrel;have G':Hid _:=hno;have vu:Hid _:=hwk;clear hno hwk;by_cases hkn:k<ws.length
     . have c1:=vu.o.ch k VH;have c1:=vu.o.cf k VH;have cY:=HH.o k hkn;have Uq:(k:Int)<40:=VH;have tw:=afI (H k) cY;have tw2:bits .and .u32 (H k:Nat) (((H k:Int)-1) % 4294967296)=((H k &&& (H k-1):Nat):Int):=by rw[XB]at tw;exact tw
       have HK:=UQ (nF.o k hkn);obtain⟨z,hz⟩:∃z,H k &&& (H k-1)=z:=Vx;rw[hz]at tw tw2 HK;clear hz cY
       have next:∀w',Wk w' w.heap.size (.slice p ws.length cap) H Fd (.slice q 0 c)->Below w.heap.size w w'->¬Wrong ws k->∃k':Nat,Value.int IntKind.i64 ((k:Int)+1)=VI (k':Nat)/\k'<=ws.length/\(∀j,j<k'->¬Wrong ws j)/\Wk w' w.heap.size (.slice p ws.length cap) H Fd (.slice q 0 c)/\Below w.heap.size w w':=by
        intro w' Uq h2 h3;refine⟨k+1,Uu,VH,λj hj=>?_,Uq,h2⟩;by_cases e:j=k
        . subst e;exact h3
        . exact G'.o j VH
       have HN:Hid _:=next;clear next;by_cases hz:z=0
       . subst hz;cases hF:Fd k
         . rw[hF]at c1;go_wp2_with fail
           go_quiet (fail)
           go_wp2
           go_roundw
           case rel=>exact HN.o _ (vu.o.same rfl) (Cr.drewN' _) (λhwr=>by rcases HK.o.1 hwr with h|h;exact h rfl;rw[hF]at h;cases h)
           case measure=>simp[intOf]<;>omega
         . rw[hF]at c1;go_wp2_with fail
           go_quiet (fail)
           go_wp2
           go_ret
           exact⟨k,rfl,.inr ⟨k,hkn,rfl,HK.o.2 (.inr hF),G'.o⟩,Cr.drewN' _⟩
       . have tz:((z:Int) != 0)=true:=by simp;omega
         go_wp2_with fail
         go_quiet (fail)
         go_wp2
         go_ret
         exact⟨k,rfl,.inr ⟨k,hkn,rfl,HK.o.2 (.inl hz),G'.o⟩,Cr.drewN' _⟩
     . obtain rfl:k=ws.length:=by omega
       go_wp2
       go_ret
       exact⟨-1,rfl,.inl ⟨rfl,G'.o⟩,Cr⟩
  . rw[List.concat_eq_append]at HI hU;obtain⟨g2,c1,rfl,hc2,hcm,hg2,hbg,k0,k1⟩:=aco HI.o.own;have hin:=HI.o.inA x Vy;unfold maxLen at hcm;go_wp2_with fail;have hp:=(akW HI.o rfl).mono ((ZR _ _).alloc UM (.cells #[VI (x.1:Nat),VI (x.2:Nat)] 160));refine(ad2 ws p g cap w.heap.size x.1 x.2 H Fd _ A' w _ hn hin.1 hin.2.1 hin.2.2 (by simp at hU;omega) HW.o HF.o hge HE.o hp).mono ?_;rintro e W1 ⟨rfl,H1,ci,lj,A1,vx,hmono,R2⟩;have pT:Hid _:=vx;have PB:=UQ (hmono _ _ HM.o);clear hp vx hmono ca fa k0 k1;go_wp2
    go_roundg (A1.length+2*Gv ws.length (NT ws H1))
    case measure=>simp;omega
    case rel=>exact⟨H1,ci,lj,A1,pT.o,PB.o,rfl,by simp at hU;omega⟩
end Go.Proofs.Rz
namespace Go.Proofs.Iz
open Go.ChangeShapes Go.WideShapes Go.ChangeAt Go.RowKit Kn
variable {w : World}
def GZ {mb:Nat}{l:List (ByteArray×Value)}(h:D8 w mb l)(ty:TypeId):(Builtin.len_ #[55] ty #[.map (some mb)]).run Tryz.prog w=.ok (VI (l.length:Nat)) w:=by
 obtain⟨es,clock,hb,hl⟩:=h;have e:es.size=l.length:=ak2;rw[run_len_map w 55 ty mb es clock VE hb,e];rfl
def Fj {a w w':World}{row:Option Nat}(h:a.grownBy w row)(k:w.grownBy w' row):a.grownBy w' row:=
 ⟨k.os.trans h.os,k.tape.trans h.tape,k.output.trans h.output,ZC h.size k.size,λi hi hne=>(k.block i (ZY hi h.size) hne).trans (h.block i hi hne)⟩
def MI (b mb:Nat)(l:List (ByteArray×Value))(s:ByteArray)(p:Option Addr)(n:Int)(w:World)(hb:w.cell? (VJ b 0)=some (.map (some mb)))(hm:SMap w mb l):
 Calls Tryz.prog 20 #[VG b,.string s,.pointer p,VI n] w λe w'=>e=.returned (.tuple #[])/\
  SMap w' mb (put l s ((VG (w.heap.size+1))))/\w'.heap[w.heap.size]?=some (.map #[] 0)/\
  w'.heap[w.heap.size+1]?=some (.cells #[.string s,VI l.length,.pointer p,VI n,.map (some w.heap.size)] 101)/\w.grownBy w' (some mb):=by
 have hmm:=@run_makeMap Tryz.prog;have qi:SMap (w.alloc (.map #[] 0)) mb l:=hm.same (ZV _ _ _ hm.lt);have L2:=GZ (w:=w.drew) (hm.same (w':=w.drew) rfl).str;have L2:=GZ (w:=(w.alloc (.map #[] 0)).drew) (qi.same (w':=(w.alloc (.map #[] 0)).drew) rfl).str
 obtain⟨w1,hrun,hm1,hg1,hsz1⟩:=Kn.yj (P:=Tryz.prog) (w:=((w.alloc (.map #[] 0)).alloc (.cells #[.string s,VI l.length,.pointer p,VI n,.map (some w.heap.size)] 101)).drew)
  ((qi.same (ZV _ (.cells #[.string s,VI l.length,.pointer p,VI n,.map (some w.heap.size)] 101) _ qi.lt)).same rfl)
  Tryz.underlying55 Tryz.underlying9 s ((VG (w.heap.size+1)))
 have hml:=hm.lt
 have hw1:w1.heap[w.heap.size]?=some (.map #[] 0)/\w1.heap[w.heap.size+1]?=some (.cells #[.string s,VI l.length,.pointer p,VI n,.map (some w.heap.size)] 101):=by
  have h2:=(Z4 (w.alloc (.map #[] 0)) (.cells #[.string s,VI l.length,.pointer p,VI n,.map (some w.heap.size)] 101)).1;rw[ZJ]at h2;refine⟨(hg1.block _ Vo Vo).trans ((ZV _ _ _ Vy).trans (Z4 w _).1),(hg1.block _ Vy Vo).trans h2⟩
 have hg2:=Fj (Fj (Xv w _ _) (Xv _ _ _)) ⟨hg1.os,hg1.tape,hg1.output,hg1.size,hg1.block⟩
 have HW:Hid (SMap w1 mb (put l s ((VG (w.heap.size+1))))/\(w1.heap[w.heap.size]?=some (.map #[] 0)/\w1.heap[w.heap.size+1]?=some (.cells #[.string s,VI l.length,.pointer p,VI n,.map (some w.heap.size)] 101))/\w.grownBy w1 (some mb)):=⟨hm1,hw1,hg2⟩
 clear hm1 hw1 hg2 hg1 hm hsz1 qi;go_enter Tryz.func20,Tryz.ntmps20;go_wp2;have hb2:(w.alloc (.map #[] 0)).drew.cell? (VJ b 0)=some (.map (some mb)):=UG;have hbl:=ZE w (VJ b 0) hb
 go_region
 all_goals
  go_end0
  exact⟨rfl,HW.o.1,HW.o.2.1.1,HW.o.2.1.2,HW.o.2.2⟩
def KQ:Nat->List Value
 | 0=>[]
 | n+1=>.pointer none::.string ⟨#[]⟩::.pointer none::.pointer none::KQ n
def aaT (n:Int):Array Value:=(KQ 64++[Value.int .i64 n]).toArray
def Q8 (mb sb:Nat)(p n:Int):Array Value:=(.map (some mb)::.slice none 0 0::VI 0::VI 0::VI p::.map (some sb)::(KQ 64++[Value.int .i64 n])).toArray
def Pn {P:Program}{o:Oper}{a:Act}{K:Act->World->Prop}{Q:Exit->Act->World->Prop}{r r':Result Next}(h:r=r')(h2:Oper.upon P o a K Q r'):Oper.upon P o a K Q r:=h ▸ h2
def JI:ByteArray:=⟨#[65,110,121]⟩
def NH:ByteArray:=⟨#[73,110,116]⟩
def aeW (p q:Value):Kn.put (Kn.put [] ⟨#[65,110,121]⟩ p) ⟨#[73,110,116]⟩ q=[(JI,p),(NH,q)]:=by
 have e:((⟨#[73,110,116]⟩:ByteArray)==⟨#[65,110,121]⟩)=false:=(Vf _ _).2 Vy;simp[Kn.put,e,JI,NH]
structure NewAt (w':World)(s j:Nat)(a0 a1:Int):Prop where
 img:w'.heap[s+2]?=some (.cells (Q8 s (s+1) a0 a1) 70)
 cls:SMap w' s [(JI,(VG (s+4))),(NH,(VG (j+1)))]
 snd:w'.heap[s+1]?=some (.map #[] 0)
 anyM:w'.heap[s+3]?=some (.map #[] 0)
 apj:w'.heap[s+4]?=some (.cells #[.string JI,VI 0,.pointer none,VI 0,.map (some (s+3))] 101)
 apg:w'.heap[j]?=some (.map #[] 0)
 apP:w'.heap[j+1]?=some (.cells #[.string NH,VI 1,VG (s+4),VI 0,.map (some j)] 101)
 lo:s+5<=j
def lV (w:World)(p:Value)(t:TypeId)(mb:Nat)(h:SMap w mb (put [] ⟨#[65,110,121]⟩ p)):(Instr.lookup 55 (.map (some mb)) (.string ⟨#[65,110,121]⟩) false).run Tryz.prog w=.ok p w:=by
 have h1:=MF h.str Tryz.underlying55 Tryz.underlying9 (Tryz.zeroValue57 w) ⟨#[65,110,121]⟩;rw[h1];have e1:((⟨#[65,110,121]⟩:ByteArray)==⟨#[65,110,121]⟩)=true:=(SK _ _).2 rfl;simp[put,List.lookup,e1]
def akD (a0 a1:Int)(w:World)(h0:0<=a0)(h1:a0<=6)(h2:1<=a1)(h3:a1<=64)(h4:(bits BinOp.and IntKind.i64 a1 (a1-1)==0)=true):
 Calls Tryz.prog 7 #[VI a0,VI a1] w λe w'=>e=.returned (.tuple #[VG (w.heap.size+2),VI 0])/\(∃j,NewAt w' w.heap.size j a0 a1)/\Below w.heap.size w w':=by
 have hmm:=@run_makeMap Tryz.prog;go_enter Tryz.func7,Tryz.ntmps7;go_wp2_with fail
 first
  | (refine Pn (r' := .ok (.value (.agg (aaT a1))) ((w.alloc (.map #[] 0)).alloc (.map #[] 0))) VE ?_
     go_wp2_with fail;refine Pn (r':=.ok (.value (.agg (Q8 w.heap.size (w.heap.size+1) a0 a1))) ((w.alloc (.map #[] 0)).alloc (.map #[] 0))) VE ?_
     go_wp2_with fail)
  | rw[show Array.foldl (λcs x=>cs.setIfInBounds (6+x.snd) x.fst) (((Tryz.zeroCells70.setIfInBounds 0 (Value.map (some w.heap.size))).setIfInBounds 4 (Value.int IntKind.i64 a0)).setIfInBounds 5 (Value.map (some (w.heap.size+1)))) (Tryz.zeroCells67.setIfInBounds 256 (Value.int IntKind.i64 a1)).zipIdx 0 257=Q8 w.heap.size (w.heap.size+1) a0 a1 from VE]
 have hW0:(((w.alloc (.map #[] 0)).alloc (.map #[] 0)).alloc (.cells (Q8 w.heap.size (w.heap.size+1) a0 a1) 70)).heap.size=w.heap.size+3:=Vy;have k0:SMap (((w.alloc (.map #[] 0)).alloc (.map #[] 0)).alloc (.cells (Q8 w.heap.size (w.heap.size+1) a0 a1) 70)) w.heap.size []:=OL (((ZV _ _ _ Vo).trans aj8).trans (Z4 w _).1)
 have k1:(((w.alloc (.map #[] 0)).alloc (.map #[] 0)).alloc (.cells (Q8 w.heap.size (w.heap.size+1) a0 a1) 70)).heap[w.heap.size+1]?=some (.map #[] 0):=by
  have:=(Z4 (w.alloc (.map #[] 0)) (.map #[] 0)).1;exact aem
 have k2:(((w.alloc (.map #[] 0)).alloc (.map #[] 0)).alloc (.cells (Q8 w.heap.size (w.heap.size+1) a0 a1) 70)).heap[w.heap.size+2]?=some (.cells (Q8 w.heap.size (w.heap.size+1) a0 a1) 70):=by
  have:=(Z4 ((w.alloc (.map #[] 0)).alloc (.map #[] 0)) (.cells (Q8 w.heap.size (w.heap.size+1) a0 a1) 70)).1;exact gu
 have hb0:Below w.heap.size w (((w.alloc (.map #[] 0)).alloc (.map #[] 0)).alloc (.cells (Q8 w.heap.size (w.heap.size+1) a0 a1) 70)):=(((ZR _ _).alloc UM _).alloc Vy _).alloc Vo _;revert hW0 k0 k1 k2 hb0;generalize ((w.alloc (.map #[] 0)).alloc (.map #[] 0)).alloc (.cells (Q8 w.heap.size (w.heap.size+1) a0 a1) 70)=W0;intro hW0 k0 k1 k2 hb0;have c0:W0.cell? (VJ (w.heap.size+2) 0)=some (.map (some w.heap.size)):=by simp only[World.cell?,k2];rfl
 refine(MI (w.heap.size+2) w.heap.size [] ⟨#[65,110,121]⟩ none 0 W0 c0 k0).mono ?_;rintro e w1 ⟨rfl,m1,sT,xe,g1⟩;rw[hW0]at m1 sT xe;have hs1:w.heap.size+5<=w1.heap.size:=by have:=(Z5.1 xe).1;omega
 have vD:=(g1.block (w.heap.size+1) VH Vy).trans k1;have xp:=(g1.block (w.heap.size+2) VH Vy).trans k2;have hb1:=hb0.grown g1 VH Vy;have c1:w1.cell? (VJ (w.heap.size+2) 0)=some (.map (some w.heap.size)):=by simp only[World.cell?,xp];rfl
 have lk:=lV w1 _ 0 w.heap.size m1
 have HA:Hid (w1.heap[w.heap.size+3]?=some (.map #[] 0)/\w1.heap[w.heap.size+4]?=some (.cells #[.string JI,VI 0,.pointer none,VI 0,.map (some (w.heap.size+3))] 101)):=⟨sT,xe⟩
 have HK:Hid (w1.heap[w.heap.size+1]?=some (.map #[] 0)/\w1.heap[w.heap.size+2]?=some (.cells (Q8 w.heap.size (w.heap.size+1) a0 a1) 70)):=⟨vD,xp⟩
 have HM:=UQ m1;clear sT xe vD xp k1 k2 k0 hb0 g1 hW0 m1 c0;go_wp2_with fail;refine(MI (w.heap.size+2) w.heap.size _ ⟨#[73,110,116]⟩ _ 0 w1 c1 HM.o).mono ?_;rintro e w2 ⟨rfl,m1,b1,b2,g1⟩;go_wp2
 go_ret2
 obtain⟨sT,xe⟩:=HA.o;obtain⟨vD,xp⟩:=HK.o;rw[aeW]at m1;refine⟨rfl,⟨w1.heap.size,⟨(g1.block _ VH Vy).trans xp,m1,(g1.block _ VH Vy).trans vD,(g1.block _ VH Vy).trans sT,(g1.block _ VH Vy).trans xe,b1,?_,hs1⟩⟩,hb1.grown g1 VH Vy⟩;exact b2
end Go.Proofs.Iz
namespace Go.Proofs.Rz
open ChangeShapes WideShapes ChangeAt RowKit Kn Iz Tryz
def zS (w:World)(p:Nat):Prop:=w.heap[p]?=some (.cells #[.iface 194 (.agg #[])] 198)
def vX (w:World):Calls prog 85 #[] w λe w'=>e=.returned (VG w.heap.size)/\w'=w.alloc (.cells #[.iface 194 (.agg #[])] 198):=by
 go_enter func85,ntmps85;go_wp2
 go_ret
 exact KP
def UO (x:W):Bool:=decide (x.k=115\/x.k=94)
structure xB (w:World)(p:Option Addr)(g:Nat)(ws:List (W×Nat))(pl:Nat->Nat)(n:Nat):Prop where
 head:1<=ws.length->p=some (VJ g 0)
 Vb:1<=ws.length->UL w g
 c0:∀i x,ws[i]?=some x->w.cell? (VJ g (i*6))=some (VI (kindOf x.1.k:Nat))
 c1:∀i x,ws[i]?=some x->w.cell? (VJ g (i*6+1))=some (VI x.1.n)
 c2:∀i x,ws[i]?=some x->w.cell? (VJ g (i*6+2))=some (.string (VF x.1.a))
 c3:∀i x,ws[i]?=some x->w.cell? (VJ g (i*6+3))=some (.string (VF x.1.sel))
 c4:∀i x,ws[i]?=some x->w.cell? (VJ g (i*6+4))=some (.string (VF x.1.b))
 c5:∀i x,ws[i]?=some x->w.cell? (VJ g (i*6+5))=some (.pointer (if i<n/\UO x.1=true then some (VJ (pl i) 0) else none))
variable {w w' : World}
def xB.same {p:Option Addr}{g:Nat}{ws:List (W×Nat)}{pl:Nat->Nat}{n:Nat}(h:xB w p g ws pl n)(e:w'.heap[g]?=w.heap[g]?):xB w' p g ws pl n:=by
 have hc:∀o,w'.cell? (VJ g o)=w.cell? (VJ g o):=λo=>Z9 e;exact⟨h.head,λk=>(h.Vb k).same e,λi x hx=>(hc _).trans (h.c0 i x hx),λi x hx=>(hc _).trans (h.c1 i x hx),λi x hx=>(hc _).trans (h.c2 i x hx),λi x hx=>(hc _).trans (h.c3 i x hx),λi x hx=>(hc _).trans (h.c4 i x hx),λi x hx=>(hc _).trans (h.c5 i x hx)⟩
def KAt.LV {p:Option Addr}{g:Nat}{ws:List (W×Nat)}(h:KAt w p g ws)(hc:1<=ws.length->UL w g)(pl:Nat->Nat):xB w p g ws pl 0:=
 ⟨h.head,hc,h.c0,h.c1,h.c2,h.c3,h.c4,λi x hx=>by rw[ZX VH];exact h.c5 i x hx⟩
def xB.pass {p:Option Addr}{g:Nat}{ws:List (W×Nat)}{pl:Nat->Nat}{n:Nat}(h:xB w p g ws pl n){x:W×Nat}(hx:ws[n]?=some x)(hs:UO x.1=false):xB w p g ws pl (n+1):=
 ⟨h.head,h.Vb,h.c0,h.c1,h.c2,h.c3,h.c4,λi y hy=>by
  rw[h.c5 i y hy];by_cases e:i=n
  . subst e;rw[hx]at hy;injection hy with hy;subst hy;simp[hs]
  . have:(i<n+1)↔(i<n):=by omega
    simp[this]⟩
def xB.put {p:Option Addr}{g:Nat}{ws:List (W×Nat)}{pl:Nat->Nat}{n:Nat}(h:xB w p g ws pl n){x:W×Nat}(hx:ws[n]?=some x)(hs:UO x.1=true)(q:Nat):
 xB (w.setCell (VJ g (n*6+5)) (TM q)) p g ws (λi=>if i=n then q else pl i) (n+1):=by
 have ho:∀o,o≠n*6+5->(w.setCell (VJ g (n*6+5)) (TM q)).cell? (VJ g o)=w.cell? (VJ g o):=λo hne=>VD abA;refine⟨h.head,λk=>(h.Vb k).setCell _ _,λi y hy=>(ho _ VH).trans (h.c0 i y hy),λi y hy=>(ho _ VH).trans (h.c1 i y hy),λi y hy=>(ho _ VH).trans (h.c2 i y hy),λi y hy=>(ho _ VH).trans (h.c3 i y hy),λi y hy=>(ho _ VH).trans (h.c4 i y hy),λi y hy=>?_⟩;by_cases e:i=n
 . subst e;rw[hx]at hy;injection hy with hy;subst hy;rw[Vr (h.c5 i x hx)];simp[hs,TM]
 . rw[ho _ VH,h.c5 i y hy];have:(i<n+1)↔(i<n):=VH;simp[this,e]
def afF {ws:List (W×Nat)}{B:Nat}{e:TypeId}{v:Value}(h:w.ownsRow B e 6 v ws.length (Rx ws)):∃p g cap,v=.slice p ws.length cap/\KAt w p g ws/\(1<=ws.length->UL w g/\B<=g):=by
 have h0:=h;obtain⟨p,g,cap,rfl,hk⟩:=ach h;refine⟨p,g,cap,rfl,hk,λh1=>?_⟩;obtain rfl:=hk.head h1;rcases h0.2 with⟨h0,h1⟩|⟨g',cap',cur,h0,hb,hg,_⟩
 . cases h0
 . injection h0 with h0 _ _;injection h0 with h0;injection h0 with h0 _ _;subst h0;exact⟨⟨_,_,hg⟩,hb⟩
structure NC (w0 w:World)(ws:List (W×Nat))(pl:Nat->Nat)(n:Nat):Prop where
 mem:∀i x,i<n->ws[i]?=some x->UO x.1=true->zS w (pl i)/\w0.heap.size<=pl i
 inj:∀i j x y,i<n->j<n->ws[i]?=some x->ws[j]?=some y->UO x.1=true->UO y.1=true->pl i=pl j->i=j
def zS.lt {p:Nat}(h:zS w p):p<w.heap.size:=(Z5.1 h).1
variable {w0 : World}
def NC.same {ws:List (W×Nat)}{pl:Nat->Nat}{n:Nat}(h:NC w0 w ws pl n)(hs:∀k,w0.heap.size<=k->k<w.heap.size->w'.heap[k]?=w.heap[k]?):NC w0 w' ws pl n:=
 ⟨λi x hi hx xh=>by obtain⟨h1,h2⟩:=h.mem i x hi hx xh;exact⟨(hs _ h2 h1.lt).trans h1,h2⟩,h.inj⟩
def NC.pass {ws:List (W×Nat)}{pl:Nat->Nat}{n:Nat}(h:NC w0 w ws pl n){x:W×Nat}(hx:ws[n]?=some x)(hs:UO x.1=false):NC w0 w ws pl (n+1):=by
 have key:∀i y,i<n+1->ws[i]?=some y->UO y.1=true->i<n:=λi y hi hy LB=>by
  by_cases e:i=n
  . subst e;rw[hx]at hy;injection hy with hy;subst hy;rw[hs]at LB;cases LB
  . omega
 exact⟨λi y hi hy LB=>h.mem i y (key i y hi hy LB) hy LB,λi j y z hi hj hy hz LB hsz e=>h.inj i j y z (key i y hi hy LB) (key j z hj hz hsz) hy hz LB hsz e⟩
def NC.put {ws:List (W×Nat)}{pl:Nat->Nat}{n q:Nat}(h:NC w0 w ws pl n)(hs:∀k,w0.heap.size<=k->k<w.heap.size->w'.heap[k]?=w.heap[k]?)(hq:zS w' q)(hl:w.heap.size<=q)(h0:w0.heap.size<=w.heap.size):NC w0 w' ws (λi=>if i=n then q else pl i) (n+1):=by
 refine⟨λi y hi hy LB=>?_,λi j y z hi hj hy hz LB hsz e=>?_⟩
 . by_cases e:i=n
   . simp only[e,Y6];exact⟨hq,VH⟩
   . simp only[e,Zg];obtain⟨h1,h2⟩:=h.mem i y VH hy LB;exact⟨(hs _ h2 h1.lt).trans h1,h2⟩
 . by_cases ei:i=n
   . by_cases ej:j=n
     . omega
     . simp only[ei,ej,Y6,Zg]at e;have:=(h.mem j z VH hz hsz).1.lt;omega
   . by_cases ej:j=n
     . simp only[ei,ej,Y6,Zg]at e;have:=(h.mem i y VH hy LB).1.lt;omega
     . simp only[ei,ej,Zg]at e;exact h.inj i j y z VH VH hy hz LB hsz e
def Ad (ws:List (W×Nat))(p:Option Addr)(g cap:Nat)(w:World)(hn:ws.length<=40)(hw:KAt w p g ws)(XX:1<=ws.length->UL w g)(h0:∀(i:Nat) (x:W×Nat),ws[i]?=some x->Pv x.1)(hge:0<w.heap.size)(hgg:1<=ws.length->g≠0)(hE:Qc w):
 Calls prog 45 #[.slice p ws.length cap] w λe w'=>∃m pl,e=.returned (VG m)/\w'.heap[m]?=some (.cells #[.slice p ws.length cap,VI 0] 165)/\w.heap.size<=m/\
  xB w' p g ws pl ws.length/\NC w w' ws pl ws.length/\Vt w w' (λk=>k=g/\1<=ws.length):=by
 have HW:Hid (KAt w p g ws/\(1<=ws.length->UL w g)):=⟨hw,XX⟩
 have HF:Hid _:=h0;clear hw h0 XX;go_enter func45,ntmps45;go_wp2
 go_loopw [7] (λi wr=>∃(k:Nat) (pl:Nat->Nat),i=VI k/\k<=ws.length/\xB wr p g ws pl k/\NC w wr ws pl k/\Vt w wr (λj=>j=g/\1<=ws.length)) (λi _=>ws.length-(intOf i).toNat)
 case atStart=>exact⟨0,λ_=>0,rfl,VH,HW.o.1.LV HW.o.2 _,⟨λi x hi=>VH,λi j x y hi=>VH⟩,Vt.refl _ _⟩
 case round=>
  obtain⟨k,pl,rfl,hk,hm,Pr,hch⟩:=hrel
  have HM:Hid (xB wr p g ws pl k/\NC w wr ws pl k/\Vt w wr (λj=>j=g/\1<=ws.length)):=⟨hm,Pr,hch⟩
  clear hm Pr hch;by_cases hkn:k<ws.length
  . refine BH ?_;intro x hx;obtain⟨hm,Pr,hch⟩:=HM.o;have Rg:=HF.o k x hx;obtain rfl:p=some (VJ g 0):=hm.head VH;have hgl:=(hm.Vb VH).lt;have hgf:=λo=>(hm.Vb VH).free o;have c0:=hm.c0 k x hx;have c1:=hm.c1 k x hx;have c2:=hm.c2 k x hx;have c3:=hm.c3 k x hx;have c4:=hm.c4 k x hx;have c5:=hm.c5 k x hx;rw[ZX VH]at c5;obtain⟨t,l,sd,jp,st,he⟩:=vM x.1.k x.1.n Rg.kind
    have eh:Qc wr:=by
     intro a b c d e f h;have h1:=hE a b c d e f h;have hb:=hch.block 0 hge (λe=>hgg e.2 e.1.symm);exact⟨(Z9 hb).trans h1.c0,(Z9 hb).trans h1.c1,(Z9 hb).trans h1.c2,(Z9 hb).trans h1.c3,(Z9 hb).trans h1.c4⟩
    have e2:=(eh (kindOf x.1.k) t l sd jp st he.row).c2;have ft:=ZY hge hch.size;have hK:=he.lt
    have HS:Hid (UO x.1=sd):=by
     have hx1:UO x.1=sd:=by
      unfold UO
      cases sd with
      | true=>simpa using he.sends.1 rfl
      | false=>simp only[V6];intro h;have:=he.sends.2 h;cases this
     exact hx1
    have HX:Hid _:=hx;clear hx Rg he hm Pr hch eh;obtain⟨⟨xk,xn,xs,xa,xb⟩,xi⟩:=x;simp only at c0 c1 c2 c3 c4 e2 hK;obtain⟨K',D2⟩:∃K',kindOf xk=K':=Vx;rw[D2]at c0 e2 hK;clear D2;have hKi:(K':Int)<23:=VH;cases sd
    . go_wp2
      go_roundw
      case rel=>
       obtain⟨hm,Pr,hch⟩:=HM.o;exact⟨k+1,pl,Uu,VH,(hm.pass HX.o HS.o).same (ZV _ _ _ hgl),(Pr.pass HX.o HS.o).same (λj _ hj=>ZV _ _ _ hj),hch.alloc _⟩
      case measure=>simp[intOf]<;>omega
    . go_wp2_with fail;refine(vX _).mono ?_;rintro e w2 ⟨rfl,rfl⟩;go_wp2
      go_roundw
      case rel=>
       obtain⟨hm,Pr,hch⟩:=HM.o;have hg0:=(HW.o.2 VH).lt;have hsz:=hch.size;have hne:∀o o2 v,∀j,w.heap.size<=j->j<wr.heap.size->(((wr.setCell (VJ g (k*6+5)) v).alloc o).alloc o2).heap[j]?=wr.heap[j]?:=λo o2 v j hj eK=>(ZV _ _ _ xM).trans ((ZV _ _ _ xM).trans (ZW _ _ _ _ (by show j≠g;omega)));refine⟨k+1,_,Uu,VH,(hm.put HX.o HS.o (wr.heap.size+1)).same ((ZV _ _ _ xM).trans (ZV _ _ _ xM)),Pr.put (hne _ _ _) ?_ VH hsz,((hch.setCell _ _ (λ_=>apn)).alloc _).alloc _⟩;have hz:=(Z4 ((wr.setCell (VJ g (k*6+5)) ((VG (wr.heap.size+1)))).alloc (.cells #[VI K',VI xn,.string (VF xa),.string (VF xs),.string (VF xb),.pointer none] 146)) (.cells #[.iface 194 (.agg #[])] 198)).1;simp only[ZJ,World.setCell,Yz]at hz;exact hz
      case measure=>simp[intOf]<;>omega
  . obtain rfl:k=ws.length:=by omega
    obtain⟨hm,Pr,hch⟩:=HM.o;have hgl:1<=ws.length->g<wr.heap.size:=λh=>(hm.Vb h).lt;clear hm Pr hch;go_wp2
    go_ret
    obtain⟨hm,Pr,hch⟩:=HM.o;refine⟨wr.heap.size,pl,rfl,(Z4 wr _).1,hch.size,?_,Pr.same (λj _ hj=>ZV _ _ _ hj),hch.alloc _⟩;by_cases h1:1<=ws.length
    . exact hm.same (ZV _ _ _ (hgl h1))
    . have hno:∀(i:Nat) (x:W×Nat),ws[i]?≠some x:=λi x hx=>by have:=(Z7.1 hx).1;omega
      exact aj7
end Go.Proofs.Rz
namespace Go.Proofs.Rz
open ChangeShapes WideShapes ChangeAt RowKit Kn Iz Tryz
structure Ux (w:World)(sb:Nat)(l:List (ByteArray×Value))(ps:Nat->List Nat):Prop where
 map:SMap w sb l
 inn:∀s v,l.lookup s=some v->∃ib,v=.map (some ib)/\LX w ib (ps ib)/\ib≠sb
 inj:∀s t ib,l.lookup s=some (.map (some ib))->l.lookup t=some (.map (some ib))->s=t
 Vb:∀s ib p,l.lookup s=some (.map (some ib))->p∈ps ib->UL w p
def Reg (l:List (ByteArray×Value))(ps:Nat->List Nat)(s:ByteArray)(p:Nat):Prop:=∃ib,l.lookup s=some (.map (some ib))/\p∈ps ib
variable {w : World}
def UA {p b:Nat}{l:List (ByteArray×Value)}(h:UL w p)(h':SMap w b l):p≠b:=by
 rintro rfl;obtain⟨_,_,h⟩:=h;obtain⟨_,_,h',_⟩:=h';rw[h]at h';cases h'
def QO {p b:Nat}{l:List Nat}(h:UL w p)(h':LX w b l):p≠b:=by
 rintro rfl;obtain⟨_,_,h⟩:=h;obtain⟨_,_,h',_⟩:=h';rw[h]at h';cases h'
variable {w' : World}
def Ux.same {sb:Nat}{l:List (ByteArray×Value)}{ps:Nat->List Nat}(h:Ux w sb l ps)(h1:w'.heap[sb]?=w.heap[sb]?)(h2:∀s ib,l.lookup s=some (.map (some ib))->w'.heap[ib]?=w.heap[ib]?)(h3:∀p,UL w p->UL w' p):Ux w' sb l ps:=
 ⟨h.map.same h1,λs v hv=>by obtain⟨ib,rfl,h4,h5⟩:=h.inn s v hv;exact⟨ib,rfl,h4.same (h2 s ib hv),h5⟩,h.inj,λs ib p hs hp=>h3 p (h.Vb s ib p hs hp)⟩
def RN (w:World)(sb:Nat)(l:List (ByteArray×Value))(h:SMap w sb l)(s:ByteArray):(Instr.lookup 56 (.map (some sb)) (.string s) false).run prog w=.ok ((l.lookup s).getD (.map none)) w:=
 MF h.str underlying56 underlying9 (zeroValue138 w) s
def xI (ib:Nat)(w:World):(binOp .eql 138 (.map (some ib)) (.map none)).run prog w=.ok (.bool false) w:=VE
def wZ (w:World):(binOp .eql 138 (.map none) (.map none)).run prog w=.ok (.bool true) w:=VE
def oN:(prog.info? 198).map (·.size)=some 1:=VE
def Gz:Gt prog 144:=by
 have h:=oN
 cases hi:prog.info? 198 with
 | none=>rw[hi]at h;cases h
 | some i=>rw[hi]at h;simp at h;exact⟨_,i,underlying144,hi,VH⟩
def Ux.Ut {sb:Nat}{l:List (ByteArray×Value)}{ps:Nat->List Nat}{S:Nat->Prop}(h:Ux w sb l ps)(hc:Vt w w' S)(h1:¬S sb)(h2:∀s ib,l.lookup s=some (.map (some ib))->¬S ib)(h3:∀s ib p,l.lookup s=some (.map (some ib))->p∈ps ib->S p->UL w' p):Ux w' sb l ps:=by
 refine⟨h.map.same (hc.block _ h.map.lt h1),λs v hv=>?_,h.inj,λs ib p hs hp=>?_⟩
 . obtain⟨ib,rfl,h4,h5⟩:=h.inn s v hv;exact⟨ib,rfl,h4.same (hc.block _ h4.lt (h2 s ib hv)),h5⟩
 . by_cases hS:S p
   . exact h3 s ib p hs hp hS
   . exact(h.Vb s ib p hs hp).same (hc.block _ (h.Vb s ib p hs hp).lt hS)
def PL {a b:Nat}(h:(some (Value.map (some a)):Option Value)=some (.map (some b))):a=b:=Nv
def Ux.drew {sb:Nat}{l:List (ByteArray×Value)}{ps:Nat->List Nat}(h:Ux w sb l ps):Ux w.drew sb l ps:=h.same rfl (λ_ _ _=>rfl) (λ_ h=>h.same rfl)
def gU {W:World}{sb:Nat}{l:List (ByteArray×Value)}{ps:Nat->List Nat}(h:Ux W sb l ps){s:ByteArray}{ib q:Nat}(hl:l.lookup s=some (.map (some ib)))(hq:UL W q)(v:Value):
 ∃W' ps',(Instr.mapUpdate 138 (.map (some ib)) (TM q) v).run prog W=.ok () W'/\Ux W' sb l ps'/\(∀t r,Reg l ps' t r↔Reg l ps t r\/(t=s/\r=q))/\W.grownBy W' (some ib):=by
 obtain⟨cP,e,B_,hne⟩:=h.inn s _ hl;injection e with e;injection e with e;subst e;obtain⟨W',fY,hrun,hp,hmem,hg,hsz⟩:=acj (P:=prog) B_ (λp hp=>h.Vb s ib p hl hp) underlying138 Gz hq v;have keep:∀p,UL W p->UL W' p:=λp hc=>hc.same (hg.block p hc.lt (λe=>by injection e with e;exact QO hc B_ e));refine⟨W',λk=>if k=ib then fY else ps k,hrun,⟨h.map.same (hg.block _ h.map.lt (λe=>by injection e with e;exact hne e.symm)),λt u hu=>?_,h.inj,λt jb p ht hp'=>?_⟩,λt r=>?_,hg⟩
 . exact anp
 . by_cases e:jb=ib
   . subst e;simp only[Y6]at hp';rcases (hmem p).1 hp' with h4|rfl
     . exact keep p (h.Vb t jb p ht h4)
     . exact keep p hq
   . simp only[e,Zg]at hp';exact keep p (h.Vb t jb p ht hp')
 . constructor
   . rintro⟨jb,h4,h5⟩;by_cases e:jb=ib
     . subst e;simp only[Y6]at h5;rcases (hmem r).1 h5 with h8|rfl
       . exact .inl ⟨jb,h4,h8⟩
       . exact .inr ⟨h.inj t s jb h4 hl,rfl⟩
     . simp only[e,Zg]at h5;exact .inl ⟨jb,h4,h5⟩
   . rintro(⟨jb,h4,h5⟩|⟨rfl,rfl⟩)
     . by_cases e:jb=ib
       . subst e;exact⟨jb,h4,by simp only[Y6];exact(hmem r).2 (.inl h5)⟩
       . exact⟨jb,h4,by simp only[e,Zg];exact h5⟩
     . exact⟨ib,hl,by simp only[Y6];exact(hmem r).2 JQ⟩
def afj {W:World}{sb nb:Nat}{l:List (ByteArray×Value)}{ps:Nat->List Nat}(h:Ux W sb l ps){s:ByteArray}(hl:l.lookup s=none)(hn:W.heap[nb]?=some (.map #[] 0))(hfr:∀t,l.lookup t≠some (.map (some nb)))(hns:nb≠sb):
 ∃W',(Instr.mapUpdate 56 (.map (some sb)) (.string s) (.map (some nb))).run prog W=.ok () W'/\Ux W' sb (put l s (.map (some nb))) (λk=>if k=nb then [] else ps k)/\(∀t r,Reg (put l s (.map (some nb))) (λk=>if k=nb then [] else ps k) t r↔Reg l ps t r)/\W.grownBy W' (some sb):=by
 obtain⟨W',hrun,hm,hg,hsz⟩:=yj (P:=prog) h.map underlying56 underlying9 s (.map (some nb));have keep:∀p,UL W p->UL W' p:=λp hc=>hc.same (hg.block p hc.lt (λe=>aol));refine⟨W',hrun,⟨hm,λt u hu=>?_,λt1 t2 ib h1 h2=>?_,λt jb p ht hp=>?_⟩,λt r=>?_,hg⟩
 . rw[S9]at hu;by_cases e:t=s
   . rw[ZU e]at hu;injection hu with hu;refine⟨nb,hu.symm,?_,hns⟩;simp only[Y6];exact jT ((hg.block _ (Z5.1 hn).1 (λe=>by injection e with e;exact hns e)).trans hn)
   . rw[ZX e]at hu;obtain⟨jb,rfl,h4,h5⟩:=h.inn t u hu;have hj:jb≠nb:=λe=>hfr t (by rw[<- e];exact hu);exact⟨jb,rfl,by simp only[hj,Zg];exact h4.same (hg.block _ h4.lt (λe'=>by injection e' with e';exact h5 e')),h5⟩
 . rw[S9]at h1 h2;by_cases e1:t1=s
   . by_cases e2:t2=s
     . rw[e1,e2]
     . rw[ZU e1]at h1;rw[ZX e2]at h2;have h1:=PL h1;subst h1;exact absurd h2 (hfr t2)
   . rw[ZX e1]at h1;by_cases e2:t2=s
     . rw[ZU e2]at h2;have h2:=PL h2;subst h2;exact absurd h1 (hfr t1)
     . rw[ZX e2]at h2;exact h.inj t1 t2 ib h1 h2
 . rw[S9]at ht;by_cases e:t=s
   . rw[ZU e]at ht;have ht:=PL ht;subst ht;simp at hp
   . rw[ZX e]at ht;have hj:jb≠nb:=λe=>hfr t (by rw[<- e];exact ht);simp only[hj,Zg]at hp;exact keep p (h.Vb t jb p ht hp)
 . constructor
   . rintro⟨jb,h1,h2⟩;rw[S9]at h1;by_cases e:t=s
     . rw[ZU e]at h1;have h1:=PL h1;subst h1;simp at h2
     . rw[ZX e]at h1;have hj:jb≠nb:=λe=>hfr t (by rw[<- e];exact h1);simp only[hj,Zg]at h2;exact⟨jb,h1,h2⟩
   . rintro⟨jb,h1,h2⟩;have hj:jb≠nb:=λe=>hfr t (by rw[<- e];exact h1);refine⟨jb,?_,by simp only[hj,Zg];exact h2⟩;rw[S9];by_cases e:t=s
     . subst e;rw[hl]at h1;cases h1
     . rw[ZX e];exact h1
def qo {ws:List (W×Nat)}{pl:Nat->Nat}{k:Nat}{x:W×Nat}(hx:ws[k]?=some x)(hs:UO x.1=true){R0 R R':ByteArray->Nat->Prop}
 (h:∀s q,R s q↔R0 s q\/∃i x,i<k/\ws[i]?=some x/\UO x.1=true/\VF x.1.sel=s/\q=pl i) (h':∀t r,R' t r↔R t r\/t=VF x.1.sel/\r=pl k):
 ∀s q,R' s q↔R0 s q\/∃i x,i<k+1/\ws[i]?=some x/\UO x.1=true/\VF x.1.sel=s/\q=pl i:=by
 intro s q;rw[h' s q,h s q];constructor
 . rintro((h|⟨i,y,hi,h⟩)|⟨rfl,rfl⟩)
   . exact .inl h
   . exact .inr ⟨i,y,VH,h⟩
   . exact .inr ⟨k,x,VH,hx,hs,rfl,rfl⟩
 . rintro(h|⟨i,y,hi,hy,h1,h2,h3⟩)
   . exact .inl (.inl h)
   . by_cases e:i=k
     . exact ajz
     . exact .inl (.inr ⟨i,y,VH,hy,h1,h2,h3⟩)
def AL (b m sb g cap:Nat)(p:Option Addr)(ws:List (W×Nat))(pl:Nat->Nat)(l0:List (ByteArray×Value))(Sw:Nat->List Nat)(h:Int)(w:World)(hn:ws.length<=40)(hh:Go.RowKit.wrap64 (h+1)<=1)
 (hb:w.cell? (VJ b 5)=some (.map (some sb))) (hbc:UL w b) (hm:w.heap[m]?=some (.cells #[.slice p ws.length cap,VI h] 165)) (hbm:b≠m) (ke:1<=ws.length->g≠m)
 (hw:xB w p g ws pl ws.length) (hpl:∀i x,ws[i]?=some x->UO x.1=true->UL w (pl i)) (hs:Ux w sb l0 Sw):
 Calls prog 82 #[VG b,VG m] w λe w'=>e=.returned (.tuple #[])/\∃l ps,Ux w' sb l ps/\
  (∀s ib,l.lookup s=some (.map (some ib))->l0.lookup s=some (.map (some ib))\/w.heap.size<=ib)/\
  (∀s q,Reg l ps s q↔Reg l0 Sw s q\/∃i x,ws[i]?=some x/\UO x.1=true/\VF x.1.sel=s/\q=pl i)/\
  w'.heap[m]?=some (.cells #[.slice p ws.length cap,VI (Go.RowKit.wrap64 (h+1))] 165)/\Vt w w' (λk=>k=m\/k=sb\/∃s,l0.lookup s=some (.map (some k))):=by
 refine ajE ?_;intro hmc m0 m1 mf
 have HI:Hid (xB w p g ws pl ws.length/\(∀i x,ws[i]?=some x->UO x.1=true->UL w (pl i))/\Ux w sb l0 Sw/\UL w b/\w.heap[m]?=some (.cells #[.slice p ws.length cap,VI h] 165)):=⟨hw,hpl,hs,hbc,hm⟩
 have hml:=hmc.lt;clear hw hpl hs hbc hm hmc;go_enter func82,ntmps82;go_wp2
 go_loopw [23] (λi wr=>∃(k:Nat) (l:List (ByteArray×Value)) (ps:Nat->List Nat),i=VI k/\k<=ws.length/\Ux wr sb l ps/\
  (∀s ib,l.lookup s=some (.map (some ib))->l0.lookup s=some (.map (some ib))\/w.heap.size<=ib)/\
  (∀s q,Reg l ps s q↔Reg l0 Sw s q\/∃i x,i<k/\ws[i]?=some x/\UO x.1=true/\VF x.1.sel=s/\q=pl i)/\
  Vt (w.setCell (VJ m 1) (VI (Go.RowKit.wrap64 (h+1)))) wr (λk=>k=sb\/∃s,l0.lookup s=some (.map (some k)))) (λi _=>ws.length-(intOf i).toNat)
 case atStart=>
  obtain⟨hw,hpl,hs0,hbc,hm⟩:=HI.o;have hmc:UL w m:=wK;refine⟨0,l0,Sw,rfl,VH,hs0.Ut ((Vt.refl w (λk=>k=m)).setCell _ _ (λ_=>rfl)) (λe=>UA hmc hs0.map e.symm) (λs ib hs e=>?_) (λs ib q hs hq e=>by subst e;exact hmc.setCell _ _),λs ib hs=>.inl hs,λs q=>?_,Vt.refl _ _⟩
  . obtain⟨jb,e1,e2,_⟩:=hs0.inn s _ hs;injection e1 with e1;injection e1 with e1;subst e1;exact QO hmc e2 e.symm
  . exact⟨.inl,λh=>by rcases h with h|⟨i,x,hi,_⟩;exact h;omega⟩
 case round=>
  obtain⟨k,l,ps,rfl,hk,RE,hnew,q_,hch⟩:=hrel;obtain⟨hw,hpl,hs0,hbc,hm⟩:=HI.o
  have hblk:∀j,UL w j->j≠m->wr.heap[j]?=w.heap[j]?:=λj hj hjm=>
   (hch.block j aoU (λe=>by
    rcases e with e|⟨t,e⟩
    . exact UA hj hs0.map e
    . refine abz ?_;intro e2 _
      exact QO hj e2 rfl)).trans (ZW w _ _ j hjm)
  have hbr:=(Z9 (a:=(VJ b 5)) (hblk b hbc hbm)).trans hb
  have HR:Hid (Ux wr sb l ps/\(∀s ib,l.lookup s=some (.map (some ib))->l0.lookup s=some (.map (some ib))\/w.heap.size<=ib)/\
   (∀s q,Reg l ps s q↔Reg l0 Sw s q\/∃i x,i<k/\ws[i]?=some x/\UO x.1=true/\VF x.1.sel=s/\q=pl i)/\
   Vt (w.setCell (VJ m 1) (VI (Go.RowKit.wrap64 (h+1)))) wr (λk=>k=sb\/∃s,l0.lookup s=some (.map (some k)))):=⟨RE,hnew,q_,hch⟩
  clear RE hnew q_ hch;by_cases hkn:k<ws.length
  . refine BH ?_;intro x hx;obtain rfl:p=some (VJ g 0):=hw.head VH;have hwr:=hw.same (hblk g (hw.Vb VH) (ke VH));refine aa9 ?_;intro c0 c1 c2 c3 c4 c5;have HX:Hid _:=hx;cases w_:UO x.1
    . have HS:=UQ w_;rw[w_,ZX Vy]at c5;clear hwr hw hpl hs0 hbc hm hblk hx w_ hb m0 m1 mf;go_wp2
      go_roundw
      case rel=>
       obtain⟨RE,hnew,q_,hch⟩:=HR.o;refine⟨k+1,l,ps,Uu,VH,RE.Ut ((Vt.refl wr (λ_=>False)).alloc _) EZ Nh aap,hnew,λs q=>?_,hch.alloc _⟩;rw[q_ s q];refine or_congr Iff.rfl ⟨?_,?_⟩
       . rintro⟨i,y,hi,h⟩;exact⟨i,y,VH,h⟩
       . rintro⟨i,y,hi,hy,h1,h2⟩;refine⟨i,y,?_,hy,h1,h2⟩;by_cases e:i=k
         . subst e;rw[HX.o]at hy;injection hy with hy;subst hy;rw[HS.o]at h1;cases h1
         . omega
      case measure=>simp[intOf]<;>omega
    . have HS:=UQ w_;have hq:=hpl k x hx w_;rw[w_,ZU ⟨hkn,rfl⟩]at c5
      have A7:UL wr (pl k):=by
       by_cases e:pl k=m
       . rw[e]
         have hmr:=HR.o.2.2.2.block m anK (λe=>by
          have hmc:UL w m:=wK;rcases e with e|⟨t,e⟩
          . exact UA hmc hs0.map e
          . refine abz ?_;intro e2 _
            exact QO hmc e2 rfl)
         exact(UL.setCell (wK:UL w m) _ _).same hmr
       . exact hq.same (hblk _ hq e)
      have HQ:Hid (UL (wr.alloc (.cells #[VI (kindOf x.1.k:Nat),VI x.1.n,.string (VF x.1.a),.string (VF x.1.sel),.string (VF x.1.b),VG (pl k)] 146)) (pl k)):=A7.alloc _;have B5:Hid (UL (wr.alloc (.cells #[VI (kindOf x.1.k:Nat),VI x.1.n,.string (VF x.1.a),.string (VF x.1.sel),.string (VF x.1.b),VG (pl k)] 146)) b):=(hbc.same (hblk b hbc hbm)).alloc _;have hz:(wr.alloc (.cells #[VI (kindOf x.1.k:Nat),VI x.1.n,.string (VF x.1.a),.string (VF x.1.sel),.string (VF x.1.b),VG (pl k)] 146)).heap[wr.heap.size]?=some (.cells #[VI (kindOf x.1.k:Nat),VI x.1.n,.string (VF x.1.a),.string (VF x.1.sel),.string (VF x.1.b),VG (pl k)] 146):=(Z4 wr _).1;have hb0:(wr.alloc (.cells #[VI (kindOf x.1.k:Nat),VI x.1.n,.string (VF x.1.a),.string (VF x.1.sel),.string (VF x.1.b),VG (pl k)] 146)).cell? (VJ b 5)=some (.map (some sb)):=UG
      have HN:Hid (Ux (wr.alloc (.cells #[VI (kindOf x.1.k:Nat),VI x.1.n,.string (VF x.1.a),.string (VF x.1.sel),.string (VF x.1.b),VG (pl k)] 146)) sb l ps/\Vt (w.setCell (VJ m 1) (VI (Go.RowKit.wrap64 (h+1)))) (wr.alloc (.cells #[VI (kindOf x.1.k:Nat),VI x.1.n,.string (VF x.1.a),.string (VF x.1.sel),.string (VF x.1.b),VG (pl k)] 146)) (λk=>k=sb\/∃s,l0.lookup s=some (.map (some k)))):=⟨HR.o.1.Ut ((Vt.refl wr (λ_=>False)).alloc _) EZ Nh aap,HR.o.2.2.2.alloc _⟩
      clear hwr hw hpl hs0 hbc hm hblk hx w_ hb m0 m1 mf hq A7;go_wp2_with fail;clear c0 c1 c2 c3 c4 c5 hbr;revert HQ hz hb0 HN B5;generalize wr.alloc (.cells #[VI (kindOf x.1.k:Nat),VI x.1.n,.string (VF x.1.a),.string (VF x.1.sel),.string (VF x.1.b),VG (pl k)] 146)=W0;generalize wr.heap.size=z;intro HQ B5 hz hb0 HN;have z3:W0.cell? (VJ z 3)=some (.string (VF x.1.sel)):=by simp only[World.cell?,hz];rfl
      have z5:W0.cell? (VJ z 5)=some ((VG (pl k))):=by simp only[World.cell?,hz];rfl
      have HZ:Hid (UL W0 z/\UL W0 b):=⟨⟨_,_,hz⟩,B5.o⟩
      clear hz
      cases hl:l.lookup (VF x.1.sel) with
      | some v=>
       obtain⟨ib,rfl,_,_⟩:=HN.o.1.inn _ v hl;have lk:(Instr.lookup 56 (.map (some sb)) (.string (VF x.1.sel)) false).run prog W0.drew=.ok (.map (some ib)) W0.drew:=aoA;have cS:=xI ib
       go_region
       go_wp2_with fail;have Tl:(Instr.lookup 56 (.map (some sb)) (.string (VF x.1.sel)) false).run prog W0.drew.drew=.ok (.map (some ib)) W0.drew.drew:=by rw[RN W0.drew.drew sb l HN.o.1.drew.drew.map,hl];rfl
       obtain⟨W',ps',hrun,Pk,Tg,hg'⟩:=gU HN.o.1.drew.drew hl (HQ.o.same rfl) (.agg #[]);unfold TM at hrun;clear lk
       go_region
       have HW:Hid (Ux W' sb l ps'/\(∀t r,Reg l ps' t r↔Reg l ps t r\/t=VF x.1.sel/\r=pl k)/\W0.grownBy W' (some ib)/\l.lookup (VF x.1.sel)=some (.map (some ib))):=⟨Pk,Tg,⟨hg'.os,hg'.tape,hg'.output,hg'.size,hg'.block⟩,hl⟩
       clear Pk Tg hg' hl hrun Tl z3 z5 hb0;go_wp2
       go_roundw
       case rel=>
        obtain⟨_,hnew,q_,_⟩:=HR.o;obtain⟨_,hch⟩:=HN.o;obtain⟨Pk,Tg,hg',hl⟩:=HW.o;refine⟨k+1,l,ps',Uu,VH,Pk,hnew,qo HX.o HS.o q_ Tg,hch.then (Vt.QY hg') (λj hj e=>?_)⟩;subst e;rcases hnew _ _ hl with h1|h1
        . exact .inr ⟨_,h1⟩
        . simp only[World.setCell,Yz]at hj;omega
       case measure=>simp[intOf]<;>omega
      | none=>
       have lk:(Instr.lookup 56 (.map (some sb)) (.string (VF x.1.sel)) false).run prog W0.drew=.ok (.map none) W0.drew:=aoA;have cS:=wZ
       go_region
       clear lk cS;go_wp2_with fail
       have L5:Hid (Ux W0.drew sb l ps/\Vt (w.setCell (VJ m 1) (VI (Go.RowKit.wrap64 (h+1)))) W0.drew (λk=>k=sb\/∃s,l0.lookup s=some (.map (some k)))/\UL W0.drew (pl k)/\UL W0.drew z/\UL W0.drew b):=⟨HN.o.1.drew,HN.o.2.drew,HQ.o.same rfl,HZ.o.1.same rfl,HZ.o.2.same rfl⟩
       have qe:W0.drew.cell? (VJ z 3)=some (.string (VF x.1.sel)):=z3;have mC:W0.drew.cell? (VJ z 5)=some ((VG (pl k))):=z5;have hb':W0.drew.cell? (VJ b 5)=some (.map (some sb)):=hb0;clear z3 z5 hb0 HN HQ HZ;revert L5 qe mC hb';generalize W0.drew=W1;intro L5 z3 z5 hb0
       obtain⟨W2,hrun,uW,Nt,hg2⟩:=afj (W:=(W1.alloc (.map #[] 0)).drew) (nb:=W1.heap.size) ((L5.o.1.Ut ((Vt.refl W1 (λ_=>False)).alloc (.map #[] 0)) EZ Nh aap).drew) hl (Z4 W1 _).1
        (λt e=>by obtain⟨jb,e1,e2,_⟩:=L5.o.1.inn t _ e;injection e1 with e1;injection e1 with e1;have:=e2.lt;omega) (by have:=L5.o.1.map.lt;omega)
       have hmm:=@run_makeMap prog;have z3a:(W1.alloc (.map #[] 0)).drew.cell? (VJ z 3)=some (.string (VF x.1.sel)):=UG;have Mv:(W1.alloc (.map #[] 0)).drew.cell? (VJ b 5)=some (.map (some sb)):=UG
       go_region
       have XX:∀j,UL W1 j->W2.heap[j]?=W1.heap[j]?:=λj hj=>(hg2.block j (by show j<(W1.alloc _).heap.size;simp;have:=hj.lt;omega) (λe=>by injection e with e;exact UA hj L5.o.1.map e)).trans (ZV W1 _ j hj.lt);have qe:=(Z9 (a:=(VJ z 3)) (XX z L5.o.2.2.2.1)).trans z3;have mC:=(Z9 (a:=(VJ z 5)) (XX z L5.o.2.2.2.1)).trans z5;have hb':=(Z9 (a:=(VJ b 5)) (XX b L5.o.2.2.2.2)).trans hb0;have hq2:=L5.o.2.2.1.same (XX _ L5.o.2.2.1)
       have Wz:=((L5.o.2.1.alloc (.map #[] 0)).then (Vt.QY ⟨hg2.os,hg2.tape,hg2.output,hg2.size,hg2.block⟩) (λj _ e=>.inl e))
       have hl2:(put l (VF x.1.sel) (.map (some W1.heap.size))).lookup (VF x.1.sel)=some (.map (some W1.heap.size)):=by rw[S9,ZU rfl]
       have hnb:w.heap.size<=W1.heap.size:=by have:=L5.o.2.1.size;simp only[World.setCell,Yz]at this;exact this
       have FG:Hid _:=uW;have LT:Hid _:=Nt;have MD:Hid _:=Wz;clear z3 z5 hb0 L5 XX uW Nt hg2 hrun z3a Mv Wz;go_wp2_with fail;have Tl:(Instr.lookup 56 (.map (some sb)) (.string (VF x.1.sel)) false).run prog W2.drew=.ok (.map (some W1.heap.size)) W2.drew:=by rw[RN W2.drew sb _ FG.o.drew.map,hl2];rfl
       obtain⟨W',ps',hrun,Pk,Tg,hg'⟩:=gU FG.o.drew hl2 (hq2.same rfl) (.agg #[]);unfold TM at hrun
       go_region
       have HW:Hid (Ux W' sb (put l (VF x.1.sel) (.map (some W1.heap.size))) ps'/\(∀t r,Reg (put l (VF x.1.sel) (.map (some W1.heap.size))) ps' t r↔Reg (put l (VF x.1.sel) (.map (some W1.heap.size))) (λk=>if k=W1.heap.size then [] else ps k) t r\/t=VF x.1.sel/\r=pl k)/\W2.grownBy W' (some W1.heap.size)):=⟨Pk,Tg,⟨hg'.os,hg'.tape,hg'.output,hg'.size,hg'.block⟩⟩
       clear Pk Tg hg' hrun Tl qe mC hb' hq2 hl2;go_wp2
       go_roundw
       case rel=>
        obtain⟨_,hnew,q_,_⟩:=HR.o;obtain⟨Pk,Tg,hg'⟩:=HW.o;refine⟨k+1,_,ps',Uu,VH,Pk,λs ib hs=>?_,qo HX.o HS.o q_ (λt r=>by rw[Tg t r,LT.o t r]),MD.o.then (Vt.QY hg') (λj hj e=>?_)⟩
        . rw[S9]at hs;by_cases e:s=VF x.1.sel
          . rw[ZU e]at hs;have:=PL hs;exact .inr VH
          . rw[ZX e]at hs;exact hnew s ib hs
        . subst e;simp only[World.setCell,Yz]at hj;omega
       case measure=>simp[intOf]<;>omega
  . obtain rfl:k=ws.length:=by omega
    clear hblk hw hpl hs0 hbc hbr hb m0 m1 mf;go_wp2
    go_end0
    obtain⟨RE,hnew,q_,hch⟩:=HR.o;refine⟨rfl,l,ps,RE,hnew,λs q=>?_,?_,?_⟩
    . rw[q_ s q];refine or_congr Iff.rfl ⟨?_,?_⟩
      . rintro⟨i,y,hi,h⟩;exact⟨i,y,h⟩
      . rintro⟨i,y,hy,h⟩;exact⟨i,y,(Z7.1 hy).1,hy,h⟩
    . obtain⟨_,_,hs0,_,hm⟩:=HI.o;have hmc:UL w m:=wK;refine(hch.block m anK (λe=>?_)).trans ?_
      . rcases e with e|⟨t,e⟩
        . exact UA hmc hs0.map e
        . refine abz ?_;intro e2 _;exact QO hmc e2 rfl
      . simp only[World.setCell,Zz,ZU,hm];rfl
    . exact((Vt.refl w _).setCell (VJ m 1) _ Dx).then hch (λj _ e=>.inr e)
def Je (w:World)(cm:Nat)(l:List (ByteArray×Value))(h:SMap w cm l)(s:ByteArray):(Instr.lookup 99 (.map (some cm)) (.string s) false).run prog w=.ok ((l.lookup s).getD (.pointer none)) w:=
 MF h.str underlying99 underlying9 (zeroValue60 w) s
structure U1 where
 fr:Option Addr
 sel:ByteArray
 hm:Option Addr
 mt:Option Addr
def U1.val (r:U1):Value:=.agg #[.pointer r.fr,.string r.sel,.pointer r.hm,.pointer r.mt]
def noRow:U1:=⟨none,⟨#[]⟩,none,none⟩
structure TabAt (w:World)(b n:Nat)(R:Nat->U1):Prop where
 Vb:UL w b
 n1:1<=n
 n64:n<=64
 sz:w.cell? (VJ b 262)=some (VI (n:Nat))
 c0:∀i,i<64->w.cell? (VJ b (6+i*4))=some (.pointer (R i).fr)
 c1:∀i,i<64->w.cell? (VJ b (6+i*4+1))=some (.string (R i).sel)
 c2:∀i,i<64->w.cell? (VJ b (6+i*4+2))=some (.pointer (R i).hm)
 c3:∀i,i<64->w.cell? (VJ b (6+i*4+3))=some (.pointer (R i).mt)
def TabAt.same {b n:Nat}{R:Nat->U1}(h:TabAt w b n R)(e:w'.heap[b]?=w.heap[b]?):TabAt w' b n R:=by
 have hc:∀o,w'.cell? (VJ b o)=w.cell? (VJ b o):=λo=>Z9 e;exact⟨h.Vb.same e,h.n1,h.n64,(hc _).trans h.sz,λi hi=>(hc _).trans (h.c0 i hi),λi hi=>(hc _).trans (h.c1 i hi),λi hi=>(hc _).trans (h.c2 i hi),λi hi=>(hc _).trans (h.c3 i hi)⟩
def abZ:(prog.info? 64).map (·.size)=some 4:=VE
def aav (b n:Nat)(w:World)(h:n<=64):(Instr.sliceAt 65 (.pointer (some (VJ b 6))) none (some (VI (n:Nat))) none).run prog w=.ok (.slice (some (VJ b 6)) n 64) w:=by
 have hs:=abZ
 cases hi:prog.info? 64 with
 | none=>rw[hi]at hs;cases hs
 | some i=>
  rw[hi]at hs;simp at hs;have h1:¬((n:Int)<0):=VH;have h2:¬((64:Int)<(n:Int)):=VH;simp[Instr.sliceAt,Instr.sureAddr,Instr.sliceBounds,Instr.sliceBound,Zu underlying65,Go.sizeOf,typeInfo,hi,hs,h1,h2,Addr.add,h,asIntOf]
def LK (b n:Nat)(R:Nat->U1)(w:World)(h:TabAt w b n R):
 Calls prog 70 #[.pointer (some (VJ b 6))] w λe w'=>e=.returned (.slice (some (VJ b 6)) n 64)/\w'=w.drew:=by
 have hs:=h.sz;have hsl:=aav b n w.drew h.n64;clear h;go_enter func70,ntmps70;go_wp2
 go_region
 go_wp2
 go_ret
 exact KP
def TabAt.empty {b n:Nat}{R:Nat->U1}(h:TabAt w b n R){i:Nat}(hi:i<64):
 TabAt ((((w.setCell (VJ b (6+i*4)) (.pointer none)).setCell (VJ b (6+i*4+1)) (.string ⟨#[]⟩)).setCell (VJ b (6+i*4+2)) (.pointer none)).setCell (VJ b (6+i*4+3)) (.pointer none)) b n (λj=>if j=i then noRow else R j):=by
 refine aiX ?_;intro ho;refine⟨(((h.Vb.setCell _ _).setCell _ _).setCell _ _).setCell _ _,h.n1,h.n64,?_,λj hj=>?_,λj hj=>?_,λj hj=>?_,λj hj=>?_⟩
 . rw[ho _ _ _ _ VH,ho _ _ _ _ VH,ho _ _ _ _ VH,ho _ _ _ _ VH];exact h.sz
 . by_cases e:j=i
   . subst e;rw[ho _ _ _ _ VH,ho _ _ _ _ VH,ho _ _ _ _ VH,Vr (h.c0 j hj)];simp[noRow]
   . rw[ho _ _ _ _ VH,ho _ _ _ _ VH,ho _ _ _ _ VH,ho _ _ _ _ VH,h.c0 j hj];simp[e]
 . by_cases e:j=i
   . subst e;rw[ho _ _ _ _ VH,ho _ _ _ _ VH,Vr anL];simp[noRow]
   . rw[ho _ _ _ _ VH,ho _ _ _ _ VH,ho _ _ _ _ VH,ho _ _ _ _ VH,h.c1 j hj];simp[e]
 . by_cases e:j=i
   . subst e;rw[ho _ _ _ _ VH,Vr amj];simp[noRow]
   . rw[ho _ _ _ _ VH,ho _ _ _ _ VH,ho _ _ _ _ VH,ho _ _ _ _ VH,h.c2 j hj];simp[e]
 . by_cases e:j=i
   . subst e;rw[Vr aoM];simp[noRow]
   . rw[ho _ _ _ _ VH,ho _ _ _ _ VH,ho _ _ _ _ VH,ho _ _ _ _ VH,h.c3 j hj];simp[e]
structure Ih (f:Nat)(cap:Array Value)(φ:U1->Bool)(I:World->Prop)(Q:U1->Prop):Prop where
 ent:∀args W,(callFunc f args).run prog W=.ok (.enter f args) W
 says:∀W r,I W->Q r->Calls prog f (#[r.val]++cap) W λe W'=>e=.returned (.bool (φ r))/\Below W.heap.size W W'
structure UK (w w':World)(b:Nat):Prop where
 cell:∀o,o<6->w'.cell? (VJ b o)=w.cell? (VJ b o)
 typ:∀t,(∃cs,w.heap[b]?=some (.cells cs t (0,0)))->∃cs,w'.heap[b]?=some (.cells cs t (0,0))
def UK.of_block {b:Nat}(e:w'.heap[b]?=w.heap[b]?):UK w w' b:=⟨λo _=>Z9 e,λt ⟨cs,h⟩=>⟨cs,e.trans h⟩⟩
variable {w1 w2 : World}
def UK.trans {b:Nat}(h:UK w w1 b)(h':UK w1 w2 b):UK w w2 b:=⟨λo ho=>(h'.cell o ho).trans (h.cell o ho),λt ht=>h'.typ t (h.typ t ht)⟩
def UK.set {b o:Nat}(h:UK w w1 b)(ho:6<=o)(v:Value):UK w (w1.setCell (VJ b o) v) b:=h.trans ⟨λo' ho'=>VD PO,λt ⟨cs,hc⟩=>⟨_,by simp only[World.setCell,Zz,ZU,hc];rfl⟩⟩
def GX (b n f:Nat)(cap:Array Value)(φ:U1->Bool)(I:World->Prop)(Q:U1->Prop)(R:Nat->U1)(w:World)(hf:Ih f cap φ I Q)(hQ:∀i,i<n->Q (R i))(hI:∀W,Vt w W (λk=>k=b)->I W)(h:TabAt w b n R):
 Calls prog 71 #[.pointer (some (VJ b 6)),.func (.func f) #[] cap] w λe w'=>e=.returned (.tuple #[])/\
  TabAt w' b n (λi=>if i<n/\φ (R i)=true then noRow else R i)/\Vt w w' (λk=>k=b)/\UK w w' b:=by
 have HT:Hid _:=h;have h1:=h.n1;have h1:=h.n64;clear h;go_enter func71,ntmps71;go_wp2_with fail;refine(LK b n R w HT.o).mono ?_;rintro e w1 ⟨rfl,rfl⟩;go_wp2
 go_loopw [11] (λi wr=>∃k:Nat,i=VI k/\k<=n/\TabAt wr b n (λi=>if i<k/\φ (R i)=true then noRow else R i)/\Vt w wr (λk=>k=b)/\UK w wr b) (λi _=>n-(intOf i).toNat)
 case atStart=>exact⟨0,rfl,VH,by have:=HT.o.same (w':=w.drew) rfl;simpa using this,(Vt.refl w _).drew,.of_block rfl⟩
 case round=>
  obtain⟨k,rfl,hk,ht,hch,fj⟩:=hrel
  have HR:Hid (TabAt wr b n (λi=>if i<k/\φ (R i)=true then noRow else R i)/\Vt w wr (λk=>k=b)/\UK w wr b):=⟨ht,hch,fj⟩
  by_cases hkn:k<n
  . have c0:=ht.c0 k VH;have c1:=ht.c1 k VH;have c2:=ht.c2 k VH;have c3:=ht.c3 k VH;rw[ZX VH]at c0 c1 c2 c3;have hbl:=ht.Vb.lt;have hent:=hf.ent;clear ht hch fj;go_wp2_with fail;refine(hf.says _ (R k) (hI _ (HR.o.2.1.alloc _)) (hQ k hkn)).mono ?_;rintro e w1 ⟨rfl,hb2⟩;have hw2:=(hb2.block b Vo).trans (ZV wr _ b hbl);have hc2:=(HR.o.2.1.alloc _).trans (Vt.of_below hb2 _);have ht2:=HR.o.1.same hw2
    have LT:Hid (TabAt w1 b n (λi=>if i<k/\φ (R i)=true then noRow else R i)/\Vt w w1 (λk=>k=b)/\UK w w1 b):=⟨ht2,hc2,HR.o.2.2.trans (.of_block hw2)⟩
    clear hb2 hw2 hc2 c0 c1 c2 c3 hbl hent
    cases hφ:φ (R k) with
    | false=>
     have HP:Hid _:=hφ;clear ht2 hφ;go_wp2
     go_roundw
     case rel=>
      refine⟨k+1,Uu,VH,?_,LT.o.2⟩
      have e:(λi=>if i<k+1/\φ (R i)=true then noRow else R i)=(λi=>if i<k/\φ (R i)=true then noRow else R i):=by
       funext i;by_cases hi:i=k
       . subst hi;simp[HP.o]
       . have:(i<k+1)↔(i<k):=by omega
         simp[this]
      rw[e];exact LT.o.1
     case measure=>simp[intOf]<;>omega
    | true=>
     have HP:Hid _:=hφ;have c0:=ht2.c0 k VH;have c1:=ht2.c1 k VH;have c2:=ht2.c2 k VH;have c3:=ht2.c3 k VH;have pB:=λo=>ht2.Vb.free o;clear ht2 hφ;go_wp2
     go_roundw
     case rel=>
      refine⟨k+1,Uu,VH,?_,(((LT.o.2.1.setCell _ _ (λ_=>rfl)).setCell _ _ (λ_=>rfl)).setCell _ _ (λ_=>rfl)).setCell _ _ (λ_=>rfl),(((LT.o.2.2.set VH _).set VH _).set VH _).set VH _⟩
      have e:(λi=>if i<k+1/\φ (R i)=true then noRow else R i)=(λj=>if j=k then noRow else (λi=>if i<k/\φ (R i)=true then noRow else R i) j):=by
       funext i;by_cases hi:i=k
       . subst hi;simp[HP.o]
       . have:(i<k+1)↔(i<k):=by omega
         simp[this,hi]
      rw[e];exact LT.o.1.empty VH
     case measure=>simp[intOf]<;>omega
  . obtain rfl:k=n:=by omega
    clear ht hch fj;go_wp2
    go_end0
    exact⟨rfl,HR.o.1,HR.o.2.1,HR.o.2.2⟩
theorem Nc:∀k,(KQ k).length=k*4
 | 0=>rfl
 | k+1=>by simp[KQ,Nc k];omega
theorem Cj:∀(k i j:Nat),i<k->j<4->(KQ k)[i*4+j]?=([.pointer none,.string ⟨#[]⟩,.pointer none,.pointer none]:List Value)[j]?
 | 0,i,j,h,_=>VH
 | k+1,0,j,_,hj=>by
  match j,hj with
  | 0,_=>rfl
  | 1,_=>rfl
  | 2,_=>rfl
  | 3,_=>rfl
 | k+1,i+1,j,h,hj=>by
  have ih:=Cj k i j VH hj;rw[show (i+1)*4+j=i*4+j+4 from VH];exact ih
def ad9 (mb sb:Nat)(p n:Int)(o:Nat):(Q8 mb sb p n)[6+o]?=(KQ 64++[Value.int .i64 n])[o]?:=by
 rw[Nat.add_comm];unfold Q8;simp only[YF];rfl
def agp {b mb sb:Nat}{p:Int}{n:Nat}(h:w.heap[b]?=some (.cells (Q8 mb sb p (n:Nat)) 70))(h1:1<=n)(h2:n<=64):TabAt w b n (λ_=>noRow):=by
 have hc:∀o,w.cell? (VJ b (6+o))=(KQ 64++[Value.int .i64 (n:Nat)])[o]?:=λo=>by
  simp only[World.cell?,h];exact ad9 _ _ _ _ _
 have hr:∀i j,i<64->j<4->w.cell? (VJ b (6+(i*4+j)))=([.pointer none,.string ⟨#[]⟩,.pointer none,.pointer none]:List Value)[j]?:=λi j hi hj=>by
  rw[hc,ZH (by rw[Nc];omega),Cj 64 i j hi hj]
 refine⟨⟨_,_,h⟩,h1,h2,?_,λi hi=>hr i 0 hi VH,λi hi=>hr i 1 hi VH,λi hi=>hr i 2 hi VH,λi hi=>hr i 3 hi VH⟩;have:=hc 256;rw[ZP (by rw[Nc];omega),Nc]at this;exact this
def aam {b mb sb:Nat}{p n:Int}(h:w.heap[b]?=some (.cells (Q8 mb sb p n) 70)):
 w.cell? (VJ b 0)=some (.map (some mb))/\w.cell? (VJ b 1)=some (.slice none 0 0)/\w.cell? (VJ b 2)=some (VI 0)/\w.cell? (VJ b 3)=some (VI 0)/\w.cell? (VJ b 4)=some (VI p)/\w.cell? (VJ b 5)=some (.map (some sb)):=by
 refine⟨?_,?_,?_,?_,?_,?_⟩<;>(simp only[World.cell?,h];rfl)
def afw {sb:Nat}(h:w.heap[sb]?=some (.map #[] 0)):Ux w sb [] (λ_=>[]):=
 ⟨OL h,λs v hv=>by simp[List.lookup]at hv,λs t ib hs=>by simp[List.lookup]at hs,λs ib p hs=>by simp[List.lookup]at hs⟩
def Vq (c:Option Nat):Option Addr:=c.map (λb=>(VJ b 0))
def uT (w:World)(r:U1):Prop:=∃c,r.fr=Vq c/\∀b,c=some b->UL w b
def BF:(prog.info? 101).map (·.size)=some 5:=VE
def BI (w:World)(c:Option Nat)(d:Nat)(hc:∀b,c=some b->UL w b)(hd:UL w d):
 (Op.equalIn 9999 57 (.pointer (Vq c)) (VG d)).run prog w=.ok (decide (c=some d)) w:=by
 have hs:=BF
 cases hi:prog.info? 101 with
 | none=>rw[hi]at hs;cases hs
 | some i=>
  rw[hi]at hs;simp at hs
  cases c with
  | none=>
   have h0:∀n:Nat,(Op.equalIn (n+1) 57 (.pointer none) (VG d)).run prog w=.ok false w:=λn=>by simp[Op.equalIn,Zu underlying57]
   rw[show Vq none=none from rfl,h0 9998];simp
  | some b=>
   have hsa:=Hl (P:=prog) (hc b rfl) hd
   have h0:∀n:Nat,(Op.equalIn (n+1) 57 (VG b) (VG d)).run prog w=.ok (decide (b=d)) w:=λn=>by
    simp[Op.equalIn,Zu underlying57,Go.sizeOf,typeInfo,hi,hs,hsa]
   rw[show Vq (some b)=some (VJ b 0) from rfl,h0 9998];simp
def hits (c:Option Nat)(d:Nat)(t s:ByteArray):Bool:=decide (c=some d)&&decide (t=s)
def Cc (w:World)(c:Option Nat)(d:Nat)(t s:ByteArray)(hc:∀b,c=some b->UL w b)(hd:UL w d):
 ((Op.equalIn 9999 57 (.pointer (Vq c)) (VG d)).run prog w=.ok false w/\hits c d t s=false)\/
 ((Op.equalIn 9999 57 (.pointer (Vq c)) (VG d)).run prog w=.ok true w/\¬t.toList=s.toList/\hits c d t s=false)\/
 ((Op.equalIn 9999 57 (.pointer (Vq c)) (VG d)).run prog w=.ok true w/\t.toList=s.toList/\hits c d t s=true):=by
 have h:=BI w c d hc hd;by_cases e1:c=some d
 . rw[show decide (c=some d)=true from by simp[e1]]at h;by_cases e2:t=s
   . exact .inr (.inr ⟨h,by rw[e2],by simp[hits,e1,e2]⟩)
   . exact .inr (.inl ⟨h,λe=>by have:=IJ e2;rw[ZF]at this;exact this e,by simp[hits,e1,e2]⟩)
 . rw[show decide (c=some d)=false from by simp[e1]]at h;exact .inl ⟨h,by simp[hits,e1]⟩
inductive Mm where
 | no
 | one (r:U1)
 | many (q cap:Nat) (rs:List U1)
 | only
def U1.cells (r:U1):List Value:=[.pointer r.fr,.string r.sel,.pointer r.hm,.pointer r.mt]
def OH (rs:List U1):List Value:=rs.flatMap (·.cells)
def Mm.val:Mm->Value
 | .no=>.iface 194 (.agg #[])
 | .one r=>.iface 259 r.val
 | .many q cap rs=>.iface 262 (.agg #[.slice (some (VJ q 0)) rs.length cap])
 | .only=>.iface 206 (.agg #[])
def Mm.rows:Mm->List U1
 | .one r=>[r]
 | .many _ _ rs=>rs
 | _=>[]
def Mm.Ok (w:World):Mm->Prop
 | .many q cap rs=>w.ownsRow 0 64 4 (.slice (some (VJ q 0)) rs.length cap) rs.length (OH rs)
 | _=>True
def Qq {fn:Func}{p k:Tmp}(h:fn.results=#[.cell p 62,.tmp k]){tmps:Array Value}{z:Nat}(v0 v1 v:Value)(hp:tmps.getD p undef=(VG z))(hk:tmps.getD k undef=v)(z0:w.cell? (VJ z 0)=some v0)(z1:w.cell? (VJ z 1)=some v1):
 (results fn tmps).run prog w=.ok (.tuple #[.agg #[v0,v1],v]) w:=by
 exact alm
def below3 (w:World)(o1 o2 o3:Obj):Below w.heap.size w (((w.alloc o1).alloc o2).alloc o3):=(((ZR _ _).alloc UM _).alloc Vy _).alloc Vo _
def aaj (c s:Value)(w:World):Calls prog 184 #[.agg #[],.agg #[c,s]] w λe w'=>e=.returned (.tuple #[.agg #[.pointer none,.pointer none],.bool false])/\Below w.heap.size w w':=by
 go_enter func184,ntmps184;go_wp2;refine ZQ (Qq results184 _ _ _ rfl rfl (Ug _ _ _ _ 0 Vy) (Ug _ _ _ _ 1 Vy)) rfl ⟨rfl,below3 _ _ _ _⟩
def uw (c s:Value)(w:World):Calls prog 187 #[.agg #[],.agg #[c,s]] w λe w'=>e=.returned (.tuple #[.agg #[.pointer none,.pointer none],.bool false])/\Below w.heap.size w w':=by
 go_enter func187,ntmps187;go_wp2;refine ZQ (Qq results187 _ _ _ rfl rfl (Ug _ _ _ _ 0 Vy) (Ug _ _ _ _ 1 Vy)) rfl ⟨rfl,below3 _ _ _ _⟩
def oD (r:U1)(c:Option Nat)(d:Nat)(s:ByteArray)(w:World)(hr:r.fr=Vq c)(hc:∀b,c=some b->UL w b)(hd:UL w d):
 Calls prog 191 #[r.val,.agg #[VG d,.string s]] w λe w'=>e=.returned (.tuple #[.agg #[.pointer r.hm,.pointer r.mt],.bool (hits c d r.sel s)])/\Below w.heap.size w w':=by
 unfold U1.val;rw[hr];go_enter func191,ntmps191;go_wp2
 have hx:(((w.alloc (.cells #[.pointer (Vq c),.string r.sel,.pointer r.hm,.pointer r.mt] 259)).alloc (.cells #[VG d,.string s] 59)).alloc (.cells #[.pointer none,.pointer none] 62)).heap[w.heap.size]?=some (.cells #[.pointer (Vq c),.string r.sel,.pointer r.hm,.pointer r.mt] 259):=
  (ZV _ _ _ Vo).trans ((ZV _ _ _ Vy).trans (Z4 w _).1)
 have hy:(((w.alloc (.cells #[.pointer (Vq c),.string r.sel,.pointer r.hm,.pointer r.mt] 259)).alloc (.cells #[VG d,.string s] 59)).alloc (.cells #[.pointer none,.pointer none] 62)).heap[w.heap.size+1]?=some (.cells #[VG d,.string s] 59):=by
  have:=(Z4 (w.alloc (.cells #[.pointer (Vq c),.string r.sel,.pointer r.hm,.pointer r.mt] 259)) (.cells #[VG d,.string s] 59)).1;exact aem
 have hz:(((w.alloc (.cells #[.pointer (Vq c),.string r.sel,.pointer r.hm,.pointer r.mt] 259)).alloc (.cells #[VG d,.string s] 59)).alloc (.cells #[.pointer none,.pointer none] 62)).heap[w.heap.size+1+1]?=some (.cells #[.pointer none,.pointer none] 62):=by
  have:=(Z4 ((w.alloc (.cells #[.pointer (Vq c),.string r.sel,.pointer r.hm,.pointer r.mt] 259)).alloc (.cells #[VG d,.string s] 59)) (.cells #[.pointer none,.pointer none] 62)).1;exact gu
 have hb:=below3 w (.cells #[.pointer (Vq c),.string r.sel,.pointer r.hm,.pointer r.mt] 259) (.cells #[VG d,.string s] 59) (.cells #[.pointer none,.pointer none] 62);revert hx hy hz hb;generalize ((w.alloc (.cells #[.pointer (Vq c),.string r.sel,.pointer r.hm,.pointer r.mt] 259)).alloc (.cells #[VG d,.string s] 59)).alloc (.cells #[.pointer none,.pointer none] 62)=W0;intro hx hy hz hb;have hc0:∀b,c=some b->UL W0.drew b:=λb hb'=>(hc b hb').same (hb.block b (hc b hb').lt);have hd0:UL W0.drew d:=hd.same (hb.block d hd.lt);have heq:=Cc W0.drew c d r.sel s hc0 hd0;have Hb:=BI W0.drew c d hc0 hd0;have ky:=BI ((W0.setCell (VJ (w.heap.size+1+1) 0) (.pointer r.hm)).setCell (VJ (w.heap.size+1+1) 1) (.pointer r.mt)).drew c d (λb hb'=>(((hc0 b hb').setCell _ _).setCell _ _).same rfl) ((hd0.setCell _ _).setCell _ _ |>.same rfl);have x0:W0.cell? (VJ w.heap.size 0)=some (.pointer (Vq c)):=by simp only[World.cell?,hx];rfl
 have x0:W0.cell? (VJ w.heap.size 1)=some (.string r.sel):=by simp only[World.cell?,hx];rfl
 have x0:W0.cell? (VJ w.heap.size 2)=some (.pointer r.hm):=by simp only[World.cell?,hx];rfl
 have x0:W0.cell? (VJ w.heap.size 3)=some (.pointer r.mt):=by simp only[World.cell?,hx];rfl
 have y0:W0.cell? (VJ (w.heap.size+1) 0)=some (VG d):=by simp only[World.cell?,hy];rfl
 have y0:W0.cell? (VJ (w.heap.size+1) 1)=some (.string s):=by simp only[World.cell?,hy];rfl
 have z0:W0.cell? (VJ (w.heap.size+1+1) 0)=some (.pointer none):=by simp only[World.cell?,hz];rfl
 have z1:W0.cell? (VJ (w.heap.size+1+1) 1)=some (.pointer none):=by simp only[World.cell?,hz];rfl
 have zf:∀o,W0.frozen? (VJ (w.heap.size+1+1) o)=false:=λo=>UL.free ⟨_,_,hz⟩ o;clear hx hy hz hc hd;have HB:Hid _:=hb;clear hb;have t0:((W0.setCell (VJ (w.heap.size+1+1) 0) (.pointer r.hm)).setCell (VJ (w.heap.size+1+1) 1) (.pointer r.mt)).cell? (VJ (w.heap.size+1+1) 0)=some (.pointer r.hm):=(VD PO).trans (Vr z0);have t1:((W0.setCell (VJ (w.heap.size+1+1) 0) (.pointer r.hm)).setCell (VJ (w.heap.size+1+1) 1) (.pointer r.mt)).cell? (VJ (w.heap.size+1+1) 1)=some (.pointer r.mt):=Vr alb;clear hc0 hd0;rcases heq with⟨h1,h2⟩|⟨h1,h3,h2⟩|⟨h1,h3,h2⟩
 all_goals
  rw[h1]at Hb;injection Hb with Hb;rw[<- Hb]at ky;clear Hb
  go_region
  all_goals
   go_wp2;refine ZQ (Qq (z:=w.heap.size+1+1) results191 (.pointer r.hm) (.pointer r.mt) _ rfl rfl ?_ ?_) rfl ⟨?_,?_⟩
   . exact t0
   . exact t1
   . first|rfl|(rw[h2];rfl)
   . exact(HB.o.drew.setCell afc _).setCell (by show w.heap.size<=w.heap.size+1+1;omega) _
def below2 (w:World)(o1 o2:Obj):Below w.heap.size w ((w.alloc o1).alloc o2):=((ZR _ _).alloc UM _).alloc Vy _
def pF (r:U1)(n:Int)(w:World):Calls prog 186 #[.agg #[],r.val,VI n] w λe w'=>e=.returned Mm.only.val/\Below w.heap.size w w':=by
 unfold U1.val;go_enter func186,ntmps186;go_wp2
 go_ret
 exact⟨rfl,below2 _ _ _⟩
def abo (r:U1)(n:Int)(w:World):Calls prog 183 #[.agg #[],r.val,VI n] w λe w'=>e=.returned (if n=0 then Mm.only else Mm.one r).val/\Below w.heap.size w w':=by
 unfold U1.val;by_cases h:n=0
 . subst h;go_enter func183,ntmps183;go_wp2
   go_ret
   exact⟨rfl,below2 _ _ _⟩
 . have hn:(n==0)=false:=by simpa using h
   have HN:Hid _:=h;clear h;go_enter func183,ntmps183;go_wp2
   go_ret
   exact⟨by first|rfl|(rw[ZX HN.o];rfl),below2 _ _ _⟩
def CY (o r:U1)(w:World):Calls prog 190 #[o.val,r.val,VI 1] w λe w'=>e=.returned Mm.only.val/\Below w.heap.size w w':=by
 unfold U1.val;go_enter func190,ntmps190;go_wp2
 go_ret
 exact⟨rfl,below2 _ _ _⟩
def DW (o r:U1)(n:Int)(w:World)(h:n≠1):Calls prog 190 #[o.val,r.val,VI n] w λe w'=>∃q,e=.returned (Mm.many q 2 [o,r]).val/\Below w.heap.size w w'/\w.heap.size<=q/\(Mm.many q 2 [o,r]).Ok w':=by
 unfold U1.val;have hn:(n==1)=false:=Nv;clear h;go_enter func190,ntmps190;go_wp2
 go_ret
 have hz:=(Z4 ((w.alloc (.cells #[.pointer o.fr,.string o.sel,.pointer o.hm,.pointer o.mt] 259)).alloc (.cells #[.pointer r.fr,.string r.sel,.pointer r.hm,.pointer r.mt] 64)) (.cells #[.pointer o.fr,.string o.sel,.pointer o.hm,.pointer o.mt,.pointer r.fr,.string r.sel,.pointer r.hm,.pointer r.mt] 64)).1;rw[ZJ,ZJ]at hz;exact⟨w.heap.size+1+1,rfl,below3 _ _ _ _,VH,rfl,.inr ⟨_,2,_,rfl,Yy _,hz,Vy,SE,rfl,rfl⟩⟩
def Oq (v:Value)(w:World):Calls prog 185 #[.agg #[],v] w λe w'=>e=.returned Mm.only.val/\Below w.heap.size w w':=by
 go_enter func185,ntmps185;go_wp2
 go_ret
 exact zt6
def aH (v:Value)(w:World):Calls prog 182 #[.agg #[],v] w λe w'=>e=.returned Mm.no.val/\Below w.heap.size w w':=by
 go_enter func182,ntmps182;go_wp2
 go_ret
 exact zt6
def oQ (o:U1)(f:Nat)(cp:Array Value)(φ:U1->Bool)(I:World->Prop)(Q:U1->Prop)(w:World)(hf:Ih f cp φ I Q)(hQ:Q o)(hI:∀W,Vt w W (λ_=>False)->I W):
 Calls prog 189 #[o.val,.func (.func f) #[] cp] w λe w'=>e=.returned (if φ o=true then Mm.no else Mm.one o).val/\Below w.heap.size w w':=by
 obtain⟨v,hv⟩:∃v,(if φ o=true then Mm.no else Mm.one o).val=v:=Vx;rw[hv];have HV:Hid _:=hv;clear hv;have hent:=hf.ent;have n_:=hf.says (w.alloc (.cells #[.pointer o.fr,.string o.sel,.pointer o.hm,.pointer o.mt] 259)) o (hI _ ((Vt.refl w _).alloc _)) hQ;unfold U1.val at n_ ⊢;go_enter func189,ntmps189;go_wp2_with fail;refine n_.mono ?_;rintro e w1 ⟨rfl,hb1⟩;have hx:=(hb1.block _ Vy).trans (Z4 w _).1;have HB:=UQ (((ZR _ w).alloc UM _).trans amZ);have x0:w1.cell? (VJ w.heap.size 0)=some (.pointer o.fr):=by simp only[World.cell?,hx];rfl
 have x0:w1.cell? (VJ w.heap.size 1)=some (.string o.sel):=by simp only[World.cell?,hx];rfl
 have x0:w1.cell? (VJ w.heap.size 2)=some (.pointer o.hm):=by simp only[World.cell?,hx];rfl
 have x0:w1.cell? (VJ w.heap.size 3)=some (.pointer o.mt):=by simp only[World.cell?,hx];rfl
 clear hx hb1 hent n_
 cases hp:φ o with
 | true=>
  go_wp2
  go_ret
  exact⟨by rw[<- HV.o,hp];rfl,HB.o⟩
 | false=>
  go_wp2
  go_ret
  exact⟨by rw[<- HV.o,hp];rfl,HB.o⟩
end Go.Proofs.Rz
namespace Go.Proofs.Rz
open ChangeShapes WideShapes ChangeAt RowKit Kn Iz Tryz
def DK (rs:List U1):(OH rs).length=rs.length*4:=by
 induction rs with
 | nil=>rfl
 | cons r rs ih=>simp[OH,U1.cells]at ih ⊢;omega
theorem Jj:∀(rs:List U1) (i:Nat) (r:U1) (j:Nat),rs[i]?=some r->j<4->(OH rs)[i*4+j]?=r.cells[j]?
 | [],i,r,j,h,_=>vF
 | y::l,0,r,j,h,hj=>by
  simp at h;subst h;rw[Yu,YU];show (y.cells++OH l)[j]?=_;exact ZH (by simpa[U1.cells]using hj)
 | y::l,i+1,r,j,h,hj=>by
  have ih:=Jj l i r j Nv hj;show (y.cells++OH l)[(i+1)*4+j]?=_;rw[ZP (by simp[U1.cells];omega)];rw[show (i+1)*4+j-y.cells.length=i*4+j from by simp[U1.cells];omega];exact ih
structure Di (w:World)(q:Nat)(rs:List U1):Prop where
 Vb:UL w q
 c0:∀i r,rs[i]?=some r->w.cell? (VJ q (i*4))=some (.pointer r.fr)
 c1:∀i r,rs[i]?=some r->w.cell? (VJ q (i*4+1))=some (.string r.sel)
 c2:∀i r,rs[i]?=some r->w.cell? (VJ q (i*4+2))=some (.pointer r.hm)
 c3:∀i r,rs[i]?=some r->w.cell? (VJ q (i*4+3))=some (.pointer r.mt)
variable {w : World}
def Mm.Ok.rows {q cap:Nat}{rs:List U1}(h:(Mm.many q cap rs).Ok w):Di w q rs:=by
 have hc:=λk v=>World.ownsRow.cells h (g:=q) rfl k v
 have key:∀i r j v,rs[i]?=some r->j<4->r.cells[j]?=some v->w.cell? (VJ q (i*4+j))=some v:=by
  intro i r j v hr hj hv;have:=hc (i*4+j) v (by rw[Jj rs i r j hr hj];exact hv);have hadd:(VJ q 0).add (i*4+j)=(VJ q (i*4+j)):=qP;rw[hadd]at this;exact this
 refine⟨?_,λi r hr=>key i r 0 _ hr VH rfl,λi r hr=>key i r 1 _ hr VH rfl,λi r hr=>key i r 2 _ hr VH rfl,λi r hr=>key i r 3 _ hr VH rfl⟩;rcases h.2 with⟨h2,_⟩|⟨g,cap',cur,h2,hb,hg,_⟩
 . cases h2
 . injection h2 with h2 _ _;injection h2 with h2;injection h2 with h2 _ _;subst h2;exact⟨_,_,hg⟩
variable {w' : World}
def Di.same {q:Nat}{rs:List U1}(h:Di w q rs)(e:w'.heap[q]?=w.heap[q]?):Di w' q rs:=by
 have hc:∀o,w'.cell? (VJ q o)=w.cell? (VJ q o):=λo=>Z9 e;exact⟨h.Vb.same e,λi r hr=>(hc _).trans (h.c0 i r hr),λi r hr=>(hc _).trans (h.c1 i r hr),λi r hr=>(hc _).trans (h.c2 i r hr),λi r hr=>(hc _).trans (h.c3 i r hr)⟩
def Mm.Ok.same {q cap:Nat}{rs:List U1}(h:(Mm.many q cap rs).Ok w)(e:w'.heap[q]?=w.heap[q]?):(Mm.many q cap rs).Ok w':=by
 refine⟨h.1,?_⟩;rcases h.2 with⟨h2,h3⟩|⟨g,cap',cur,h2,hb,hg,h4⟩
 . exact .inl ⟨h2,h3⟩
 . refine .inr ⟨g,cap',cur,h2,hb,?_,h4⟩;injection h2 with h2 _ _;injection h2 with h2;injection h2 with h2 _ _;subst h2;exact e.trans hg
def sU (q cap d:Nat)(rs:List U1)(s:ByteArray)(w:World)(hn:rs.length<=6)(hok:(Mm.many q cap rs).Ok w)(hr:∀r∈rs,uT w r)(hd:UL w d):
 Calls prog 194 #[.agg #[.slice (some (VJ q 0)) rs.length cap],.agg #[VG d,.string s]] w λe w'=>∃h m k,e=.returned (.tuple #[.agg #[.pointer h,.pointer m],.bool k])/\
  (k=true->∃r∈rs,r.fr=some (VJ d 0)/\r.sel=s/\h=r.hm/\m=r.mt)/\Below w.heap.size w w':=by
 have HR:Hid (Di w q rs/\(∀r∈rs,uT w r)/\UL w d):=⟨hok.rows,hr,hd⟩
 have FF:=hok.rows.Vb.lt;clear hok hr hd;go_enter func194,ntmps194;go_wp2
 go_loopw [11] (λi wr=>∃k:Nat,i=VI k/\k<=rs.length/\wr.heap[w.heap.size+1]?=some (.cells #[VG d,.string s] 59)/\wr.heap[w.heap.size+1+1]?=some (.cells #[.pointer none,.pointer none] 62)/\Below w.heap.size w wr) (λi _=>rs.length-(intOf i).toNat)
 case atStart=>
  refine⟨0,rfl,VH,?_,?_,below3 _ _ _ _⟩
  . have:=(Z4 (w.alloc (.cells #[.slice (some (VJ q 0)) rs.length cap] 262)) (.cells #[VG d,.string s] 59)).1;exact aem
  . have:=(Z4 ((w.alloc (.cells #[.slice (some (VJ q 0)) rs.length cap] 262)).alloc (.cells #[VG d,.string s] 59)) (.cells #[.pointer none,.pointer none] 62)).1;exact gu
 case round=>
  obtain⟨k,rfl,hk,hy,hz,hb⟩:=hrel
  have HY:Hid (wr.heap[w.heap.size+1]?=some (.cells #[VG d,.string s] 59)/\wr.heap[w.heap.size+1+1]?=some (.cells #[.pointer none,.pointer none] 62)/\Below w.heap.size w wr):=⟨hy,hz,hb⟩
  have hzl:=(Z5.1 hz).1;have Fs:w.heap.size+1<wr.heap.size:=VH;have y0:wr.cell? (VJ (w.heap.size+1) 0)=some (VG d):=by simp only[World.cell?,hy];rfl
  have y0:wr.cell? (VJ (w.heap.size+1) 1)=some (.string s):=by simp only[World.cell?,hy];rfl
  have z0:wr.cell? (VJ (w.heap.size+1+1) 0)=some (.pointer none):=by simp only[World.cell?,hz];rfl
  have z1:wr.cell? (VJ (w.heap.size+1+1) 1)=some (.pointer none):=by simp only[World.cell?,hz];rfl
  have zf:∀o,wr.frozen? (VJ (w.heap.size+1+1) o)=false:=λo=>UL.free ⟨_,_,hz⟩ o;by_cases hkn:k<rs.length
  . obtain⟨r,Pc⟩:∃r,rs[k]?=some r:=⟨_,Z8 hkn⟩
    have Cg:=ZK Pc;obtain⟨hrows,hin,hd⟩:=HR.o;have Pe:=hrows.same (hb.block q FF);obtain⟨c,hrc,hcc⟩:=hin r Cg;have c0:=Pe.c0 k r Pc;have c1:=Pe.c1 k r Pc;have c1:=Pe.c2 k r Pc;have c1:=Pe.c3 k r Pc;rw[hrc]at c0
    have HM:Hid (r∈rs/\r.fr=Vq c):=⟨Cg,hrc⟩
    have OP:∀b,c=some b->UL (wr.alloc (.cells #[.pointer (Vq c),.string r.sel,.pointer r.hm,.pointer r.mt] 64)) b:=λb h=>((hcc b h).same (hb.block b (hcc b h).lt)).alloc _;have heq:=Cc _ c d r.sel s OP ((hd.same (hb.block d hd.lt)).alloc (.cells #[.pointer (Vq c),.string r.sel,.pointer r.hm,.pointer r.mt] 64));clear hrows hin hd Pe hcc hy hz hb Cg hrc OP Pc;rcases heq with⟨h1,h1⟩|⟨h1,h3,h1⟩|⟨h1,h3,h1⟩
    . clear h1;go_wp2
      go_roundw
      case rel=>exact⟨k+1,Uu,VH,(ZV _ _ _ VH).trans HY.o.1,(ZV _ _ _ hzl).trans HY.o.2.1,HY.o.2.2.alloc HY.o.2.2.size _⟩
      case measure=>simp[intOf]<;>omega
    . clear h1;go_wp2
      go_roundw
      case rel=>exact⟨k+1,Uu,VH,(ZV _ _ _ VH).trans HY.o.1,(ZV _ _ _ hzl).trans HY.o.2.1,HY.o.2.2.alloc HY.o.2.2.size _⟩
      case measure=>simp[intOf]<;>omega
    . have HH:=UQ h1;clear h1;have t0:∀o,(((wr.setCell (VJ (w.heap.size+1+1) 0) (.pointer r.hm)).setCell (VJ (w.heap.size+1+1) 1) (.pointer r.mt)).alloc o).cell? (VJ (w.heap.size+1+1) 0)=some (.pointer r.hm):=λo=>(Z9 (a:=(VJ (w.heap.size+1+1) 0)) (ZV _ o _ xM)).trans ((VD PO).trans (Vr z0));have t1:∀o,(((wr.setCell (VJ (w.heap.size+1+1) 0) (.pointer r.hm)).setCell (VJ (w.heap.size+1+1) 1) (.pointer r.mt)).alloc o).cell? (VJ (w.heap.size+1+1) 1)=some (.pointer r.mt):=λo=>(Z9 (a:=(VJ (w.heap.size+1+1) 1)) (ZV _ o _ xM)).trans (Vr alb);have HT0:Hid _:=t0;have Bb:Hid _:=t1;clear t0 t1;go_wp2;refine ZQ (Qq (z:=w.heap.size+1+1) results194 (.pointer r.hm) (.pointer r.mt) _ rfl rfl ?_ ?_) rfl ⟨r.hm,r.mt,true,rfl,λ_=>?_,?_⟩
      . exact HT0.o _
      . exact Bb.o _
      . have hh:=HH.o;simp only[hits,ZB,Zq]at hh;refine⟨r,HM.o.1,by rw[HM.o.2,hh.1];rfl,hh.2,rfl,rfl⟩
      . exact(((HY.o.2.2.setCell (p:=(VJ (w.heap.size+1+1) 0)) afc _).setCell (p:=(VJ (w.heap.size+1+1) 1)) (by show w.heap.size<=w.heap.size+1+1;omega) _)).alloc (by simp[World.setCell];omega) _
  . obtain rfl:k=rs.length:=by omega
    clear hy hz hb;go_wp2;refine ZQ (Qq (z:=w.heap.size+1+1) results194 (.pointer none) (.pointer none) _ rfl rfl ?_ ?_) rfl ⟨none,none,false,rfl,λh=>MO,?_⟩
    . exact(VD PO).trans (Vr z0)
    . exact Vr alb
    . exact(HY.o.2.2.setCell afc _).setCell (by show w.heap.size<=w.heap.size+1+1;omega) _
def abu:(prog.info? 64).map (λi=>(i.zero,i.size,i.bytes))=some (some (.agg #[.pointer none,.string ⟨#[]⟩,.pointer none,.pointer none]),4,40):=VE
def nC (r:U1):∀u∈r.cells,u.oneCell'=true:=by
 intro u hu;simp only[U1.cells,ZM,Zx,YE]at hu;rcases hu with rfl|rfl|rfl|rfl<;>rfl
def rV (rs:List U1)(r:U1):OH (rs++[r])=OH rs++r.cells:=by simp[OH]
def EY (q cap:Nat)(rs:List U1)(r:U1)(w:World):Calls prog 193 #[.agg #[.slice (some (VJ q 0)) rs.length cap],r.val,VI rs.length] w λe w'=>e=.returned Mm.only.val/\Below w.heap.size w w':=by
 unfold U1.val;go_enter func193,ntmps193;go_wp2
 go_ret
 exact⟨rfl,below2 _ _ _⟩
def nG (q cap:Nat)(rs:List U1)(r:U1)(n:Int)(w:World)(hn:n≠rs.length)(h6:rs.length<=6)(hok:(Mm.many q cap rs).Ok w):
 Calls prog 193 #[.agg #[.slice (some (VJ q 0)) rs.length cap],r.val,VI n] w λe w'=>∃q' cap',e=.returned (Mm.many q' cap' (rs++[r])).val/\(Mm.many q' cap' (rs++[r])).Ok w'/\(q'=q\/w.heap.size<=q')/\Vt w w' (λk=>k=q):=by
 obtain⟨i0,hi,hz0,hz1,hz2⟩:=YQ abu;have hne:((rs.length:Int)==n)=false:=Vo;have N6:=UQ hok;clear hok hn;unfold U1.val;go_enter func193,ntmps193
 have hnews:∀j u,r.cells[j]?=some u->(((w.alloc (.cells #[.slice (some (VJ q 0)) rs.length cap] 262)).alloc (.cells #[.pointer r.fr,.string r.sel,.pointer r.hm,.pointer r.mt] 64)).alloc (.cells #[.pointer r.fr,.string r.sel,.pointer r.hm,.pointer r.mt] 64)).cell? ((VJ (w.heap.size+1+1) 0).add j)=some u:=by
  have:=Us ((w.alloc (.cells #[.slice (some (VJ q 0)) rs.length cap] 262)).alloc (.cells #[.pointer r.fr,.string r.sel,.pointer r.hm,.pointer r.mt] 64)) r.cells 64;exact ady
 have mN:Hid _:=hnews;clear hnews
 go_wp2_with (first
  | (at_builtin;refine wpList_append_own_at _ rfl _ _ 139 rfl 0 64 i0 (.agg #[.pointer none,.string ⟨#[]⟩,.pointer none,.pointer none]) 4 40 underlying139 hi hz0 hz1 hz2 rfl Vz _ rs.length (OH rs) rfl (((N6.o.alloc _).alloc _).alloc _) (VJ (w.heap.size+1+1) 0) 1 1 r.cells rfl rfl mN.o (nC _) SE VH nO ?_)
  | go_in)
 intro v2 W5 hown2 Mq _ hblk
 obtain⟨g,cap',hv2⟩:∃g cap',v2=.slice (some (VJ g 0)) (rs.length+1) cap':=by
  rcases hown2.2 with⟨_,h0⟩|⟨g,cap',cur,h0,_⟩
  . omega
  . exact⟨g,cap',h0⟩
 subst hv2
 have HW:Hid ((Mm.many g cap' (rs++[r])).Ok W5/\(g=q\/w.heap.size<=g)/\Vt w W5 (λk=>k=q)):=by
  have hx1:(Mm.many g cap' (rs++[r])).Ok W5/\(g=q\/w.heap.size<=g)/\Vt w W5 (λk=>k=q):=by
   refine⟨?_,?_,?_⟩
   . show W5.ownsRow 0 64 4 (.slice (some (VJ g 0)) (rs++[r]).length cap') (rs++[r]).length (OH (rs++[r]));rw[rV,Zw];exact hown2
   . rcases hblk with h|h
     . left;simpa[Value.ownBlock]using h
     . right;simp[Value.ownBlock]at h;omega
   . exact(((Vt.refl w _).alloc _).alloc _).alloc _ |>.then (Vt.QY Mq) Qi
  exact hx1
 clear hown2 Mq hblk;go_wp2
 go_ret
 exact⟨g,cap',by simp[Mm.val],HW.o.1,HW.o.2.1,HW.o.2.2⟩
structure AV (w:World)(q cap n:Nat)(R:Nat->U1):Prop where
 blk:∃cur,w.heap[q]?=some (.cells cur 64 (0,0))/\cur.size=cap*4
 le:n<=cap
 max:cap<=maxLen
 c0:∀i,i<n->w.cell? (VJ q (i*4))=some (.pointer (R i).fr)
 c1:∀i,i<n->w.cell? (VJ q (i*4+1))=some (.string (R i).sel)
 c2:∀i,i<n->w.cell? (VJ q (i*4+2))=some (.pointer (R i).hm)
 c3:∀i,i<n->w.cell? (VJ q (i*4+3))=some (.pointer (R i).mt)
def AV.Vb {q cap n:Nat}{R:Nat->U1}(h:AV w q cap n R):UL w q:=by obtain⟨cur,h,_⟩:=h.blk;exact⟨_,_,h⟩
def AV.same {q cap n:Nat}{R:Nat->U1}(h:AV w q cap n R)(e:w'.heap[q]?=w.heap[q]?):AV w' q cap n R:=by
 have hc:∀o,w'.cell? (VJ q o)=w.cell? (VJ q o):=λo=>Z9 e;obtain⟨cur,h1,h2⟩:=h.blk;exact⟨⟨cur,e.trans h1,h2⟩,h.le,h.max,λi hi=>(hc _).trans (h.c0 i hi),λi hi=>(hc _).trans (h.c1 i hi),λi hi=>(hc _).trans (h.c2 i hi),λi hi=>(hc _).trans (h.c3 i hi)⟩
def AV.adg {q cap:Nat}{rs:List U1}(h:(Mm.many q cap rs).Ok w):AV w q cap rs.length (λi=>rs[i]?.getD noRow):=by
 have hr:=h.rows;rcases h.2 with⟨h2,_⟩|⟨g,cap',cur,h2,hb,hg,hn,hmx,hsz,htk⟩
 . cases h2
 . injection h2 with h2 _ h4;injection h2 with h2;injection h2 with h2 _ _;subst h2 h4;refine⟨⟨cur,hg,hsz⟩,hn,hmx,λi hi=>?_,λi hi=>?_,λi hi=>?_,λi hi=>?_⟩
   all_goals
    have hx:=Z8 hi;simp only[hx,YX]
   . exact hr.c0 i _ hx
   . exact hr.c1 i _ hx
   . exact hr.c2 i _ hx
   . exact hr.c3 i _ hx
def AV.ok {q cap n:Nat}{R:Nat->U1}(h:AV w q cap n R){rs:List U1}(hl:rs.length<=n)(hR:∀i r,rs[i]?=some r->R i=r):(Mm.many q cap rs).Ok w:=by
 obtain⟨cur,h1,h2⟩:=h.blk;have hle:=h.le;refine⟨DK rs,.inr ⟨q,cap,cur,rfl,Yy _,h1,VH,h.max,h2,?_⟩⟩;have hcell:∀o,w.cell? (VJ q o)=cur[o]?:=λo=>by simp only[World.cell?,h1];simp
 apply XH;intro o;by_cases ho:o<rs.length*4
 . rw[Zl ho,Zf];have hi:o / 4<rs.length:=VH;have hx:=Z8 hi;have hg:=Jj rs (o / 4) _ (o % 4) hx (Nat.mod_lt _ VH);rw[show o / 4*4+o % 4=o from VH]at hg;rw[hg,<- hcell];have pj:=hR _ _ hx;have hm:o % 4=0\/o % 4=1\/o % 4=2\/o % 4=3:=VH;rcases hm with e|e|e|e
   . have:=h.c0 (o / 4) VH;rw[show o / 4*4=o from VH,pj]at this;rw[e,this];rfl
   . have:=h.c1 (o / 4) VH;rw[show o / 4*4+1=o from VH,pj]at this;rw[e,this];rfl
   . have:=h.c2 (o / 4) VH;rw[show o / 4*4+2=o from VH,pj]at this;rw[e,this];rfl
   . have:=h.c3 (o / 4) VH;rw[show o / 4*4+3=o from VH,pj]at this;rw[e,this];rfl
 . rw[Y8 Vo,Y8 (by rw[DK];omega)]
def AV.put {q cap n:Nat}{R:Nat->U1}(h:AV w q cap n R){i:Nat}(hi:i<n)(r:U1):
 AV ((((w.setCell (VJ q (i*4)) (.pointer r.fr)).setCell (VJ q (i*4+1)) (.string r.sel)).setCell (VJ q (i*4+2)) (.pointer r.hm)).setCell (VJ q (i*4+3)) (.pointer r.mt)) q cap n (λj=>if j=i then r else R j):=by
 have ho:∀(W:World) (v:Value) (o p:Nat),o≠p->(W.setCell (VJ q p) v).cell? (VJ q o)=W.cell? (VJ q o):=λW v o p hne=>VD abA
 have hb:∀(W:World) (p:Nat) (v:Value),(∃cur,W.heap[q]?=some (.cells cur 64 (0,0))/\cur.size=cap*4)->∃cur,(W.setCell (VJ q p) v).heap[q]?=some (.cells cur 64 (0,0))/\cur.size=cap*4:=by
  rintro W p v ⟨cur,h1,h2⟩;exact⟨cur.setIfInBounds p v,by simp only[World.setCell,Zz,ZU,h1];rfl,by simpa using h2⟩
 refine⟨hb _ _ _ (hb _ _ _ (hb _ _ _ (hb _ _ _ h.blk))),h.le,h.max,λj hj=>?_,λj hj=>?_,λj hj=>?_,λj hj=>?_⟩
 . exact anm
 . exact am4
 . exact aoi
 . exact aom
def kT (w:World)(q cap n i:Nat)(R:Nat->U1)(ty:TypeId)(h:AV w q cap n R)(hi:i<n):
 ∃w',(Builtin.clear_ #[139] ty #[.slice (some (VJ q (i*4))) (n-i) (cap-i)]).run prog w=.ok (.tuple #[]) w'/\AV w' q cap i R/\w.grownBy w' (some q):=by
 obtain⟨cur,h1,h2⟩:=h.blk;have hle:=h.le
 obtain⟨m,hm⟩:∃m,n-i=m+1:=⟨n-i-1,VH⟩
 have hzl:(Builtin.zeroCells #[Value.pointer none,.string ⟨#[]⟩,.pointer none,.pointer none] (n-i)).toList.length=(n-i)*4:=by simp[Builtin.zeroCells]
 have hst:=Wv (P:=prog) q (i*4) 64 (Builtin.zeroCells #[Value.pointer none,.string ⟨#[]⟩,.pointer none,.pointer none] (n-i)).toList 0 cur w h1 (by rw[hzl];omega) (by
  intro v hv;simp only[Builtin.zeroCells,Array.toList_map,Zy]at hv;obtain⟨k,_,rfl⟩:=hv;refine aiH ?_;intro hk
  rcases hk with e|e|e|e<;>rw[e]<;>rfl)
 obtain⟨zs,hzs⟩:∃zs,(Builtin.zeroCells #[Value.pointer none,.string ⟨#[]⟩,.pointer none,.pointer none] (n-i)).toList=zs:=Vx;rw[hzs]at hst hzl;rw[Yt,hzl]at hst;have hlen:(cur.toList.take (i*4)++zs++cur.toList.drop (i*4+(n-i)*4)).toArray.size=cap*4:=by simp[hzl];omega
 have hheap:=VP w q cur (cur.toList.take (i*4)++zs++cur.toList.drop (i*4+(n-i)*4)).toArray 64 (0,0) h1
 have hget:∀o,o<i*4->(cur.toList.take (i*4)++zs++cur.toList.drop (i*4+(n-i)*4)).toArray[o]?=cur[o]?:=λo ho=>by
  simp only[YF];rw[Y1,ZH Vo,Zl ho,Zf]
 have hcell:∀o,o<i*4->(w.setRow q (cur.toList.take (i*4)++zs++cur.toList.drop (i*4+(n-i)*4)).toArray).cell? (VJ q o)=w.cell? (VJ q o):=λo ho=>by
  simp only[World.cell?,hheap,h1];simpa using hget o ho
 refine⟨w.setRow q (cur.toList.take (i*4)++zs++cur.toList.drop (i*4+(n-i)*4)).toArray,?_,⟨⟨_,hheap,hlen⟩,VH,h.max,λj hj=>?_,λj hj=>?_,λj hj=>?_,λj hj=>?_⟩,⟨rfl,rfl,rfl,agL,λk _ hk=>setRow_other _ _ _ _ (λe=>hk pI)⟩⟩
 . exact amF
 . rw[hcell _ VH];exact h.c0 j VH
 . rw[hcell _ VH];exact h.c1 j VH
 . rw[hcell _ VH];exact h.c2 j VH
 . rw[hcell _ VH];exact h.c3 j VH
def lN (q cap n f:Nat)(cp:Array Value)(φ:U1->Bool)(I:World->Prop)(Q:U1->Prop)(R:Nat->U1)(w:World)(h:AV w q cap n R)(h6:n<=6)(hf:Ih f cp φ I Q)(hQ:∀i,i<n->Q (R i))(hI:∀W,Vt w W (λ_=>False)->I W):
 Calls prog 196 #[.slice (some (VJ q 0)) n cap,.func (.func f) #[] cp] w λe w'=>∃r:Int,e=.returned (VI r)/\Below w.heap.size w w'/\
  ((r=-1/\∀i,i<n->φ (R i)=false)\/∃k:Nat,r=k/\k<n/\φ (R k)=true/\∀i,i<k->φ (R i)=false):=by
 have HT:Hid _:=h;have FF:=h.Vb.lt;clear h;go_enter func196,ntmps196;go_wp2
 go_loopw [8] (λi wr=>∃k:Nat,i=VI k/\k<=n/\(∀i,i<k->φ (R i)=false)/\Below w.heap.size w wr) (λi _=>n-(intOf i).toNat)
 case atStart=>exact⟨0,rfl,VH,λi hi=>VH,ZR _ _⟩
 case round=>
  obtain⟨k,rfl,hk,hno,hb⟩:=hrel
  have HR:Hid ((∀i,i<k->φ (R i)=false)/\Below w.heap.size w wr):=⟨hno,hb⟩
  clear hno;by_cases hkn:k<n
  . have Pe:=HT.o.same (hb.block q FF);have c0:=Pe.c0 k hkn;have c1:=Pe.c1 k hkn;have c2:=Pe.c2 k hkn;have c3:=Pe.c3 k hkn;have hent:=hf.ent;have n_:=hf.says wr (R k) (hI _ (Vt.of_below hb _)) (hQ k hkn);unfold U1.val at n_;clear Pe hb;go_wp2_with fail;refine n_.mono ?_;rintro e w2 ⟨rfl,hb2⟩;have Uv:=UQ (HR.o.2.trans (hb2.mono HR.o.2.size));clear hb2 c0 c1 c2 c3 n_ hent
    cases hp:φ (R k) with
    | true=>
     have HP:Hid _:=hp;clear hp;go_wp2
     go_ret
     exact⟨k,rfl,Uv.o,.inr ⟨k,rfl,hkn,HP.o,HR.o.1⟩⟩
    | false=>
     have HP:Hid _:=hp;clear hp;go_wp2
     go_roundw
     case rel=>
      refine⟨k+1,Uu,VH,λi hi=>?_,Uv.o⟩;by_cases e:i=k
      . subst e;exact HP.o
      . exact HR.o.1 i VH
     case measure=>simp[intOf]<;>omega
  . obtain rfl:k=n:=by omega
    clear hb;go_wp2
    go_ret
    exact⟨-1,rfl,HR.o.2,.inl ⟨rfl,HR.o.1⟩⟩
def KH (p:U1->Bool)(rs:List U1)(j:Nat)(r:U1)(h:rs[j]?=some r):(rs.take (j+1)).filter p=(rs.take j).filter p++(if p r=true then [r] else []):=by
 rw[Yc,h,Yi];congr 1;by_cases e:p r=true<;>simp[e]
def sQ (q cap f:Nat)(cp:Array Value)(φ:U1->Bool)(I:World->Prop)(Q:U1->Prop)(rs:List U1)(w:World)(h:(Mm.many q cap rs).Ok w)(h6:rs.length<=6)(hf:Ih f cp φ I Q)(hQ:∀r∈rs,Q r)(hI:∀W,Vt w W (λk=>k=q)->I W):
 Calls prog 195 #[.slice (some (VJ q 0)) rs.length cap,.func (.func f) #[] cp] w λe w'=>∃rs',rs'=rs.filter (λr=>!φ r)/\e=.returned (.slice (some (VJ q 0)) rs'.length cap)/\(Mm.many q cap rs').Ok w'/\Vt w w' (λk=>k=q):=by
 have hR:=AV.adg h;have HT:Hid _:=hR;have N6:=UQ h;have hcap:=hR.le;have hget:∀i,i<rs.length->rs[i]?.getD noRow∈rs:=λi hi=>by rw[Z8 hi];exact V9 hi
 have HQ:Hid (∀i,i<rs.length->Q (rs[i]?.getD noRow)):=by
  have hx1:∀i,i<rs.length->Q (rs[i]?.getD noRow):=λi hi=>hQ _ (hget i hi);exact hx1
 clear h hR hget hQ;go_enter func195,ntmps195;go_wp2_with fail;refine(lN q cap rs.length f cp φ I Q _ w HT.o h6 hf HQ.o (λW hW=>hI W (hW.mono (λ_ _ h=>h.elim)))).mono ?_;rintro e w1 ⟨r,rfl,hb1,hres⟩;rcases hres with⟨rfl,hno⟩|⟨k0,rfl,hk0,hk1,hk2⟩
 . go_wp2
   go_ret
   have hfl:rs.filter (λr=>!φ r)=rs:=WR.2 (λr hr=>by
    obtain⟨i,hi,rfl⟩:=WQ hr;have:=hno i hi;rw[Z8 hi]at this;simp at this
    simp[this])
   refine⟨rs,hfl.symm,rfl,N6.o.same (hb1.block q HT.o.Vb.lt),Vt.of_below hb1 _⟩
 . have HK:Hid (φ (rs[k0]?.getD noRow)=true/\∀i,i<k0->φ (rs[i]?.getD noRow)=false):=⟨hk1,hk2⟩
   have SM:Hid _:=hb1;have FF:=HT.o.Vb.lt;have eM:(k0:Int)<6:=VH;have hne:((k0:Int)==-1)=false:=Vy;clear hk1 hk2 hb1;go_wp2
   go_loopw [5,6] (λa b wr=>∃(k j:Nat) (R:Nat->U1),a=VI k/\b=VI j/\k<j/\j<=rs.length/\k=((rs.take j).filter (λr=>!φ r)).length/\AV wr q cap rs.length R/\
    (∀t r,((rs.take j).filter (λr=>!φ r))[t]?=some r->R t=r)/\(∀t,j<=t->t<rs.length->R t=rs[t]?.getD noRow)/\Vt w wr (λk=>k=q)) (λ_ b _=>rs.length-(intOf b).toNat)
   case atStart=>
    obtain⟨h1,h2⟩:=HK.o;have hx:=Z8 hk0
    have O':(rs.take k0).filter (λr=>!φ r)=rs.take k0:=WR.2 (λr hr=>by
     obtain⟨i,hi,rfl⟩:=WQ hr;have hi':i<k0:=by simp at hi;omega
     have:=h2 i hi';rw[Z8 VH]at this;simp at this
     simp[this])
    have hP:(rs.take (k0+1)).filter (λr=>!φ r)=rs.take k0:=by
     rw[KH _ rs k0 _ hx,O'];rw[hx]at h1;simp at h1;simp[h1]
    refine⟨k0,k0+1,λi=>rs[i]?.getD noRow,rfl,Uu,VH,VH,by rw[hP];simp;omega,HT.o.same (SM.o.block q FF),λt r htr=>?_,λt _ _=>rfl,Vt.of_below SM.o _⟩;rw[hP]at htr;have ht:t<k0:=by have:=(Z7.1 htr).1;simp at this;omega
    rw[Zl ht]at htr;simp[htr]
   case round=>
    obtain⟨k,j,R,rfl,rfl,hkj,hjn,hkl,I3,hR1,hR2,hch⟩:=hrel
    have HR:Hid (k=((rs.take j).filter (λr=>!φ r)).length/\AV wr q cap rs.length R/\
     (∀t r,((rs.take j).filter (λr=>!φ r))[t]?=some r->R t=r)/\(∀t,j<=t->t<rs.length->R t=rs[t]?.getD noRow)/\Vt w wr (λk=>k=q)):=⟨hkl,I3,hR1,hR2,hch⟩
    have hkn:k<rs.length:=VH;by_cases hjl:j<rs.length
    . have c0:=I3.c0 j hjl;have c1:=I3.c1 j hjl;have c2:=I3.c2 j hjl;have c3:=I3.c3 j hjl;have sE:=hR2 j UM hjl;have hx:=Z8 hjl;rw[hx]at sE;simp only[YX]at sE
      have HX:Hid (rs[j]?=some (R j)):=by
       have hx1:rs[j]?=some (R j):=by rw[sE];exact hx
       exact hx1
      have A7:=I3.Vb.lt;have hent:=hf.ent;have n_:=hf.says (wr.alloc (.cells #[.pointer (R j).fr,.string (R j).sel,.pointer (R j).hm,.pointer (R j).mt] 64)) (R j) (hI _ (hch.alloc _)) (by rw[sE];have:=HQ.o j hjl;rw[hx]at this;exact this);unfold U1.val at n_;clear hkl I3 hR1 hR2 hch sE hx;go_wp2_with fail;refine n_.mono ?_;rintro e w1 ⟨rfl,hb1⟩;have hw2:=(hb1.block q Vo).trans (ZV wr _ q A7);have hz:=(hb1.block _ Vy).trans (Z4 wr _).1
      have HW:Hid (AV w1 q cap rs.length R/\Vt w w1 (λk=>k=q)):=⟨HR.o.2.1.same hw2,(HR.o.2.2.2.2.alloc _).trans (Vt.of_below hb1 _)⟩
      clear hb1 hw2 c0 c1 c2 c3 n_ hent
      cases hp:φ (R j) with
      | true=>
       have HP:Hid _:=hp;clear hp hz;go_wp2
       go_roundw
       case rel=>
        obtain⟨hkl,I3,hR1,hR2,hch⟩:=HR.o;have hf1:=KH (λr=>!φ r) rs j (R j) HX.o;rw[HP.o]at hf1;simp at hf1;exact⟨k,j+1,R,rfl,Uu,VH,VH,by rw[hf1];exact hkl,HW.o.1,λt r htr=>hR1 t r (by rw[hf1]at htr;exact htr),λt h1 h2=>hR2 t VH h2,HW.o.2⟩
       case measure=>simp[intOf]<;>omega
      | false=>
       have HP:Hid _:=hp;have z0:w1.cell? (VJ wr.heap.size 0)=some (.pointer (R j).fr):=by simp only[World.cell?,hz];rfl
       have z0:w1.cell? (VJ wr.heap.size 1)=some (.string (R j).sel):=by simp only[World.cell?,hz];rfl
       have z0:w1.cell? (VJ wr.heap.size 2)=some (.pointer (R j).hm):=by simp only[World.cell?,hz];rfl
       have z0:w1.cell? (VJ wr.heap.size 3)=some (.pointer (R j).mt):=by simp only[World.cell?,hz];rfl
       have k0':=HW.o.1.c0 k hkn;have vD:=HW.o.1.c1 k hkn;have xp:=HW.o.1.c2 k hkn;have k3':=HW.o.1.c3 k hkn;have kf:=λo=>HW.o.1.Vb.free o;have cA:(k:Int)<6:=VH;clear hp hz;go_wp2
       go_roundw
       case rel=>
        obtain⟨hkl,I3,hR1,hR2,hch⟩:=HR.o;have hf1:=KH (λr=>!φ r) rs j (R j) HX.o;rw[HP.o]at hf1;simp at hf1;refine⟨k+1,j+1,_,Uu,Uu,VH,VH,by rw[hf1];simp;exact hkl,HW.o.1.put hkn (R j),λt r htr=>?_,λt h1 h2=>?_,(((HW.o.2.setCell _ _ (λ_=>rfl)).setCell _ _ (λ_=>rfl)).setCell _ _ (λ_=>rfl)).setCell _ _ (λ_=>rfl)⟩
        . rw[hf1]at htr;by_cases e:t=k
          . subst e;rw[ZP VH,<- hkl]at htr;simp at htr;simp[htr]
          . simp only[e,Zg]
            have ht:t<k:=by
             have:=(Z7.1 htr).1;simp at this;omega
            rw[ZH VH]at htr;exact hR1 t r htr
        . have:t≠k:=by omega
          simp only[this,Zg];exact hR2 t VH h2
       case measure=>simp[intOf]<;>omega
    . obtain rfl:j=rs.length:=by omega
      obtain⟨wc,aqb,sn,xd⟩:=kT wr q cap rs.length k R 0 I3 hkn;have hkc:(k:Int)<=(cap:Int):=VH
      have HC:Hid (AV wc q cap k R/\wr.grownBy wc (some q)):=⟨sn,xd⟩
      clear hkl I3 hR1 hR2 hch sn xd;go_wp2
      go_ret
      obtain⟨hkl,I3,hR1,hR2,hch⟩:=HR.o;rw[Yv]at hkl hR1;exact⟨_,rfl,by rw[<- hkl];rfl,HC.o.1.ok VH hR1,hch.then (Vt.QY HC.o.2) Qi⟩
def uH (q cap f:Nat)(cp:Array Value)(φ:U1->Bool)(I:World->Prop)(Q:U1->Prop)(rs:List U1)(w:World)(h:(Mm.many q cap rs).Ok w)(h6:rs.length<=6)(hf:Ih f cp φ I Q)(hQ:∀r∈rs,Q r)(hI:∀W,Vt w W (λk=>k=q)->I W):
 Calls prog 192 #[.agg #[.slice (some (VJ q 0)) rs.length cap],.func (.func f) #[] cp] w λe w'=>e=.returned (Mm.many q cap (rs.filter (λr=>!φ r))).val/\(Mm.many q cap (rs.filter (λr=>!φ r))).Ok w'/\Vt w w' (λk=>k=q):=by
 obtain⟨rs',hrs⟩:∃rs',rs.filter (λr=>!φ r)=rs':=Vx;rw[hrs];have FF:=h.rows.Vb.lt;have hdel:=sQ q cap f cp φ I Q rs (w.alloc (.cells #[.slice (some (VJ q 0)) rs.length cap] 262)) (h.same (ZV w _ q FF)) h6 hf hQ (λW hW=>hI W (((Vt.refl w _).alloc _).then hW Qi));rw[hrs]at hdel;have HRS:Hid _:=hrs;clear hrs h;go_enter func192,ntmps192;go_wp2_with fail;refine hdel.mono ?_;rintro e w1 ⟨b8,hr2,rfl,hok,hch⟩;subst hr2
 have HX:Hid ((Mm.many q cap b8).Ok w1/\Vt w w1 (λk=>k=q)):=⟨hok,((Vt.refl w _).alloc _).then hch Qi⟩
 clear hok hch;go_wp2
 go_ret
 exact⟨rfl,HX.o.1,HX.o.2⟩
end Go.Proofs.Rz
namespace Go.Proofs.Rz
open ChangeShapes WideShapes ChangeAt RowKit Kn Iz Tryz
variable {bd : Nat}
def Mm.arr:Mm->Option Nat
 | .many q _ _=>some q
 | _=>none
def Mm.forget (φ:U1->Bool):Mm->Mm
 | .one r=>if φ r=true then .no else .one r
 | .many q cap rs=>.many q cap (rs.filter (λr=>!φ r))
 | m=>m
def Mm.KR {φ:U1->Bool}{m:Mm}{r:U1}(h:r∈(m.forget φ).rows):r∈m.rows/\φ r=false:=by
 cases m with
 | no=>cases h
 | only=>cases h
 | one o=>
  simp only[Mm.forget]at h;by_cases e:φ o=true
  . rw[ZU e]at h;cases h
  . rw[ZX e]at h;simp[Mm.rows]at h;subst h;exact⟨oV,by simpa using e⟩
 | many q cap rs=>
  simp only[Mm.forget,Mm.rows,XM]at h ⊢;exact⟨h.1,by simpa using h.2⟩
def Mm.QH (φ:U1->Bool)(m:Mm):(m.forget φ).arr=none\/(m.forget φ).arr=m.arr:=by
 cases m with
 | no=>exact .inl rfl
 | only=>exact .inl rfl
 | one o=>unfold Mm.forget;by_cases e:φ o=true<;>simp[e,Mm.arr]
 | many q cap rs=>exact .inr rfl
def Mm.Ig (φ:U1->Bool)(m:Mm):(m.forget φ).forget φ=m.forget φ:=by
 cases m with
 | no=>rfl
 | only=>rfl
 | one o=>
  unfold Mm.forget;by_cases e:φ o=true
  . simp[e]
  . simp[e]
 | many q cap rs=>simp[Mm.forget]
def Mm.Oq {φ:U1->Bool}{m:Mm}:m.forget φ=.only↔m=.only:=by
 cases m with
 | no=>simp[Mm.forget]
 | only=>simp[Mm.forget]
 | one o=>unfold Mm.forget;by_cases e:φ o=true<;>simp[e]
 | many q cap rs=>simp[Mm.forget]
structure Sm (bd:Nat)(w:World)(L:List (Nat×ByteArray))(pm:Nat->Mm)(Sd:ByteArray->U1->Prop):Prop where
 b6:bd<=6
 nd:(L.map (·.1)).Nodup
 at_:∀p s,(p,s)∈L->w.heap[p]?=some (.cells #[(pm p).val] 198)
 ok:∀p s,(p,s)∈L->(pm p).Ok w/\(pm p).rows.length<=bd
 rows:∀p s r,(p,s)∈L->r∈(pm p).rows->Sd s r
 arr:∀p s p' s' q,(p,s)∈L->(p',s')∈L->(pm p).arr=some q->(pm p').arr=some q->p=p'
def Vm (L:List (Nat×ByteArray))(pm:Nat->Mm)(k:Nat):Prop:=∃p s,(p,s)∈L/\(k=p\/(pm p).arr=some k)
def Sm.one {w:World}{L:List (Nat×ByteArray)}{pm:Nat->Mm}{Sd:ByteArray->U1->Prop}(h:Sm bd w L pm Sd){p:Nat}{s s':ByteArray}(h1:(p,s)∈L)(h2:(p,s')∈L):s=s':=by
 have hnd:=h.nd;clear h
 induction L with
 | nil=>cases h1
 | cons x l ih=>
  rw[Zc,YS]at hnd;rcases ZM.1 h1 with e1|h1
  . rcases ZM.1 h2 with e2|h2
    . rw[<- e1]at e2;injection e2 with _ e2;exact e2.symm
    . exact absurd (Zy.2 ⟨_,h2,by rw[<- e1]⟩) hnd.1
  . rcases ZM.1 h2 with e2|h2
    . exact absurd (Zy.2 ⟨_,h1,by rw[<- e2]⟩) hnd.1
    . exact ih h1 h2 hnd.2
def Sm.Vb {w:World}{L:List (Nat×ByteArray)}{pm:Nat->Mm}{Sd:ByteArray->U1->Prop}(h:Sm bd w L pm Sd){p:Nat}{s:ByteArray}(hp:(p,s)∈L):UL w p:=⟨_,_,h.at_ p s hp⟩
def Sm.Qz {w:World}{L:List (Nat×ByteArray)}{pm:Nat->Mm}{Sd:ByteArray->U1->Prop}(h:Sm bd w L pm Sd){p q:Nat}{s:ByteArray}(hp:(p,s)∈L)(hq:(pm p).arr=some q):∃cur,w.heap[q]?=some (.cells cur 64 (0,0)):=by
 have hok:=(h.ok p s hp).1
 cases hm:pm p with
 | no=>rw[hm]at hq;cases hq
 | only=>rw[hm]at hq;cases hq
 | one r=>rw[hm]at hq;cases hq
 | many q' cap rs=>
  rw[hm]at hq hok;simp[Mm.arr]at hq;subst hq;obtain⟨cur,h1,_⟩:=(AV.adg hok).blk;exact⟨cur,h1⟩
def Mm.Ok.keep {w w':World}{m:Mm}(h:m.Ok w)(hq:∀q,m.arr=some q->w'.heap[q]?=w.heap[q]?):m.Ok w':=by
 cases m with
 | no=>trivial
 | only=>trivial
 | one r=>trivial
 | many q cap rs=>exact Mm.Ok.same h (hq q rfl)
def Sm.same {w w':World}{L:List (Nat×ByteArray)}{pm:Nat->Mm}{Sd:ByteArray->U1->Prop}(h:Sm bd w L pm Sd)(hk:∀k,Vm L pm k->w'.heap[k]?=w.heap[k]?):Sm bd w' L pm Sd:=
 ⟨h.b6,h.nd,λp s hp=>(hk p ao2).trans (h.at_ p s hp),λp s hp=>⟨(h.ok p s hp).1.keep (λq hq=>hk q ⟨p,s,hp,.inr hq⟩),(h.ok p s hp).2⟩,h.rows,h.arr⟩
def Sm.upd {w w':World}{L:List (Nat×ByteArray)}{pm:Nat->Mm}{Sd:ByteArray->U1->Prop}(h:Sm bd w L pm Sd){p:Nat}{s:ByteArray}(hp:(p,s)∈L){m:Mm}
 (hc:Vt w w' (λk=>k=p\/(pm p).arr=some k)) (hat:w'.heap[p]?=some (.cells #[m.val] 198)) (hok:m.Ok w') (h6:m.rows.length<=bd) (hr:∀r∈m.rows,Sd s r)
 (hq:∀q,m.arr=some q->(pm p).arr=some q\/w.heap.size<=q):Sm bd w' L (λk=>if k=p then m else pm k) Sd:=by
 have mI:∀p' s',(p',s')∈L->p'≠p->w'.heap[p']?=w.heap[p']?:=λp' s' hp' hne=>hc.block p' (h.Vb hp').lt (λe=>by
  rcases e with e|e
  . exact hne e
  . obtain⟨cur,V_⟩:=h.Qz hp e;have:=h.at_ p' s' hp';rw[V_]at this;injection this with this;injection this with _ this _;revert this
    decide)
 have harr:∀p' s' q,(p',s')∈L->p'≠p->(pm p').arr=some q->w'.heap[q]?=w.heap[q]?:=λp' s' q hp' hne hq'=>by
  obtain⟨cur,V_⟩:=h.Qz hp' hq';refine hc.block q (Z5.1 V_).1 (λe=>?_);rcases e with e|e
  . subst e;have:=h.at_ _ s hp;exact aa2
  . exact hne (h.arr p' s' p s q hp' hp hq' e)
 refine⟨h.b6,h.nd,λp' s' hp'=>?_,λp' s' hp'=>?_,λp' s' r hp' hr'=>?_,λp1 s1 p2 s2 q h1 h2 hq1 hq2=>?_⟩
 . by_cases e:p'=p
   . subst e;simp only[Y6];exact hat
   . simp only[e,Zg];exact(mI p' s' hp' e).trans (h.at_ p' s' hp')
 . by_cases e:p'=p
   . subst e;simp only[Y6];exact⟨hok,h6⟩
   . simp only[e,Zg];exact⟨(h.ok p' s' hp').1.keep (λq hq'=>harr p' s' q hp' e hq'),(h.ok p' s' hp').2⟩
 . by_cases e:p'=p
   . subst e;simp only[Y6]at hr';rw[h.one hp' hp];exact hr r hr'
   . simp only[e,Zg]at hr';exact h.rows p' s' r hp' hr'
 . have key:∀p' s',(p',s')∈L->p'≠p->(pm p').arr=some q->m.arr=some q->False:=λp' s' hp' hne h3 h4=>by
    rcases hq q h4 with h5|h5
    . exact hne (h.arr p' s' p s q hp' hp h3 h5)
    . obtain⟨cur,V_⟩:=h.Qz hp' h3;have:=(Z5.1 V_).1;omega
   by_cases e1:p1=p
   . by_cases e2:p2=p
     . rw[e1,e2]
     . simp only[e1,e2,Y6,Zg]at hq1 hq2;exact(key p2 s2 h2 e2 hq2 hq1).elim
   . by_cases e2:p2=p
     . simp only[e1,e2,Y6,Zg]at hq1 hq2;exact(key p1 s1 h1 e1 hq1 hq2).elim
     . simp only[e1,e2,Zg]at hq1 hq2;exact h.arr p1 s1 p2 s2 q h1 h2 hq1 hq2
def Gw {wr w1:World}{r:Nat}{o o':Obj}(hw1:w1=wr\/w1=wr.drew)(hit:wr.heap[r]?=some o):(ChangeMaps.setBlock w1 r o').heap[r]?=some o'/\(∀k,k≠r->(ChangeMaps.setBlock w1 r o').heap[k]?=wr.heap[k]?)/\(ChangeMaps.setBlock w1 r o').heap.size=wr.heap.size/\Vt wr (ChangeMaps.setBlock w1 r o') (λk=>k=r):=by
 have hl:=(Z5.1 hit).1;have hh:w1.heap=wr.heap/\w1.os=wr.os/\w1.tape=wr.tape/\w1.output=wr.output:=by rcases hw1 with h|h<;>subst h<;>exact⟨rfl,rfl,rfl,rfl⟩
 have key:∀k,k≠r->(ChangeMaps.setBlock w1 r o').heap[k]?=wr.heap[k]?:=by
  intro k hk;show (w1.heap.setIfInBounds r o')[k]?=_;rw[hh.1];simp[Yn,VL hk]
 have hsz:(ChangeMaps.setBlock w1 r o').heap.size=wr.heap.size:=by
  show (w1.heap.setIfInBounds r o').size=_;rw[hh.1];simp
 refine⟨?_,key,hsz,⟨hh.2.1,hh.2.2.1,hh.2.2.2,VH,λk _ hk=>key k hk⟩⟩;show (w1.heap.setIfInBounds r o')[r]?=_;rw[hh.1];simp[Yn,hl]
def apx {w:World}{p:Nat}{v:Value}(v':Value)(h:w.heap[p]?=some (.cells #[v] 198)):(w.setCell (VJ p 0) v').heap[p]?=some (.cells #[v'] 198):=by
 exact uX
def zy {es:Array MapEntry}{seen:Array Nat}(h:(leftOf es seen).size=0){e:MapEntry}(he:e∈es.toList):seen.contains e.born=true:=by
 cases hc:seen.contains e.born with
 | true=>rfl
 | false=>
  have:e∈leftOf es seen:=Array.mem_filter.2 ⟨Array.mem_toList_iff.1 he,by rw[hc];rfl⟩;rw[WZ h]at this;simp at this
end Go.Proofs.Rz
namespace Go.Proofs.Rz
open ChangeShapes WideShapes ChangeAt RowKit Kn Iz Tryz
variable {bd : Nat}
def Mm.kE (φ:U1->Bool)(m:Mm):(m.forget φ).rows.length<=m.rows.length:=by
 cases m with
 | no=>exact ZN _
 | only=>exact ZN _
 | one o=>simp only[Mm.forget];by_cases e:φ o=true<;>simp[e,Mm.rows]
 | many q cap rs=>exact XI _ _
def Sm.store {W W3:World}{L:List (Nat×ByteArray)}{pm:Nat->Mm}{Sd:ByteArray->U1->Prop}(h:Sm bd W L pm Sd){p:Nat}{s:ByteArray}(hp:(p,s)∈L){m:Mm}
 (hc:Vt W W3 (λk=>(pm p).arr=some k)) (hok:m.Ok W3) (h6:m.rows.length<=bd) (hr:∀r∈m.rows,Sd s r) (hq:∀q,m.arr=some q->(pm p).arr=some q\/W.heap.size<=q) (zr:∀q,m.arr=some q->q≠p):
 Sm bd (W3.setCell (VJ p 0) m.val) L (λk=>if k=p then m else pm k) Sd:=by
 have n6:¬(pm p).arr=some p:=λe=>by
  obtain⟨cur,V_⟩:=h.Qz hp e;have:=h.at_ p s hp;exact aa2
 have hat:=(hc.block p (h.Vb hp).lt n6).trans (h.at_ p s hp);refine h.upd hp ((hc.mono lF).setCell _ _ Dx) (apx _ hat) (hok.keep (λq hq'=>ZW _ _ _ _ (zr q hq'))) h6 hr hq
def Fb (ib f:Nat)(cp:Array Value)(ps:List Nat)(φ:U1->Bool)(I:World->Prop)(Q:U1->Prop)(L:List (Nat×ByteArray))(pm:Nat->Mm)(Sd:ByteArray->U1->Prop)(w:World)(h:LX w ib ps)(hL:∀p∈ps,∃s,(p,s)∈L)(hP:Sm bd w L pm Sd)
 (hf:Ih f cp φ I Q) (hQ:∀s r,Sd s r->Q r) (hI:∀W,Vt w W (Vm L pm)->I W):
 Calls prog 105 #[.map (some ib),.func (.func f) #[] cp] w λe w'=>e=.returned (.tuple #[])/\∃T_,Sm bd w' L T_ Sd/\(∀p∈ps,T_ p=(pm p).forget φ)/\(∀p,p ∉ ps->T_ p=pm p)/\Vt w w' (Vm L pm):=by
 obtain⟨es,clock,hb,GG,Ww,hnd⟩:=h;have hrg:=Wq (P:=prog) w 138 _ _ ib es clock underlying138 hb
 have hnb:¬Vm L pm ib:=by
  rintro⟨p,s,hps,e|e⟩
  . subst e;have:=hP.at_ _ s hps;rw[hb]at this;cases this
  . obtain⟨cur,V_⟩:=hP.Qz hps e;rw[hb]at V_;cases V_
 have hbl:=(Z5.1 hb).1;have eV:Hid _:=hP
 have hlt:∀k,Vm L pm k->k<w.heap.size:=by
  rintro k ⟨p,s,hps,e|e⟩
  . subst e;exact(hP.Vb hps).lt
  . obtain⟨cur,V_⟩:=hP.Qz hps e;exact(Z5.1 V_).1
 have nh:Hid _:=hlt;clear hP hlt;go_enter func105,ntmps105;go_wp2
 go_loopw [7] (λ_ wr=>∃seen T_,wr.heap[w.heap.size]?=some (.mapIter (some ib) clock seen clock)/\Sm bd wr L T_ Sd/\(∀e∈es.toList,∀p,e.key=TM p->seen.contains e.born=true->T_ p=(pm p).forget φ)/\(∀p,T_ p=pm p\/(p∈ps/\T_ p=(pm p).forget φ))/\Vt w wr (Vm L pm)) (λ_ wr=>(leftOf es (wr.iterSeen w.heap.size)).size)
 case atStart=>
  exact ao8
 case round=>
  obtain⟨seen,T_,hit,hpl,hdone,WK,hch⟩:=hrel;have hbr:=(hch.block ib hbl hnb).trans hb;rcases VO (P:=prog) wr 0 w.heap.size ib clock clock seen es clock hit hbr (λx hx=>Ww.1 x hx) UM with⟨hl0,hnx⟩|⟨en,hen,w1,hw1,hnx⟩
  . have HC:Hid (∃T_,Sm bd wr L T_ Sd/\(∀p∈ps,T_ p=(pm p).forget φ)/\(∀p,p ∉ ps->T_ p=pm p)/\Vt w wr (Vm L pm)):=by
     have hx1:∃T_,Sm bd wr L T_ Sd/\(∀p∈ps,T_ p=(pm p).forget φ)/\(∀p,p ∉ ps->T_ p=pm p)/\Vt w wr (Vm L pm):=by
      exact aoa
     exact hx1
    clear hpl hdone WK hch hrg;go_wp2
    go_end0
    exact⟨rfl,HC.o⟩
  . refine agV ?_;intro UB q hq Fy s UX i1 i2 i3 i4;obtain⟨W2,hW2⟩:∃W2,W2=ChangeMaps.setBlock w1 w.heap.size (.mapIter (some ib) clock (seen.push en.born) clock):=Vx;rw[<- hW2]at i1 i2 i3 i4 hnx;clear hW2;have hib:ib≠w.heap.size:=VH;have hent:=VX (P:=prog) W2 w.heap.size ib clock seen es clock en i1 ((i2 ib hib).trans hbr) UB Ww.2;rw[Fy,TM]at hnx hent
    have Qt:∀k,Vm L T_ k->Vm L pm k:=by
     rintro k ⟨p,s',hps,e|e⟩
     . exact⟨p,s',hps,.inl e⟩
     . refine⟨p,s',hps,.inr ?_⟩;rcases WK p with h|⟨_,h⟩
       . rw[h]at e;exact e
       . rw[h]at e;rcases Mm.QH φ (pm p) with h'|h'
         . rw[h']at e;cases e
         . rw[h']at e;exact e
    refine ahC ?_;intro hne HL HS m_ Wz
    have HP:Hid (Sm bd W2 L T_ Sd/\(∀e∈es.toList,∀p,e.key=TM p->seen.contains e.born=true->T_ p=(pm p).forget φ)/\(∀p,T_ p=pm p\/(p∈ps/\T_ p=(pm p).forget φ))/\Vt w W2 (Vm L pm)):=⟨m_,hdone,WK,Wz⟩
    have HB:Hid _:=Qt
    have HQ:Hid (q∈ps/\(q,s)∈L/\en.key=TM q/\en∈es.toList/\q≠w.heap.size):=⟨hq,UX,Fy,UB,hne q ⟨q,s,UX,.inl rfl⟩⟩
    have hat:=m_.at_ q s UX;have c0:W2.cell? (VJ q 0)=some (T_ q).val:=by simp only[World.cell?,hat];rfl
    have hfin:∀W3:World,(((T_ q).forget φ).Ok W3)->Vt W2 W3 (λk=>(T_ q).arr=some k)->W3.heap[w.heap.size]?=some (.mapIter (some ib) clock (seen.push en.born) clock)->
     ∃seen Tb,(W3.setCell (VJ q 0) ((T_ q).forget φ).val).heap[w.heap.size]?=some (.mapIter (some ib) clock seen clock)/\Sm bd (W3.setCell (VJ q 0) ((T_ q).forget φ).val) L Tb Sd/\(∀e∈es.toList,∀p,e.key=TM p->seen.contains e.born=true->Tb p=(pm p).forget φ)/\(∀p,Tb p=pm p\/(p∈ps/\Tb p=(pm p).forget φ))/\Vt w (W3.setCell (VJ q 0) ((T_ q).forget φ).val) (Vm L pm):=by
     intro W3 hok hc3 ls;obtain⟨m_,hdone,WK,Wz⟩:=HP.o;obtain⟨hq,UX,Fy,UB,FL⟩:=HQ.o
     have UI:(T_ q).forget φ=(pm q).forget φ:=by
      rcases WK q with h|h
      . rw[h]
      . rw[h.2,Mm.Ig]
     refine⟨seen.push en.born,λk=>if k=q then (T_ q).forget φ else T_ k,(ZW _ _ _ _ (λe=>FL e.symm)).trans ls,m_.store UX hc3 hok (ZC (Mm.kE φ _) (m_.ok q s UX).2) (λr hr=>m_.rows q s r UX (Mm.KR hr).1) (λa ha=>?_) (λa ha e=>?_),λe he p I1 hc=>?_,λp=>?_,(Wz.then hc3 (λk _ e=>HB.o k ⟨q,s,UX,.inr e⟩)).setCell _ _ (λ_=>⟨q,s,UX,.inl rfl⟩)⟩
     . rcases Mm.QH φ (T_ q) with h|h
       . rw[h]at ha;cases ha
       . left;rw[<- h];exact ha
     . subst e;rcases Mm.QH φ (T_ a) with h|h
       . rw[h]at ha;cases ha
       . rw[h]at ha;obtain⟨cur,V_⟩:=m_.Qz UX ha;have:=m_.at_ a s UX;exact aa2
     . rw[contains_push]at hc;by_cases e1:p=q
       . simp only[e1,Y6];exact UI
       . simp only[e1,Zg];refine hdone e he p I1 ?_
         cases hcs:seen.contains e.born with
         | true=>rfl
         | false=>
          exact amW
     . by_cases e1:p=q
       . simp only[e1,Y6];exact .inr ⟨hq,UI⟩
       . simp only[e1,Zg];exact WK p
    have HF:Hid _:=hfin;have cf:=λo=>(m_.Vb UX).free o
    have i_:(T_ q).Ok W2/\(T_ q).rows.length<=6:=⟨(m_.ok q s UX).1,ZC (m_.ok q s UX).2 m_.b6⟩
    have ww:Hid (∀r∈(T_ q).rows,Q r):=by
     have hx1:∀r∈(T_ q).rows,Q r:=λr hr=>hQ s r (m_.rows q s r UX hr);exact hx1
    have wl:∀W,Vt W2 W (λk=>(T_ q).arr=some k)->I W:=λW hW=>hI W (Wz.then hW (λk _ e=>Qt k ⟨q,s,UX,.inr e⟩));have tG:=(Z5.1 i1).1;have FL:=HQ.o.2.2.2.2;have hir:¬(T_ q).arr=some w.heap.size:=λe=>hne _ ⟨q,s,UX,.inr e⟩ rfl;clear hpl hdone WK hch hrg i2 i4 hbr hit hen UB hw1 m_ Wz hfin Qt hne hat Fy
    have finish:∀(W3:World) (v:Value),W3.heap[w.heap.size]?=some (.mapIter (some ib) clock (seen.push en.born) clock)->(W3.setCell (VJ q 0) v).iterSeen w.heap.size=seen.push en.born:=λW3 v h3=>by
     unfold World.iterSeen;rw[(ZW _ _ _ _ (λe=>FL e.symm)).trans h3]
    have xm:Hid _:=finish;clear finish
    cases qr:T_ q with
    | no=>
     rw[qr]at c0 HF ww wl i_ hir;simp only[Mm.val]at c0;go_wp2_with fail;refine(aH _ W2).mono ?_;refine aiG ?_;intro W3 hb3 c3 cf3;have VM:Hid (Vt W2 W3 (λk=>Mm.no.arr=some k)/\W3.heap[w.heap.size]?=some (.mapIter (some ib) clock (seen.push en.born) clock)):=alj;clear hb3 c0 cf hnx hent i1;unfold Mm.val;go_wp2
     go_roundw
     case rel=>exact HF.o W3 trivial VM.o.1 VM.o.2
     case measure=>
      exact adP
    | only=>
     rw[qr]at c0 HF ww wl i_ hir;simp only[Mm.val]at c0;go_wp2_with fail;refine(Oq _ W2).mono ?_;refine aiG ?_;intro W3 hb3 c3 cf3;have VM:Hid (Vt W2 W3 (λk=>Mm.only.arr=some k)/\W3.heap[w.heap.size]?=some (.mapIter (some ib) clock (seen.push en.born) clock)):=alj;clear hb3 c0 cf hnx hent i1;unfold Mm.val;go_wp2
     go_roundw
     case rel=>exact HF.o W3 trivial VM.o.1 VM.o.2
     case measure=>
      exact adP
    | one r=>
     rw[qr]at c0 HF ww wl i_ hir;simp only[Mm.val]at c0;have hcall:=oQ r f cp φ I Q W2 hf (ww.o r oV) (λW hW=>wl W (hW.mono (λ_ _ h=>h.elim)));unfold U1.val at hcall c0;go_wp2_with fail;refine hcall.mono ?_;rintro e W3 ⟨rfl,hb3⟩;have Kx:=ZE W2 (VJ q 0) c0;have c3:=(hb3.cell (p:=(VJ q 0)) Kx).trans c0;have cf3:∀o,W3.frozen? (VJ q o)=false:=λo=>(Zr (a:=(VJ q o)) (hb3.block q Kx)).trans (cf o);have VM:Hid (Vt W2 W3 (λk=>(Mm.one r).arr=some k)/\W3.heap[w.heap.size]?=some (.mapIter (some ib) clock (seen.push en.born) clock)):=alj;have hv:(if φ r=true then Mm.no else Mm.one r)=(Mm.one r).forget φ:=rfl;rw[hv]
     have N6:Hid (((Mm.one r).forget φ).Ok W3):=by
      have hx1:((Mm.one r).forget φ).Ok W3:=by
       unfold Mm.forget;by_cases e:φ r=true
       . simp only[e,Y6];trivial
       . simp only[e];trivial
      exact hx1
     revert HF N6;generalize hvv:(Mm.one r).forget φ=mv;intro HF N6
     have hone:∃t u,mv.val=.iface t u:=by
      rw[<- hvv];unfold Mm.forget;by_cases e:φ r=true
      . simp only[e,Y6];exact⟨_,_,rfl⟩
      . simp only[e];exact⟨_,_,rfl⟩
     obtain⟨t,u,Ao⟩:=hone;rw[Ao];have HTU:Hid _:=Ao;clear hb3 c0 cf hnx hent i1 hcall hv hvv Ao;go_wp2
     go_roundw
     case rel=>
      have:=HF.o W3 N6.o VM.o.1 VM.o.2;rw[HTU.o]at this;exact this
     case measure=>
      exact adP
    | many a cap rs=>
     rw[qr]at c0 HF ww wl i_ hir;simp only[Mm.val]at c0;have hcall:=uH a cap f cp φ I Q rs W2 i_.1 i_.2 hf ww.o (λW hW=>wl W (hW.mono (λk _ e=>Sv)))
     have haq:a≠q:=λe=>by
      obtain⟨cur,V_,_⟩:=(AV.adg i_.1).blk;have h1:=HP.o.1.at_ q s HQ.o.2.1;rw[<- e,V_]at h1;exact acw
     go_wp2_with fail;refine hcall.mono ?_;rintro e W3 ⟨rfl,i_,hb3⟩;have Kx:=ZE W2 (VJ q 0) c0;have LN:=hb3.block q Kx (λe=>haq e.symm);have c3:=(Z9 (a:=(VJ q 0)) LN).trans c0;have cf3:∀o,W3.frozen? (VJ q o)=false:=λo=>(Zr (a:=(VJ q o)) LN).trans (cf o)
     have VM:Hid (((Mm.many a cap rs).forget φ).Ok W3/\Vt W2 W3 (λk=>(Mm.many a cap rs).arr=some k)/\W3.heap[w.heap.size]?=some (.mapIter (some ib) clock (seen.push en.born) clock)):=⟨i_,hb3.mono (λk _ e=>Sv),(hb3.block _ tG (λe=>hir Sv)).trans i1⟩
     clear hb3 c0 cf hnx hent i1 hcall i_ LN;unfold Mm.val;go_wp2
     go_roundw
     case rel=>exact HF.o W3 VM.o.1 VM.o.2.1 VM.o.2.2
     case measure=>
      rw[xm.o W3 _ VM.o.2.2,HS.o];exact HL.o
end Go.Proofs.Rz
