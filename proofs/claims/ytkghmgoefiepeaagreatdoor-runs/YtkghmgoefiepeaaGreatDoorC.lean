import Derived.Test.YtkghmgoefiepeaaGreatDoorB
set_option linter.unusedSimpArgs false
set_option linter.unusedVariables false
set_option maxHeartbeats 4000000
set_option maxRecDepth 100000
namespace Go.Proofs.Rz
open ChangeShapes WideShapes ChangeAt RowKit Kn Tryz
def TN:List Value:=[.string ⟨#[110,101,119]⟩,VI 17,.string ⟨#[98,101]⟩,VI 18,.string ⟨#[100,114,111,112]⟩,VI 19,.string ⟨#[109,111,118,101]⟩,VI 20,.string ⟨#[99,111,112,121]⟩,VI 21]
def UR (w:World):Prop:=∀i v,TN[i]?=some v->w.cell? (VJ 1 i)=some v
variable {w w' : World}
theorem UR.below (h:UR w){B:Nat}(hB:1<B)(hb:Below B w w'):UR w':=λi v hv=>(hb.cell (p:=(VJ 1 i)) hB).trans (h i v hv)
def BM:List (List UInt8):=[[110,101,119],[98,101],[100,114,111,112],[109,111,118,101],[99,111,112,121]]
def Rh (l:List UInt8):Nat:=if l=[110,101,119] then 17 else if l=[98,101] then 18 else if l=[100,114,111,112] then 19 else if l=[109,111,118,101] then 20 else if l=[99,111,112,121] then 21 else 0
theorem lS (l:List UInt8)(h:∀j,j<5->BM[j]?≠some l):Rh l=0:=by
 have h0:¬l=[110,101,119]:=λe=>h 0 VH Sv;have h1:¬l=[98,101]:=λe=>h 1 VH Sv;have h2:¬l=[100,114,111,112]:=λe=>h 2 VH Sv;have h3:¬l=[109,111,118,101]:=λe=>h 3 VH Sv;have h4:¬l=[99,111,112,121]:=λe=>h 4 VH Sv;unfold Rh;rw[ZX h0,ZX h1,ZX h2,ZX h3,ZX h4]
theorem aaz (w:World):(Instr.index 221 (.agg #[.string ⟨#[110,101,119]⟩,VI 17,.string ⟨#[98,101]⟩,VI 18,.string ⟨#[100,114,111,112]⟩,VI 19,.string ⟨#[109,111,118,101]⟩,VI 20,.string ⟨#[99,111,112,121]⟩,VI 21]) (VI 0)).run prog w=.ok (.agg #[.string ⟨#[110,101,119]⟩,VI 17]) w:=VE
theorem aat (w:World):(Instr.index 221 (.agg #[.string ⟨#[110,101,119]⟩,VI 17,.string ⟨#[98,101]⟩,VI 18,.string ⟨#[100,114,111,112]⟩,VI 19,.string ⟨#[109,111,118,101]⟩,VI 20,.string ⟨#[99,111,112,121]⟩,VI 21]) (VI 1)).run prog w=.ok (.agg #[.string ⟨#[98,101]⟩,VI 18]) w:=VE
theorem bJ (w:World):(Instr.index 221 (.agg #[.string ⟨#[110,101,119]⟩,VI 17,.string ⟨#[98,101]⟩,VI 18,.string ⟨#[100,114,111,112]⟩,VI 19,.string ⟨#[109,111,118,101]⟩,VI 20,.string ⟨#[99,111,112,121]⟩,VI 21]) (VI 2)).run prog w=.ok (.agg #[.string ⟨#[100,114,111,112]⟩,VI 19]) w:=VE
theorem dV (w:World):(Instr.index 221 (.agg #[.string ⟨#[110,101,119]⟩,VI 17,.string ⟨#[98,101]⟩,VI 18,.string ⟨#[100,114,111,112]⟩,VI 19,.string ⟨#[109,111,118,101]⟩,VI 20,.string ⟨#[99,111,112,121]⟩,VI 21]) (VI 3)).run prog w=.ok (.agg #[.string ⟨#[109,111,118,101]⟩,VI 20]) w:=VE
theorem dN (w:World):(Instr.index 221 (.agg #[.string ⟨#[110,101,119]⟩,VI 17,.string ⟨#[98,101]⟩,VI 18,.string ⟨#[100,114,111,112]⟩,VI 19,.string ⟨#[109,111,118,101]⟩,VI 20,.string ⟨#[99,111,112,121]⟩,VI 21]) (VI 4)).run prog w=.ok (.agg #[.string ⟨#[99,111,112,121]⟩,VI 21]) w:=VE
theorem zY (s:ByteArray)(w:World)(hs:s.size<=140737488355328)(h:UR w):
 Calls prog 110 #[.string s] w λe w'=>e=.returned (VI (Rh (bl s):Nat))/\Below w.heap.size w w':=by
 refine aib ?_;intro _ _ _ _ _ _ _ _ _ c0;have Lq:=aaz;have Lq:=aat;have Lq:=bJ;have Lq:=dV;have Lq:=dN;clear h;go_enter func110,ntmps110;go_wp2
 go_loopw [6] (λi wr=>∃k:Nat,i=VI k/\k<=5/\Below w.heap.size w wr/\(∀j,j<k->BM[j]?≠some (bl s))) (λi _=>5-(intOf i).toNat)
 case atStart=>exact⟨0,rfl,VH,ZR _ _,λj hj=>VH⟩
 case round=>
  obtain⟨k,rfl,hk,hb,hno⟩:=hrel;have G':Hid _:=hno;have hsz:=hb.size;clear hno;have ZD:k=0\/k=1\/k=2\/k=3\/k=4\/k=5:=VH;rcases ZD with rfl|rfl|rfl|rfl|rfl|rfl
  . by_cases e:bl s=[110,101,119]
    . have tt:(([110,101,119]:List UInt8)==s.toList)=true:=by rw[ZL];exact YH.2 e.symm
      have HR:Hid (Rh (bl s)=17):=by
       have hx:Rh (bl s)=17:=Sv;exact hx
      clear e;go_wp2
      go_ret
      exact Oc
    . have tt:(([110,101,119]:List UInt8)==s.toList)=false:=by rw[ZL];exact ZF.2 JR
      have HE:Hid _:=e;clear e;go_wp2
      go_roundw
      case rel=>
       exact ao5
      case measure=>simp[intOf]
  . by_cases e:bl s=[98,101]
    . have tt:(([98,101]:List UInt8)==s.toList)=true:=by rw[ZL];exact YH.2 e.symm
      have HR:Hid (Rh (bl s)=18):=by
       have hx:Rh (bl s)=18:=Sv;exact hx
      clear e;go_wp2
      go_ret
      exact Oc
    . have tt:(([98,101]:List UInt8)==s.toList)=false:=by rw[ZL];exact ZF.2 JR
      have HE:Hid _:=e;clear e;go_wp2
      go_roundw
      case rel=>
       exact amQ
      case measure=>simp[intOf]
  . by_cases e:bl s=[100,114,111,112]
    . have tt:(([100,114,111,112]:List UInt8)==s.toList)=true:=by rw[ZL];exact YH.2 e.symm
      have HR:Hid (Rh (bl s)=19):=by
       have hx:Rh (bl s)=19:=Sv;exact hx
      clear e;go_wp2
      go_ret
      exact Oc
    . have tt:(([100,114,111,112]:List UInt8)==s.toList)=false:=by rw[ZL];exact ZF.2 JR
      have HE:Hid _:=e;clear e;go_wp2
      go_roundw
      case rel=>
       exact anB
      case measure=>simp[intOf]
  . by_cases e:bl s=[109,111,118,101]
    . have tt:(([109,111,118,101]:List UInt8)==s.toList)=true:=by rw[ZL];exact YH.2 e.symm
      have HR:Hid (Rh (bl s)=20):=by
       have hx:Rh (bl s)=20:=Sv;exact hx
      clear e;go_wp2
      go_ret
      exact Oc
    . have tt:(([109,111,118,101]:List UInt8)==s.toList)=false:=by rw[ZL];exact ZF.2 JR
      have HE:Hid _:=e;clear e;go_wp2
      go_roundw
      case rel=>
       exact anw
      case measure=>simp[intOf]
  . by_cases e:bl s=[99,111,112,121]
    . have tt:(([99,111,112,121]:List UInt8)==s.toList)=true:=by rw[ZL];exact YH.2 e.symm
      have HR:Hid (Rh (bl s)=21):=by
       have hx:Rh (bl s)=21:=Sv;exact hx
      clear e;go_wp2
      go_ret
      exact Oc
    . have tt:(([99,111,112,121]:List UInt8)==s.toList)=false:=by rw[ZL];exact ZF.2 JR
      have HE:Hid _:=e;clear e;go_wp2
      go_roundw
      case rel=>
       exact aoQ
      case measure=>simp[intOf]
  . have HR:Hid (Rh (bl s)=0):=by
     have hx:=lS (bl s) G'.o;exact hx
    go_wp2
    go_ret
    exact⟨jS,hb⟩
def UU:List Value:=[.string ⟨#[115,101,108,102]⟩,VI 2,.string ⟨#[43]⟩,VI 6,.string ⟨#[45]⟩,VI 7,.string ⟨#[42]⟩,VI 8,.string ⟨#[60]⟩,VI 9,.string ⟨#[61]⟩,VI 10,.string ⟨#[112,111,112]⟩,VI 11,.string ⟨#[100,117,112]⟩,VI 12,.string ⟨#[114,101,116]⟩,VI 22]
def U7 (w:World):Prop:=∀i v,UU[i]?=some v->w.cell? (VJ 2 i)=some v
theorem U7.below (h:U7 w){B:Nat}(hB:2<B)(hb:Below B w w'):U7 w':=λi v hv=>(hb.cell (p:=(VJ 2 i)) hB).trans (h i v hv)
def FH:List (List UInt8):=[[115,101,108,102],[43],[45],[42],[60],[61],[112,111,112],[100,117,112],[114,101,116]]
def UD (l:List UInt8):Nat:=if l=[115,101,108,102] then 2 else if l=[43] then 6 else if l=[45] then 7 else if l=[42] then 8 else if l=[60] then 9 else if l=[61] then 10 else if l=[112,111,112] then 11 else if l=[100,117,112] then 12 else if l=[114,101,116] then 22 else 0
theorem qy (l:List UInt8)(h:∀j,j<9->FH[j]?≠some l):UD l=0:=by
 have h0:¬l=[115,101,108,102]:=λe=>h 0 VH Sv;have h1:¬l=[43]:=λe=>h 1 VH Sv;have h2:¬l=[45]:=λe=>h 2 VH Sv;have h3:¬l=[42]:=λe=>h 3 VH Sv;have h4:¬l=[60]:=λe=>h 4 VH Sv;have h5:¬l=[61]:=λe=>h 5 VH Sv;have h6:¬l=[112,111,112]:=λe=>h 6 VH Sv;have h7:¬l=[100,117,112]:=λe=>h 7 VH Sv;have h8:¬l=[114,101,116]:=λe=>h 8 VH Sv;unfold UD;rw[ZX h0,ZX h1,ZX h2,ZX h3,ZX h4,ZX h5,ZX h6,ZX h7,ZX h8]
theorem kN (w:World):(Instr.index 222 (.agg #[.string ⟨#[115,101,108,102]⟩,VI 2,.string ⟨#[43]⟩,VI 6,.string ⟨#[45]⟩,VI 7,.string ⟨#[42]⟩,VI 8,.string ⟨#[60]⟩,VI 9,.string ⟨#[61]⟩,VI 10,.string ⟨#[112,111,112]⟩,VI 11,.string ⟨#[100,117,112]⟩,VI 12,.string ⟨#[114,101,116]⟩,VI 22]) (VI 0)).run prog w=.ok (.agg #[.string ⟨#[115,101,108,102]⟩,VI 2]) w:=VE
theorem oh (w:World):(Instr.index 222 (.agg #[.string ⟨#[115,101,108,102]⟩,VI 2,.string ⟨#[43]⟩,VI 6,.string ⟨#[45]⟩,VI 7,.string ⟨#[42]⟩,VI 8,.string ⟨#[60]⟩,VI 9,.string ⟨#[61]⟩,VI 10,.string ⟨#[112,111,112]⟩,VI 11,.string ⟨#[100,117,112]⟩,VI 12,.string ⟨#[114,101,116]⟩,VI 22]) (VI 1)).run prog w=.ok (.agg #[.string ⟨#[43]⟩,VI 6]) w:=VE
theorem ku (w:World):(Instr.index 222 (.agg #[.string ⟨#[115,101,108,102]⟩,VI 2,.string ⟨#[43]⟩,VI 6,.string ⟨#[45]⟩,VI 7,.string ⟨#[42]⟩,VI 8,.string ⟨#[60]⟩,VI 9,.string ⟨#[61]⟩,VI 10,.string ⟨#[112,111,112]⟩,VI 11,.string ⟨#[100,117,112]⟩,VI 12,.string ⟨#[114,101,116]⟩,VI 22]) (VI 2)).run prog w=.ok (.agg #[.string ⟨#[45]⟩,VI 7]) w:=VE
theorem jO (w:World):(Instr.index 222 (.agg #[.string ⟨#[115,101,108,102]⟩,VI 2,.string ⟨#[43]⟩,VI 6,.string ⟨#[45]⟩,VI 7,.string ⟨#[42]⟩,VI 8,.string ⟨#[60]⟩,VI 9,.string ⟨#[61]⟩,VI 10,.string ⟨#[112,111,112]⟩,VI 11,.string ⟨#[100,117,112]⟩,VI 12,.string ⟨#[114,101,116]⟩,VI 22]) (VI 3)).run prog w=.ok (.agg #[.string ⟨#[42]⟩,VI 8]) w:=VE
theorem o7 (w:World):(Instr.index 222 (.agg #[.string ⟨#[115,101,108,102]⟩,VI 2,.string ⟨#[43]⟩,VI 6,.string ⟨#[45]⟩,VI 7,.string ⟨#[42]⟩,VI 8,.string ⟨#[60]⟩,VI 9,.string ⟨#[61]⟩,VI 10,.string ⟨#[112,111,112]⟩,VI 11,.string ⟨#[100,117,112]⟩,VI 12,.string ⟨#[114,101,116]⟩,VI 22]) (VI 4)).run prog w=.ok (.agg #[.string ⟨#[60]⟩,VI 9]) w:=VE
theorem jV (w:World):(Instr.index 222 (.agg #[.string ⟨#[115,101,108,102]⟩,VI 2,.string ⟨#[43]⟩,VI 6,.string ⟨#[45]⟩,VI 7,.string ⟨#[42]⟩,VI 8,.string ⟨#[60]⟩,VI 9,.string ⟨#[61]⟩,VI 10,.string ⟨#[112,111,112]⟩,VI 11,.string ⟨#[100,117,112]⟩,VI 12,.string ⟨#[114,101,116]⟩,VI 22]) (VI 5)).run prog w=.ok (.agg #[.string ⟨#[61]⟩,VI 10]) w:=VE
theorem kG (w:World):(Instr.index 222 (.agg #[.string ⟨#[115,101,108,102]⟩,VI 2,.string ⟨#[43]⟩,VI 6,.string ⟨#[45]⟩,VI 7,.string ⟨#[42]⟩,VI 8,.string ⟨#[60]⟩,VI 9,.string ⟨#[61]⟩,VI 10,.string ⟨#[112,111,112]⟩,VI 11,.string ⟨#[100,117,112]⟩,VI 12,.string ⟨#[114,101,116]⟩,VI 22]) (VI 6)).run prog w=.ok (.agg #[.string ⟨#[112,111,112]⟩,VI 11]) w:=VE
theorem oz (w:World):(Instr.index 222 (.agg #[.string ⟨#[115,101,108,102]⟩,VI 2,.string ⟨#[43]⟩,VI 6,.string ⟨#[45]⟩,VI 7,.string ⟨#[42]⟩,VI 8,.string ⟨#[60]⟩,VI 9,.string ⟨#[61]⟩,VI 10,.string ⟨#[112,111,112]⟩,VI 11,.string ⟨#[100,117,112]⟩,VI 12,.string ⟨#[114,101,116]⟩,VI 22]) (VI 7)).run prog w=.ok (.agg #[.string ⟨#[100,117,112]⟩,VI 12]) w:=VE
theorem jC (w:World):(Instr.index 222 (.agg #[.string ⟨#[115,101,108,102]⟩,VI 2,.string ⟨#[43]⟩,VI 6,.string ⟨#[45]⟩,VI 7,.string ⟨#[42]⟩,VI 8,.string ⟨#[60]⟩,VI 9,.string ⟨#[61]⟩,VI 10,.string ⟨#[112,111,112]⟩,VI 11,.string ⟨#[100,117,112]⟩,VI 12,.string ⟨#[114,101,116]⟩,VI 22]) (VI 8)).run prog w=.ok (.agg #[.string ⟨#[114,101,116]⟩,VI 22]) w:=VE
theorem JA (s:ByteArray)(w:World)(hs:s.size<=140737488355328)(h:U7 w):
 Calls prog 111 #[.string s] w λe w'=>e=.returned (VI (UD (bl s):Nat))/\Below w.heap.size w w':=by
 refine aib ?_;intro _ _ _ _ _ _ _ _ _ c0;have c0:=h 10 _ rfl;have c0:=h 11 _ rfl;have c0:=h 12 _ rfl;have c0:=h 13 _ rfl;have c0:=h 14 _ rfl;have c0:=h 15 _ rfl;have c0:=h 16 _ rfl;have c0:=h 17 _ rfl;have Lq:=kN;have Lq:=oh;have Lq:=ku;have Lq:=jO;have Lq:=o7;have Lq:=jV;have Lq:=kG;have Lq:=oz;have Lq:=jC;clear h;go_enter func111,ntmps111;go_wp2
 go_loopw [6] (λi wr=>∃k:Nat,i=VI k/\k<=9/\Below w.heap.size w wr/\(∀j,j<k->FH[j]?≠some (bl s))) (λi _=>9-(intOf i).toNat)
 case atStart=>exact⟨0,rfl,VH,ZR _ _,λj hj=>VH⟩
 case round=>
  obtain⟨k,rfl,hk,hb,hno⟩:=hrel;have G':Hid _:=hno;have hsz:=hb.size;clear hno;have ZD:k=0\/k=1\/k=2\/k=3\/k=4\/k=5\/k=6\/k=7\/k=8\/k=9:=VH;rcases ZD with rfl|rfl|rfl|rfl|rfl|rfl|rfl|rfl|rfl|rfl
  . by_cases e:bl s=[115,101,108,102]
    . have tt:(([115,101,108,102]:List UInt8)==s.toList)=true:=by rw[ZL];exact YH.2 e.symm
      have HR:Hid (UD (bl s)=2):=by
       have hx:UD (bl s)=2:=Sv;exact hx
      clear e;go_wp2
      go_ret
      exact Oc
    . have tt:(([115,101,108,102]:List UInt8)==s.toList)=false:=by rw[ZL];exact ZF.2 JR
      have HE:Hid _:=e;clear e;go_wp2
      go_roundw
      case rel=>
       exact ao5
      case measure=>simp[intOf]
  . by_cases e:bl s=[43]
    . have tt:(([43]:List UInt8)==s.toList)=true:=by rw[ZL];exact YH.2 e.symm
      have HR:Hid (UD (bl s)=6):=by
       have hx:UD (bl s)=6:=Sv;exact hx
      clear e;go_wp2
      go_ret
      exact Oc
    . have tt:(([43]:List UInt8)==s.toList)=false:=by rw[ZL];exact ZF.2 JR
      have HE:Hid _:=e;clear e;go_wp2
      go_roundw
      case rel=>
       exact amQ
      case measure=>simp[intOf]
  . by_cases e:bl s=[45]
    . have tt:(([45]:List UInt8)==s.toList)=true:=by rw[ZL];exact YH.2 e.symm
      have HR:Hid (UD (bl s)=7):=by
       have hx:UD (bl s)=7:=Sv;exact hx
      clear e;go_wp2
      go_ret
      exact Oc
    . have tt:(([45]:List UInt8)==s.toList)=false:=by rw[ZL];exact ZF.2 JR
      have HE:Hid _:=e;clear e;go_wp2
      go_roundw
      case rel=>
       exact anB
      case measure=>simp[intOf]
  . by_cases e:bl s=[42]
    . have tt:(([42]:List UInt8)==s.toList)=true:=by rw[ZL];exact YH.2 e.symm
      have HR:Hid (UD (bl s)=8):=by
       have hx:UD (bl s)=8:=Sv;exact hx
      clear e;go_wp2
      go_ret
      exact Oc
    . have tt:(([42]:List UInt8)==s.toList)=false:=by rw[ZL];exact ZF.2 JR
      have HE:Hid _:=e;clear e;go_wp2
      go_roundw
      case rel=>
       exact anw
      case measure=>simp[intOf]
  . by_cases e:bl s=[60]
    . have tt:(([60]:List UInt8)==s.toList)=true:=by rw[ZL];exact YH.2 e.symm
      have HR:Hid (UD (bl s)=9):=by
       have hx:UD (bl s)=9:=Sv;exact hx
      clear e;go_wp2
      go_ret
      exact Oc
    . have tt:(([60]:List UInt8)==s.toList)=false:=by rw[ZL];exact ZF.2 JR
      have HE:Hid _:=e;clear e;go_wp2
      go_roundw
      case rel=>
       exact aoQ
      case measure=>simp[intOf]
  . by_cases e:bl s=[61]
    . have tt:(([61]:List UInt8)==s.toList)=true:=by rw[ZL];exact YH.2 e.symm
      have HR:Hid (UD (bl s)=10):=by
       have hx:UD (bl s)=10:=Sv;exact hx
      clear e;go_wp2
      go_ret
      exact Oc
    . have tt:(([61]:List UInt8)==s.toList)=false:=by rw[ZL];exact ZF.2 JR
      have HE:Hid _:=e;clear e;go_wp2
      go_roundw
      case rel=>
       refine⟨6,rfl,VH,hb.alloc VH _,λj hj=>?_⟩;by_cases ej:j=5
       . exact iF
       . exact G'.o j VH
      case measure=>simp[intOf]
  . by_cases e:bl s=[112,111,112]
    . have tt:(([112,111,112]:List UInt8)==s.toList)=true:=by rw[ZL];exact YH.2 e.symm
      have HR:Hid (UD (bl s)=11):=by
       have hx:UD (bl s)=11:=Sv;exact hx
      clear e;go_wp2
      go_ret
      exact Oc
    . have tt:(([112,111,112]:List UInt8)==s.toList)=false:=by rw[ZL];exact ZF.2 JR
      have HE:Hid _:=e;clear e;go_wp2
      go_roundw
      case rel=>
       refine⟨7,rfl,VH,hb.alloc VH _,λj hj=>?_⟩;by_cases ej:j=6
       . exact iF
       . exact G'.o j VH
      case measure=>simp[intOf]
  . by_cases e:bl s=[100,117,112]
    . have tt:(([100,117,112]:List UInt8)==s.toList)=true:=by rw[ZL];exact YH.2 e.symm
      have HR:Hid (UD (bl s)=12):=by
       have hx:UD (bl s)=12:=Sv;exact hx
      clear e;go_wp2
      go_ret
      exact Oc
    . have tt:(([100,117,112]:List UInt8)==s.toList)=false:=by rw[ZL];exact ZF.2 JR
      have HE:Hid _:=e;clear e;go_wp2
      go_roundw
      case rel=>
       refine⟨8,rfl,VH,hb.alloc VH _,λj hj=>?_⟩;by_cases ej:j=7
       . exact iF
       . exact G'.o j VH
      case measure=>simp[intOf]
  . by_cases e:bl s=[114,101,116]
    . have tt:(([114,101,116]:List UInt8)==s.toList)=true:=by rw[ZL];exact YH.2 e.symm
      have HR:Hid (UD (bl s)=22):=by
       have hx:UD (bl s)=22:=Sv;exact hx
      clear e;go_wp2
      go_ret
      exact Oc
    . have tt:(([114,101,116]:List UInt8)==s.toList)=false:=by rw[ZL];exact ZF.2 JR
      have HE:Hid _:=e;clear e;go_wp2
      go_roundw
      case rel=>
       refine⟨9,rfl,VH,hb.alloc VH _,λj hj=>?_⟩;by_cases ej:j=8
       . exact iF
       . exact G'.o j VH
      case measure=>simp[intOf]
  . have HR:Hid (UD (bl s)=0):=by
     have hx:=qy (bl s) G'.o;exact hx
    go_wp2
    go_ret
    exact⟨jS,hb⟩
def kindOf (k:Nat):Nat:=
 if k=110 then 1 else if k=109 then 2 else if k=97 then 3 else if k=103 then 4 else if k=112 then 5 else if k=43 then 6 else if k=45 then 7 else if k=42 then 8 else if k=60 then 9
 else if k=61 then 10 else if k=111 then 11 else if k=100 then 12 else if k=62 then 13 else if k=63 then 14 else if k=115 then 15 else if k=94 then 16 else if k=119 then 17
 else if k=98 then 18 else if k=120 then 19 else if k=118 then 20 else if k=99 then 21 else if k=114 then 22 else 0
def QM (x:W):List Value:=[VI (kindOf x.k:Nat),VI x.n,.string (VF x.a),.string (VF x.sel),.string (VF x.b),.pointer none]
def RV:Option (W×Nat)->Value
 | some (x,_)=>.agg #[VI (kindOf x.k:Nat),VI x.n,.string (VF x.a),.string (VF x.sel),.string (VF x.b),.pointer none]
 | none=>.agg #[VI 0,VI 0,.string (VF []),.string (VF []),.string (VF []),.pointer none]
def Got (w w':World)(b:Nat)(s:ByteArray)(i0:Nat)(o:Option (W×Nat)):Prop:=∃j,j<=s.size/\SA w w' b s j/\∀x n,o=some (x,n)->j=i0+n
theorem Uz.lt {b:Nat}{s:ByteArray}{i:Nat}(h:Uz w b s i):b<w.heap.size:=(Z5.1 h).1
variable {w1 w2 : World}
theorem SA.below {b:Nat}{s:ByteArray}{i:Nat}(h:SA w w1 b s i)(hb:Below w1.heap.size w1 w2):SA w w2 b s i:=
 ⟨(hb.block b h.rd.lt).trans h.rd,h.grown.trans ⟨hb.os,hb.tape,hb.output,hb.size,λk hk _=>hb.block k hk⟩⟩
theorem Uz.alloc {b:Nat}{s:ByteArray}{i:Nat}(h:Uz w b s i)(o:Obj):Uz (w.alloc o) b s i:=(ZV w o b h.lt).trans h
theorem SA.JZ {b:Nat}{s:ByteArray}{i:Nat}{o:Obj}(h:SA (w.alloc o) w' b s i):SA w w' b s i:=⟨h.rd,(Xv w o _).trans h.grown⟩
def RP (w:World)(z:Nat)(v0 v1 v2 v3 v4:Value):Prop:=w.heap[z]?=some (.cells #[v0,v1,v2,v3,v4,.pointer none] 146)
theorem RP.c0 {z:Nat}{v0 v1 v2 v3 v4:Value}(h:RP w z v0 v1 v2 v3 v4):w.cell? (VJ z 0)=some v0:=by unfold RP at h;simp only[World.cell?,h];rfl
theorem RP.c1 {z:Nat}{v0 v1 v2 v3 v4:Value}(h:RP w z v0 v1 v2 v3 v4):w.cell? (VJ z 1)=some v1:=by unfold RP at h;simp only[World.cell?,h];rfl
theorem RP.c2 {z:Nat}{v0 v1 v2 v3 v4:Value}(h:RP w z v0 v1 v2 v3 v4):w.cell? (VJ z 2)=some v2:=by unfold RP at h;simp only[World.cell?,h];rfl
theorem RP.c3 {z:Nat}{v0 v1 v2 v3 v4:Value}(h:RP w z v0 v1 v2 v3 v4):w.cell? (VJ z 3)=some v3:=by unfold RP at h;simp only[World.cell?,h];rfl
theorem RP.c4 {z:Nat}{v0 v1 v2 v3 v4:Value}(h:RP w z v0 v1 v2 v3 v4):w.cell? (VJ z 4)=some v4:=by unfold RP at h;simp only[World.cell?,h];rfl
theorem RP.c5 {z:Nat}{v0 v1 v2 v3 v4:Value}(h:RP w z v0 v1 v2 v3 v4):w.cell? (VJ z 5)=some (.pointer none):=by unfold RP at h;simp only[World.cell?,h];rfl
theorem RP.f {z:Nat}{v0 v1 v2 v3 v4:Value}(h:RP w z v0 v1 v2 v3 v4)(k:Nat):w.frozen? (VJ z k)=false:=by unfold RP at h;simp only[World.frozen?,h];simp
theorem RP.all {z:Nat}{v0 v1 v2 v3 v4:Value}(h:RP w z v0 v1 v2 v3 v4):w.cell? (VJ z 0)=some v0/\w.cell? (VJ z 1)=some v1/\w.cell? (VJ z 2)=some v2/\w.cell? (VJ z 3)=some v3/\w.cell? (VJ z 4)=some v4/\w.cell? (VJ z 5)=some (.pointer none)/\∀k,w.frozen? (VJ z k)=false:=⟨h.c0,h.c1,h.c2,h.c3,h.c4,h.c5,h.f⟩
theorem RY (w:World)(v0 v1 v2 v3 v4:Value):RP (w.alloc (.cells #[v0,v1,v2,v3,v4,.pointer none] 146)) w.heap.size v0 v1 v2 v3 v4:=(Z4 w _).1
theorem RP.lt {z:Nat}{v0 v1 v2 v3 v4:Value}(h:RP w z v0 v1 v2 v3 v4):z<w.heap.size:=(Z5.1 h).1
theorem RP.to {z b:Nat}{v0 v1 v2 v3 v4:Value}{s:ByteArray}{i:Nat}(h:RP w z v0 v1 v2 v3 v4)(ht:SA w w' b s i)(hne:z≠b):RP w' z v0 v1 v2 v3 v4:=
 (ht.grown.block z h.lt (λe=>hne (by injection e))).trans h
theorem RP.below {z:Nat}{v0 v1 v2 v3 v4:Value}(h:RP w z v0 v1 v2 v3 v4)(hb:Below w.heap.size w w'):RP w' z v0 v1 v2 v3 v4:=(hb.block z h.lt).trans h
theorem SA.MS {b:Nat}{s:ByteArray}{i:Nat}(h:SA w w1 b s i){z k:Nat}(hb:b<w.heap.size)(hz:w.heap.size<=z)(v:Value):SA w (w1.setCell (VJ z k) v) b s i:=
 ⟨(ZW w1 (VJ z k) v b (by show b≠z;omega)).trans h.rd,⟨h.grown.os,h.grown.tape,h.grown.output,by simp only[World.setCell,Yz];exact h.grown.size,λj hj hne=>(ZW w1 (VJ z k) v j (by show j≠z;omega)).trans (h.grown.block j hj hne)⟩⟩
theorem SA.N8 {b:Nat}{s:ByteArray}{i:Nat}(h:SA w w1 b s i){z:Nat}(hb:b<w.heap.size)(hz:w.heap.size<=z)(v0 v1 v2 v3 v4:Value):
 SA w ((((((w1.setCell (VJ z 0) v0).setCell (VJ z 1) v1).setCell (VJ z 2) v2).setCell (VJ z 3) v3).setCell (VJ z 4) v4).setCell (VJ z 5) (.pointer none)) b s i:=
 (((((h.MS hb hz v0).MS hb hz v1).MS hb hz v2).MS hb hz v3).MS hb hz v4).MS hb hz _
theorem xJ (b:Nat)(s:ByteArray)(i i0 a k kk hi m:Nat)(p:UInt8->Bool)(w:World)(hs:s.size<=140737488355328)(hi':i<=s.size)(ha:i=i0+a)(hm:m<=4)(hp:aX 48 hi=p)(hkk:kindOf k=kk)
 (pi:∀c,p c=true->U8 c=true) (h:Uz w b s i):
 Calls prog 108 #[VG b,VI kk,.int .u8 hi,VI m] w λe w'=>
  e=.returned (RV (TA k p m a ((bl s).drop i)))/\Got w w' b s i0 (TA k p m a ((bl s).drop i)):=by
 have HH:Hid (Uz w b s i):=h;have HA:Hid _:=ha;have i9:Hid _:=hkk;clear h ha hkk;obtain⟨sp,hsp⟩:∃sp,Vj p m ((bl s).drop i)=sp:=Vx;have hle:=Rl s p m i;rw[hsp]at hle;have HS:Hid _:=hsp
 by_cases hne:sp=[]
 . subst hne
   have HK:Hid (TA k p m a ((bl s).drop i)=none):=by
    have hx:TA k p m a ((bl s).drop i)=none:=by unfold TA;rw[ZU hsp]
    exact hx
   clear hsp hle;go_enter func108,ntmps108;go_wp2_with fail;refine(Qd b s i 48 hi m p [] _ hs hi' VH zq hp HS.o).mono ?_;rintro e w1 ⟨rfl,X_⟩;have HT:Hid (SA w w1 b s (i+([]:List UInt8).length)):=X_.JZ;have hz:=(RY w _ _ _ _ _).to X_ fM;refine Jp ?_;intro z0 z1 z2 z3 z4 z5 zf;clear X_ hz;go_wp2;refine ZQ (v:=.agg #[VI 0,VI 0,.string ⟨#[]⟩,.string ⟨#[]⟩,.string ⟨#[]⟩,.pointer none]) ag6 rfl ?_;exact⟨zn,⟨_,by simpa using hi',HT.o.N8 HH.o.lt UM _ _ _ _ _,λx n hx=>by rw[HK.o]at hx;cases hx⟩⟩
 . have HK:Hid (TA k p m a ((bl s).drop i)=some (⟨k,(numOf sp:Nat),[],[],[]⟩,a+sp.length)):=by
    have hx:TA k p m a ((bl s).drop i)=some (⟨k,(numOf sp:Nat),[],[],[]⟩,a+sp.length):=by unfold TA;rw[hsp,ZX hne]
    exact hx
   have HL:Hid ((VF sp).size<=4):=by
    have hx:(VF sp).size<=4:=by
     rw[<- VB,NV,<- hsp];exact ZC (Q5 _ _ _) hm
    exact hx
   have HD:Hid (∀c∈bl (VF sp),U8 c=true):=by
    have hx:∀c∈bl (VF sp),U8 c=true:=λc hc=>pi c (by rw[NV,<- hsp]at hc;exact QC _ _ _ c hc);exact hx
   have pP:=RG hne;clear hsp hne pi;go_enter func108,ntmps108;go_wp2_with fail;refine(Qd b s i 48 hi m p sp _ hs hi' VH zq hp HS.o).mono ?_;rintro e w1 ⟨rfl,X_⟩;have HT:Hid (SA w w1 b s (i+sp.length)):=X_.JZ;have hz:=(RY w _ _ _ _ _).to X_ fM;have HZ:Hid (RP w1 w.heap.size _ _ _ _ _):=hz;clear X_ hz;go_wp2_with fail;refine(FZ (VF sp) _ HL.o HD.o).mono ?_;rintro e w1 ⟨rfl,hb⟩;have OS:Hid _:=HT.o.below hb;have hz:=HZ.o.below hb;refine Jp ?_;intro z0 z1 z2 z3 z4 z5 zf;clear hb hz;go_wp2;refine ZQ (v:=.agg #[VI kk,VI (numOf sp:Nat),.string ⟨#[]⟩,.string ⟨#[]⟩,.string ⟨#[]⟩,.pointer none]) ag6 rfl ?_;refine⟨by rw[HK.o,<- i9.o];rfl,⟨_,VH,OS.o.N8 HH.o.lt UM _ _ _ _ _,λx n hx=>?_⟩⟩;exact ahL
theorem aa0 (b:Nat)(s:ByteArray)(i i0 a k kk:Nat)(w:World)(hs:s.size<=140737488355328)(hi':i<=s.size)(ha:i=i0+a)(hkk:kindOf k=kk)(h:Uz w b s i):
 Calls prog 107 #[VG b,VI kk] w λe w'=>
  e=.returned (RV (QT k a ((bl s).drop i)))/\Got w w' b s i0 (QT k a ((bl s).drop i)):=by
 have HH:Hid (Uz w b s i):=h;have HA:Hid _:=ha;have i9:Hid _:=hkk;clear h ha hkk;obtain⟨sp,hsp⟩:∃sp,TW ((bl s).drop i)=sp:=Vx
 by_cases hne:sp=[]
 . subst hne
   have HK:Hid (QT k a ((bl s).drop i)=none):=by
    have hx:QT k a ((bl s).drop i)=none:=by unfold QT;rw[ZU hsp]
    exact hx
   have HS:Hid _:=hsp;clear hsp;go_enter func107,ntmps107;go_wp2_with fail;refine(PS b s i _ hs hi' zq).mono ?_;rintro e w1 ⟨rfl,j,hj,X_,hjl⟩;rw[HS.o];have HT:Hid (SA w w1 b s j):=X_.JZ;have hz:=(RY w _ _ _ _ _).to X_ fM;refine Jp ?_;intro z0 z1 z2 z3 z4 z5 zf;clear X_ hjl hz;go_wp2;refine ZQ (v:=.agg #[VI 0,VI 0,.string ⟨#[]⟩,.string ⟨#[]⟩,.string ⟨#[]⟩,.pointer none]) ai0 rfl ?_;exact⟨zn,⟨_,hj,HT.o.N8 HH.o.lt UM _ _ _ _ _,λx n hx=>by rw[HK.o]at hx;cases hx⟩⟩
 . have HK:Hid (QT k a ((bl s).drop i)=some (⟨k,(U6 sp:Nat),sp,[],[]⟩,a+sp.length)):=by
    have hx:QT k a ((bl s).drop i)=some (⟨k,(U6 sp:Nat),sp,[],[]⟩,a+sp.length):=by unfold QT;rw[hsp,ZX hne]
    exact hx
   have gp:Hid (selector (bl (VF sp))=true):=by
    have hx:selector (bl (VF sp))=true:=by
     have:=(Qe (r:=(bl s).drop i) (by rw[hsp];exact hne)).1;rw[hsp]at this;exact this
    exact hx
   have HS:Hid _:=hsp;have HN:Hid (sp≠[]):=hne;have pP:=RG hne;clear hsp hne;go_enter func107,ntmps107;go_wp2_with fail;refine(PS b s i _ hs hi' zq).mono ?_;rintro e w1 ⟨rfl,j,hj,X_,hjl⟩;rw[HS.o]at hjl ⊢;obtain rfl:=hjl HN.o;have HT:Hid (SA w w1 b s (i+sp.length)):=X_.JZ;have hz:=(RY w _ _ _ _ _).to X_ fM;have HZ:Hid (RP w1 w.heap.size _ _ _ _ _):=hz;clear X_ hjl hz;go_wp2_with fail;refine(PE (VF sp) _ gp.o).mono ?_;rintro e w1 ⟨rfl,hb⟩;have OS:Hid _:=HT.o.below hb;have hz:=HZ.o.below hb;refine Jp ?_;intro z0 z1 z2 z3 z4 z5 zf;clear hb hz;go_wp2;refine ZQ (v:=.agg #[VI kk,VI (U6 sp:Nat),.string ⟨#[]⟩,.string (VF sp),.string ⟨#[]⟩,.pointer none]) ai0 rfl ?_;refine⟨by rw[HK.o,<- i9.o];rfl,⟨_,hj,OS.o.N8 HH.o.lt UM _ _ _ _ _,λx n hx=>?_⟩⟩;exact ahL
theorem SA.alloc {b:Nat}{s:ByteArray}{i:Nat}(h:SA w w1 b s i)(o:Obj):SA w (w1.alloc o) b s i:=⟨h.rd.alloc o,h.grown.trans (Xv w1 o _)⟩
theorem RP.alloc {z:Nat}{v0 v1 v2 v3 v4:Value}(h:RP w z v0 v1 v2 v3 v4)(o:Obj):RP (w.alloc o) z v0 v1 v2 v3 v4:=(ZV w o z h.lt).trans h
theorem RP.Ld {z u k:Nat}{v0 v1 v2 v3 v4:Value}(h:RP w z v0 v1 v2 v3 v4)(hne:z≠u)(v:Value):RP (w.setCell (VJ u k) v) z v0 v1 v2 v3 v4:=(ZW w (VJ u k) v z hne).trans h
theorem RP.set0 {z:Nat}{v0 v1 v2 v3 v4:Value}(h:RP w z v0 v1 v2 v3 v4)(v:Value):RP (w.setCell (VJ z 0) v) z v v1 v2 v3 v4:=by
 exact zi
theorem RP.set1 {z:Nat}{v0 v1 v2 v3 v4:Value}(h:RP w z v0 v1 v2 v3 v4)(v:Value):RP (w.setCell (VJ z 1) v) z v0 v v2 v3 v4:=by
 exact zi
theorem RP.set2 {z:Nat}{v0 v1 v2 v3 v4:Value}(h:RP w z v0 v1 v2 v3 v4)(v:Value):RP (w.setCell (VJ z 2) v) z v0 v1 v v3 v4:=by
 exact zi
theorem RP.xW {z:Nat}{v0 v1 v2 v3 v4:Value}(h:RP w z v0 v1 v2 v3 v4)(v:Value):RP (w.setCell (VJ z 3) v) z v0 v1 v2 v v4:=by
 exact zi
theorem RP.bV {z:Nat}{v0 v1 v2 v3 v4:Value}(h:RP w z v0 v1 v2 v3 v4)(v:Value):RP (w.setCell (VJ z 4) v) z v0 v1 v2 v3 v:=by
 exact zi
theorem RP.apC {z:Nat}{v0 v1 v2 v3 v4:Value}(h:RP w z v0 v1 v2 v3 v4):RP (w.setCell (VJ z 5) (.pointer none)) z v0 v1 v2 v3 v4:=by
 exact zi
theorem RP.N8 {z:Nat}{v0 v1 v2 v3 v4:Value}(h:RP w z v0 v1 v2 v3 v4)(u0 u1 u2 u3 u4:Value):
 RP ((((((w.setCell (VJ z 0) u0).setCell (VJ z 1) u1).setCell (VJ z 2) u2).setCell (VJ z 3) u3).setCell (VJ z 4) u4).setCell (VJ z 5) (.pointer none)) z u0 u1 u2 u3 u4:=(((((h.set0 u0).set1 u1).set2 u2).xW u3).bV u4).apC
structure JV (w W:World)(b:Nat)(s:ByteArray)(j z u:Nat)(v0 v1 v2 v3 v4:Value):Prop where
 to:SA w W b s j
 hz:RP W z (VI 0) (VI 0) (.string ⟨#[]⟩) (.string ⟨#[]⟩) (.string ⟨#[]⟩)
 hu:RP W u v0 v1 v2 v3 v4
 bz:b<w.heap.size
 zw:w.heap.size<=z
 zu:z<u
theorem JV.call {w W W':World}{b:Nat}{s:ByteArray}{j j' z u:Nat}{v0 v1 v2 v3 v4:Value}(h:JV w W b s j z u v0 v1 v2 v3 v4)(t:SA W W' b s j'):JV w W' b s j' z u v0 v1 v2 v3 v4:=
 ⟨h.to.trans t,h.hz.to t (by have:=h.bz;have:=h.zw;omega),h.hu.to t (by have:=h.bz;have:=h.zw;have:=h.zu;omega),h.bz,h.zw,h.zu⟩
theorem JV.xW {w W:World}{b:Nat}{s:ByteArray}{j z u:Nat}{v0 v1 v2 v3 v4:Value}(h:JV w W b s j z u v0 v1 v2 v3 v4)(v:Value):JV w (W.setCell (VJ u 3) v) b s j z u v0 v1 v2 v v4:=
 ⟨h.to.MS h.bz iP v,h.hz.Ld jk v,h.hu.xW v,h.bz,h.zw,h.zu⟩
theorem JV.bV {w W:World}{b:Nat}{s:ByteArray}{j z u:Nat}{v0 v1 v2 v3 v4:Value}(h:JV w W b s j z u v0 v1 v2 v3 v4)(v:Value):JV w (W.setCell (VJ u 4) v) b s j z u v0 v1 v2 v3 v:=
 ⟨h.to.MS h.bz iP v,h.hz.Ld jk v,h.hu.bV v,h.bz,h.zw,h.zu⟩
theorem lY {b:Nat}{s:ByteArray}{j:Nat}(hb:b<w.heap.size)(ht:SA (w.alloc (.cells #[VI 0,VI 0,.string ⟨#[]⟩,.string ⟨#[]⟩,.string ⟨#[]⟩,.pointer none] 146)) w1 b s j)(v0 v1 v2 v3 v4:Value):
 JV w (w1.alloc (.cells #[v0,v1,v2,v3,v4,.pointer none] 146)) b s j w.heap.size w1.heap.size v0 v1 v2 v3 v4:=by
 have hz:=(RY w (VI 0) (VI 0) (.string ⟨#[]⟩) (.string ⟨#[]⟩) (.string ⟨#[]⟩)).to ht VH;exact⟨ht.JZ.alloc _,hz.alloc _,RY w1 v0 v1 v2 v3 v4,hb,ZN _,hz.lt⟩
theorem Rt {fn:Func}{p:Tmp}(h:fn.results=#[.cell p 146]){tmps:Array Value}{z:Nat}(v0 v1 v2 v3 v4:Value)(hp:tmps.getD p undef=(VG z))(hz:RP w z v0 v1 v2 v3 v4):
 (results fn tmps).run prog w=.ok (.agg #[v0,v1,v2,v3,v4,.pointer none]) w:=by
 have z0:=hz.c0;have z1:=hz.c1;have z2:=hz.c2;have z3:=hz.c3;have z4:=hz.c4;have z5:=hz.c5;have hp2:tmps[p]?.getD undef=(VG z):=adi;simp[results,h,hp2,go_sem,z0,z1,z2,z3,z4,z5]
theorem MG {s:ByteArray}{i:Nat}{nm:List UInt8}(h:Ve ((bl s).drop i)=nm)(hne:nm≠[]):i+nm.length<=s.size:=by
 obtain⟨_,v,hv⟩:=QD (r:=(bl s).drop i) (by rw[h];exact hne);exact amS
theorem alp {s:ByteArray}{i:Nat}{nm:List UInt8}(h:TW ((bl s).drop i)=nm)(hne:nm≠[]):i+nm.length<=s.size:=by
 obtain⟨_,v,hv⟩:=Qe (r:=(bl s).drop i) (by rw[h];exact hne);exact amS
theorem Gy (b:Nat)(s:ByteArray)(i:Nat)(kk:Nat)(w:World)(hs:s.size<=140737488355328)(hi':i<=s.size)(E_:Ve ((bl s).drop (i))=[])(h:Uz w b s i):
 Calls prog 109 #[VG b,VI kk] w λe w'=>e=.returned (RV none)/\∃j,j<=s.size/\SA w w' b s j:=by
 have HH:=UQ h;have L_:=h.lt;have Ng:Hid _:=E_;clear E_;clear h;go_enter func109,ntmps109;go_wp2;refine Ot ?_;intro G HR HG;go_wp2_with fail;refine vP ?_;intro w1 X_;refine ak6 ?_;intro Bb sI hz oq _ _ _ _ _ z0 zf;clear X_ hz;go_wp2
 go_step3
 exact ang
theorem Ac (b:Nat)(s:ByteArray)(i:Nat)(nm:List UInt8)(w:World)(hs:s.size<=140737488355328)(hi':i<=s.size)(E_:Ve ((bl s).drop (i))=nm)(TH:nm≠[])(h:Uz w b s i):
 Calls prog 109 #[VG b,VI 17] w λe w'=>e=.returned (.agg #[VI 17,VI 0,.string (VF nm),.string ⟨#[]⟩,.string ⟨#[]⟩,.pointer none])/\SA w w' b s (i+nm.length):=by
 exact am8
theorem xQ (b:Nat)(s:ByteArray)(i:Nat)(nm:List UInt8)(w:World)(hs:s.size<=140737488355328)(hi':i<=s.size)(E_:Ve ((bl s).drop (i))=nm)(TH:nm≠[])(h:Uz w b s i):
 Calls prog 109 #[VG b,VI 18] w λe w'=>e=.returned (.agg #[VI 18,VI 0,.string (VF nm),.string ⟨#[]⟩,.string ⟨#[]⟩,.pointer none])/\SA w w' b s (i+nm.length):=by
 exact am8
theorem BX (b:Nat)(s:ByteArray)(i:Nat)(nm:List UInt8)(w:World)(hs:s.size<=140737488355328)(hi':i<=s.size)(E_:Ve ((bl s).drop (i))=nm)(TH:nm≠[])(h:Uz w b s i):
 Calls prog 109 #[VG b,VI 0] w λe w'=>e=.returned (RV none)/\∃j,j<=s.size/\SA w w' b s j:=by
 refine Gg ?_;intro HH L_ Ng Ma;have nW:=MG E_ TH;clear E_ TH;clear h;go_enter func109,ntmps109;go_wp2;refine Ot ?_;intro G HR HG;go_wp2_with fail;refine vP ?_;intro w1 X_;refine ak6 ?_;intro Bb sI hz oq _ _ _ _ _ z0 zf;clear X_ hz;go_wp2
 go_step3
 exact ang
theorem DN (b:Nat)(s:ByteArray)(i:Nat)(nm:List UInt8)(nq:List UInt8)(w:World)(hs:s.size<=140737488355328)(hi':i<=s.size)(E_:Ve ((bl s).drop (i))=nm)(TH:nm≠[])(N3:i+nm.length<s.size)(hd3:s[i+nm.length].toNat=46)(RA:Ve ((bl s).drop (i+nm.length+1))=nq)(tr:nq≠[])(h:Uz w b s i):
 Calls prog 109 #[VG b,VI 20] w λe w'=>e=.returned (.agg #[VI 20,VI 0,.string (VF nm),.string ⟨#[]⟩,.string (VF nq),.pointer none])/\SA w w' b s (i+nm.length+1+nq.length):=by
 refine Gg ?_;intro HH L_ Ng Ma;clear E_ TH;have JT:Hid _:=hd3;clear hd3;have wT:Hid _:=RA;have b9:=RG tr;clear RA tr;clear h;go_enter func109,ntmps109;go_wp2;refine Ot ?_;intro G HR HG;go_wp2_with fail;refine vP ?_;intro w1 X_;refine ak7 ?_;intro J_ hz;have oq:=hz.lt;refine Jp ?_;intro z0 z1 z2 z3 z4 z5 zf;clear X_ hz;go_wp2
 go_step3
 refine Pg ?_;go_wp2_with fail;refine tV ?_;intro w1 X_ J_;clear z0 z1 z2 z3 z4 z5 zf;clear X_;refine LU ?_;intro z0 z1 z2 z3 z4 z5 zf u0 u1 u2 u3 u4 u5 uf;go_wp2_with fail;refine(TI b s (i+nm.length+1) _ hs VH J_.o.to.rd).mono ?_;exact anH
theorem EI (b:Nat)(s:ByteArray)(i:Nat)(nm:List UInt8)(w:World)(hs:s.size<=140737488355328)(hi':i<=s.size)(E_:Ve ((bl s).drop (i))=nm)(TH:nm≠[])(hd3:∀hlt:i+nm.length<s.size,s[i+nm.length].toNat≠46)(h:Uz w b s i):
 Calls prog 109 #[VG b,VI 20] w λe w'=>e=.returned (RV none)/\∃j,j<=s.size/\SA w w' b s j:=by
 refine Gg ?_;intro HH L_ Ng Ma;have nW:=MG E_ TH;clear E_ TH;have JT:Hid _:=hd3;clear hd3;clear h;go_enter func109,ntmps109;go_wp2;refine Ot ?_;intro G HR HG;go_wp2_with fail;refine vP ?_;intro w1 X_;refine ak7 ?_;intro J_ hz;refine Jp ?_;intro z0 z1 z2 z3 z4 z5 zf;clear X_ hz;go_wp2
 go_step3
 refine Pg ?_;go_wp2_with fail;refine acE ?_;intro w1 X_ J_;clear z0 z1 z2 z3 z4 z5 zf;clear X_;obtain⟨z0,z1,z2,z3,z4,z5,zf⟩:=J_.o.hz.all;obtain⟨u0,u0,u0,u0,u0,u0,uf⟩:=J_.o.hu.all;go_wp2
 go_step3
 exact afb
theorem Et (b:Nat)(s:ByteArray)(i:Nat)(nm:List UInt8)(w:World)(hs:s.size<=140737488355328)(hi':i<=s.size)(E_:Ve ((bl s).drop (i))=nm)(TH:nm≠[])(N3:i+nm.length<s.size)(hd3:s[i+nm.length].toNat=46)(RA:Ve ((bl s).drop (i+nm.length+1))=[])(h:Uz w b s i):
 Calls prog 109 #[VG b,VI 20] w λe w'=>e=.returned (RV none)/\∃j,j<=s.size/\SA w w' b s j:=by
 refine Gg ?_;intro HH L_ Ng Ma;clear E_ TH;have JT:Hid _:=hd3;clear hd3;have wT:Hid _:=RA;clear RA;clear h;go_enter func109,ntmps109;go_wp2;refine Ot ?_;intro G HR HG;go_wp2_with fail;refine vP ?_;intro w1 X_;refine ak7 ?_;intro J_ hz;have oq:=hz.lt;refine Jp ?_;intro z0 z1 z2 z3 z4 z5 zf;clear X_ hz;go_wp2
 go_step3
 refine Pg ?_;go_wp2_with fail;refine tV ?_;intro w1 X_ J_;clear z0 z1 z2 z3 z4 z5 zf;clear X_;refine LU ?_;intro z0 z1 z2 z3 z4 z5 zf u0 u1 u2 u3 u4 u5 uf;go_wp2_with fail;refine(TI b s (i+nm.length+1) _ hs VH J_.o.to.rd).mono ?_;rintro e w1 ⟨rfl,X_⟩;rw[wT.o]at X_ ⊢;have J_:=J_.o.call X_;clear z0 z1 z2 z3 z4 z5 zf u0 u1 u2 u3 u4 u5 uf;refine IV ?_;intro z0 z1 z2 z3 z4 z5 zf u0 u1 u2 u3 u4 u5 uf;have N1:Hid _:=J_.bV (.string (VF []));clear J_ X_;go_wp2
 go_step3
 exact afT
theorem CX (b:Nat)(s:ByteArray)(i:Nat)(nm:List UInt8)(sl:List UInt8)(w:World)(hs:s.size<=140737488355328)(hi':i<=s.size)(E_:Ve ((bl s).drop (i))=nm)(TH:nm≠[])(N3:i+nm.length<s.size)(hd3:s[i+nm.length].toNat=46)(hsl:TW ((bl s).drop (i+nm.length+1))=sl)(Mh:sl≠[])(h:Uz w b s i):
 Calls prog 109 #[VG b,VI 19] w λe w'=>e=.returned (.agg #[VI 19,VI 0,.string (VF nm),.string (VF sl),.string ⟨#[]⟩,.pointer none])/\SA w w' b s (i+nm.length+1+sl.length):=by
 refine Gg ?_;intro HH L_ Ng Ma;clear E_ TH;have JT:Hid _:=hd3;clear hd3;have vQ:Hid _:=hsl;have AH:=UQ Mh;have n8:=RG Mh;clear hsl Mh;clear h;go_enter func109,ntmps109;go_wp2;refine Ot ?_;intro G HR HG;go_wp2_with fail;refine vP ?_;intro w1 X_;refine akL ?_;intro J_ hz;have oq:=hz.lt;refine Jp ?_;intro z0 z1 z2 z3 z4 z5 zf;clear X_ hz;go_wp2
 go_step3
 refine Pg ?_;go_wp2_with fail;refine tV ?_;intro w1 X_ J_;clear z0 z1 z2 z3 z4 z5 zf;clear X_;refine LU ?_;intro z0 z1 z2 z3 z4 z5 zf u0 u1 u2 u3 u4 u5 uf;go_wp2_with fail;refine dh ?_;intro w1 j hj X_ hjl;obtain rfl:=hjl AH.o;have J_:=J_.o.call X_;clear z0 z1 z2 z3 z4 z5 zf u0 u1 u2 u3 u4 u5 uf;refine IV ?_;intro z0 z1 z2 z3 z4 z5 zf u0 u1 u2 u3 u4 u5 uf;have N1:Hid _:=J_.xW (.string (VF sl));clear J_ X_ hjl;go_wp2;refine aeP ?_;exact aiC
theorem Es (b:Nat)(s:ByteArray)(i:Nat)(nm:List UInt8)(w:World)(hs:s.size<=140737488355328)(hi':i<=s.size)(E_:Ve ((bl s).drop (i))=nm)(TH:nm≠[])(hd3:∀hlt:i+nm.length<s.size,s[i+nm.length].toNat≠46)(h:Uz w b s i):
 Calls prog 109 #[VG b,VI 19] w λe w'=>e=.returned (RV none)/\∃j,j<=s.size/\SA w w' b s j:=by
 refine Gg ?_;intro HH L_ Ng Ma;have nW:=MG E_ TH;clear E_ TH;have JT:Hid _:=hd3;clear hd3;clear h;go_enter func109,ntmps109;go_wp2;refine Ot ?_;intro G HR HG;go_wp2_with fail;refine vP ?_;intro w1 X_;refine akL ?_;intro J_ hz;refine Jp ?_;intro z0 z1 z2 z3 z4 z5 zf;clear X_ hz;go_wp2
 go_step3
 refine Pg ?_;go_wp2_with fail;refine acE ?_;intro w1 X_ J_;clear z0 z1 z2 z3 z4 z5 zf;clear X_;obtain⟨z0,z1,z2,z3,z4,z5,zf⟩:=J_.o.hz.all;obtain⟨u0,u0,u0,u0,u0,u0,uf⟩:=J_.o.hu.all;go_wp2
 go_step3
 exact afb
theorem Eu (b:Nat)(s:ByteArray)(i:Nat)(nm:List UInt8)(w:World)(hs:s.size<=140737488355328)(hi':i<=s.size)(E_:Ve ((bl s).drop (i))=nm)(TH:nm≠[])(N3:i+nm.length<s.size)(hd3:s[i+nm.length].toNat=46)(hsl:TW ((bl s).drop (i+nm.length+1))=[])(h:Uz w b s i):
 Calls prog 109 #[VG b,VI 19] w λe w'=>e=.returned (RV none)/\∃j,j<=s.size/\SA w w' b s j:=by
 refine Gg ?_;intro HH L_ Ng Ma;clear E_ TH;have JT:Hid _:=hd3;clear hd3;have vQ:Hid _:=hsl;clear hsl;clear h;go_enter func109,ntmps109;go_wp2;refine Ot ?_;intro G HR HG;go_wp2_with fail;refine vP ?_;intro w1 X_;refine akL ?_;intro J_ hz;have oq:=hz.lt;refine Jp ?_;intro z0 z1 z2 z3 z4 z5 zf;clear X_ hz;go_wp2
 go_step3
 refine Pg ?_;go_wp2_with fail;refine tV ?_;intro w1 X_ J_;clear z0 z1 z2 z3 z4 z5 zf;clear X_;refine LU ?_;intro z0 z1 z2 z3 z4 z5 zf u0 u1 u2 u3 u4 u5 uf;go_wp2_with fail;refine dh ?_;intro w1 j hj X_ hjl;have J_:=J_.o.call X_;clear z0 z1 z2 z3 z4 z5 zf u0 u1 u2 u3 u4 u5 uf;refine IV ?_;intro z0 z1 z2 z3 z4 z5 zf u0 u1 u2 u3 u4 u5 uf;have N1:Hid _:=J_.xW (.string (VF []));clear J_ X_ hjl;go_wp2
 go_step3
 exact afT
theorem Dt (b:Nat)(s:ByteArray)(i:Nat)(nm:List UInt8)(sl:List UInt8)(nq:List UInt8)(w:World)(hs:s.size<=140737488355328)(hi':i<=s.size)(E_:Ve ((bl s).drop (i))=nm)(TH:nm≠[])(N3:i+nm.length<s.size)(hd3:s[i+nm.length].toNat=46)(hsl:TW ((bl s).drop (i+nm.length+1))=sl)(Mh:sl≠[])(AF:i+nm.length+1+sl.length<s.size)(Bn:s[i+nm.length+1+sl.length].toNat=46)(RA:Ve ((bl s).drop (i+nm.length+1+sl.length+1))=nq)(tr:nq≠[])(h:Uz w b s i):
 Calls prog 109 #[VG b,VI 21] w λe w'=>e=.returned (.agg #[VI 21,VI 0,.string (VF nm),.string (VF sl),.string (VF nq),.pointer none])/\SA w w' b s (i+nm.length+1+sl.length+1+nq.length):=by
 refine Gg ?_;intro HH L_ Ng Ma;clear E_ TH;have JT:Hid _:=hd3;clear hd3;have vQ:Hid _:=hsl;have AH:=UQ Mh;have n8:=RG Mh;clear hsl Mh;have ux:Hid _:=Bn;clear Bn;have wT:Hid _:=RA;have b9:=RG tr;clear RA tr;clear h;go_enter func109,ntmps109;go_wp2;refine Ot ?_;intro G HR HG;go_wp2_with fail;refine aee ?_;intro w1 X_ J_ hz;have oq:=hz.lt;refine Jp ?_;intro z0 z1 z2 z3 z4 z5 zf;clear X_ hz;go_wp2
 go_step3
 refine Pg ?_;go_wp2_with fail;refine tV ?_;intro w1 X_ J_;clear z0 z1 z2 z3 z4 z5 zf;clear X_;refine LU ?_;intro z0 z1 z2 z3 z4 z5 zf u0 u1 u2 u3 u4 u5 uf;go_wp2_with fail;refine dh ?_;intro w1 j hj X_ hjl;obtain rfl:=hjl AH.o;have J_:=J_.o.call X_;clear z0 z1 z2 z3 z4 z5 zf u0 u1 u2 u3 u4 u5 uf;refine IV ?_;intro z0 z1 z2 z3 z4 z5 zf u0 u1 u2 u3 u4 u5 uf;have N1:Hid _:=J_.xW (.string (VF sl));clear J_ X_ hjl;go_wp2
 go_step3
 go_wp2_with fail;refine(TY b s (i+nm.length+1+sl.length) 46 _ hs AF ux.o N1.o.to.rd).mono ?_;rintro e w1 ⟨rfl,X_⟩;have J_:Hid _:=N1.o.call X_;clear z0 z1 z2 z3 z4 z5 zf u0 u1 u2 u3 u4 u5 uf;clear X_;refine LU ?_;intro z0 z1 z2 z3 z4 z5 zf u0 u1 u2 u3 u4 u5 uf;go_wp2_with fail;refine(TI b s (i+nm.length+1+sl.length+1) _ hs VH J_.o.to.rd).mono ?_;exact anH
theorem EN (b:Nat)(s:ByteArray)(i:Nat)(nm:List UInt8)(w:World)(hs:s.size<=140737488355328)(hi':i<=s.size)(E_:Ve ((bl s).drop (i))=nm)(TH:nm≠[])(hd3:∀hlt:i+nm.length<s.size,s[i+nm.length].toNat≠46)(h:Uz w b s i):
 Calls prog 109 #[VG b,VI 21] w λe w'=>e=.returned (RV none)/\∃j,j<=s.size/\SA w w' b s j:=by
 refine Gg ?_;intro HH L_ Ng Ma;have nW:=MG E_ TH;clear E_ TH;have JT:Hid _:=hd3;clear hd3;clear h;go_enter func109,ntmps109;go_wp2;refine Ot ?_;intro G HR HG;go_wp2_with fail;refine aee ?_;intro w1 X_ J_ hz;refine Jp ?_;intro z0 z1 z2 z3 z4 z5 zf;clear X_ hz;go_wp2
 go_step3
 refine Pg ?_;go_wp2_with fail;refine acE ?_;intro w1 X_ J_;clear z0 z1 z2 z3 z4 z5 zf;clear X_;obtain⟨z0,z1,z2,z3,z4,z5,zf⟩:=J_.o.hz.all;obtain⟨u0,u0,u0,u0,u0,u0,uf⟩:=J_.o.hu.all;go_wp2
 go_step3
 exact afb
theorem ES (b:Nat)(s:ByteArray)(i:Nat)(nm:List UInt8)(w:World)(hs:s.size<=140737488355328)(hi':i<=s.size)(E_:Ve ((bl s).drop (i))=nm)(TH:nm≠[])(N3:i+nm.length<s.size)(hd3:s[i+nm.length].toNat=46)(hsl:TW ((bl s).drop (i+nm.length+1))=[])(h:Uz w b s i):
 Calls prog 109 #[VG b,VI 21] w λe w'=>e=.returned (RV none)/\∃j,j<=s.size/\SA w w' b s j:=by
 refine Gg ?_;intro HH L_ Ng Ma;clear E_ TH;have JT:Hid _:=hd3;clear hd3;have vQ:Hid _:=hsl;clear hsl;clear h;go_enter func109,ntmps109;go_wp2;refine Ot ?_;intro G HR HG;go_wp2_with fail;refine aee ?_;intro w1 X_ J_ hz;have oq:=hz.lt;refine Jp ?_;intro z0 z1 z2 z3 z4 z5 zf;clear X_ hz;go_wp2
 go_step3
 refine Pg ?_;go_wp2_with fail;refine tV ?_;intro w1 X_ J_;clear z0 z1 z2 z3 z4 z5 zf;clear X_;refine LU ?_;intro z0 z1 z2 z3 z4 z5 zf u0 u1 u2 u3 u4 u5 uf;go_wp2_with fail;refine dh ?_;intro w1 j hj X_ hjl;have J_:=J_.o.call X_;clear z0 z1 z2 z3 z4 z5 zf u0 u1 u2 u3 u4 u5 uf;refine IV ?_;intro z0 z1 z2 z3 z4 z5 zf u0 u1 u2 u3 u4 u5 uf;have N1:Hid _:=J_.xW (.string (VF []));clear J_ X_ hjl;go_wp2
 go_step3
 exact afT
theorem Ew (b:Nat)(s:ByteArray)(i:Nat)(nm:List UInt8)(sl:List UInt8)(w:World)(hs:s.size<=140737488355328)(hi':i<=s.size)(E_:Ve ((bl s).drop (i))=nm)(TH:nm≠[])(N3:i+nm.length<s.size)(hd3:s[i+nm.length].toNat=46)(hsl:TW ((bl s).drop (i+nm.length+1))=sl)(Mh:sl≠[])(Bn:∀hlt:i+nm.length+1+sl.length<s.size,s[i+nm.length+1+sl.length].toNat≠46)(h:Uz w b s i):
 Calls prog 109 #[VG b,VI 21] w λe w'=>e=.returned (RV none)/\∃j,j<=s.size/\SA w w' b s j:=by
 refine Gg ?_;intro HH L_ Ng Ma;clear E_ TH;have JT:Hid _:=hd3;clear hd3;have vQ:Hid _:=hsl;have AH:=UQ Mh;have n8:=RG Mh;clear hsl Mh;have ux:Hid _:=Bn;clear Bn;clear h;go_enter func109,ntmps109;go_wp2;refine Ot ?_;intro G HR HG;go_wp2_with fail;refine aee ?_;intro w1 X_ J_ hz;refine Jp ?_;intro z0 z1 z2 z3 z4 z5 zf;clear X_ hz;go_wp2
 go_step3
 refine Pg ?_;go_wp2_with fail;refine tV ?_;intro w1 X_ J_;clear z0 z1 z2 z3 z4 z5 zf;clear X_;refine LU ?_;intro z0 z1 z2 z3 z4 z5 zf u0 u1 u2 u3 u4 u5 uf;go_wp2_with fail;refine dh ?_;intro w1 j hj X_ hjl;obtain rfl:=hjl AH.o;have J_:=J_.o.call X_;clear z0 z1 z2 z3 z4 z5 zf u0 u1 u2 u3 u4 u5 uf;refine IV ?_;intro z0 z1 z2 z3 z4 z5 zf u0 u1 u2 u3 u4 u5 uf;have N1:Hid _:=J_.xW (.string (VF sl));clear J_ X_ hjl;go_wp2
 go_step3
 go_wp2_with fail;refine(TU b s (i+nm.length+1+sl.length) 46 _ hs VH ux.o N1.o.to.rd).mono ?_;rintro e w1 ⟨rfl,X_⟩;have J_:Hid _:=N1.o.call X_;clear z0 z1 z2 z3 z4 z5 zf u0 u1 u2 u3 u4 u5 uf;clear X_;refine LU ?_;intro z0 z1 z2 z3 z4 z5 zf u0 u1 u2 u3 u4 u5 uf;go_wp2
 go_step3
 exact afb
theorem ET (b:Nat)(s:ByteArray)(i:Nat)(nm:List UInt8)(sl:List UInt8)(w:World)(hs:s.size<=140737488355328)(hi':i<=s.size)(E_:Ve ((bl s).drop (i))=nm)(TH:nm≠[])(N3:i+nm.length<s.size)(hd3:s[i+nm.length].toNat=46)(hsl:TW ((bl s).drop (i+nm.length+1))=sl)(Mh:sl≠[])(AF:i+nm.length+1+sl.length<s.size)(Bn:s[i+nm.length+1+sl.length].toNat=46)(RA:Ve ((bl s).drop (i+nm.length+1+sl.length+1))=[])(h:Uz w b s i):
 Calls prog 109 #[VG b,VI 21] w λe w'=>e=.returned (RV none)/\∃j,j<=s.size/\SA w w' b s j:=by
 refine Gg ?_;intro HH L_ Ng Ma;clear E_ TH;have JT:Hid _:=hd3;clear hd3;have vQ:Hid _:=hsl;have AH:=UQ Mh;have n8:=RG Mh;clear hsl Mh;have ux:Hid _:=Bn;clear Bn;have wT:Hid _:=RA;clear RA;clear h;go_enter func109,ntmps109;go_wp2;refine Ot ?_;intro G HR HG;go_wp2_with fail;refine aee ?_;intro w1 X_ J_ hz;have oq:=hz.lt;refine Jp ?_;intro z0 z1 z2 z3 z4 z5 zf;clear X_ hz;go_wp2
 go_step3
 refine Pg ?_;go_wp2_with fail;refine tV ?_;intro w1 X_ J_;clear z0 z1 z2 z3 z4 z5 zf;clear X_;refine LU ?_;intro z0 z1 z2 z3 z4 z5 zf u0 u1 u2 u3 u4 u5 uf;go_wp2_with fail;refine dh ?_;intro w1 j hj X_ hjl;obtain rfl:=hjl AH.o;have J_:=J_.o.call X_;clear z0 z1 z2 z3 z4 z5 zf u0 u1 u2 u3 u4 u5 uf;refine IV ?_;intro z0 z1 z2 z3 z4 z5 zf u0 u1 u2 u3 u4 u5 uf;have N1:Hid _:=J_.xW (.string (VF sl));clear J_ X_ hjl;go_wp2
 go_step3
 go_wp2_with fail;refine(TY b s (i+nm.length+1+sl.length) 46 _ hs AF ux.o N1.o.to.rd).mono ?_;rintro e w1 ⟨rfl,X_⟩;have J_:Hid _:=N1.o.call X_;clear z0 z1 z2 z3 z4 z5 zf u0 u1 u2 u3 u4 u5 uf;clear X_;refine LU ?_;intro z0 z1 z2 z3 z4 z5 zf u0 u1 u2 u3 u4 u5 uf;go_wp2_with fail;refine(TI b s (i+nm.length+1+sl.length+1) _ hs VH J_.o.to.rd).mono ?_;rintro e w1 ⟨rfl,X_⟩;rw[wT.o]at X_ ⊢;have J_:=J_.o.call X_;clear z0 z1 z2 z3 z4 z5 zf u0 u1 u2 u3 u4 u5 uf;refine IV ?_;intro z0 z1 z2 z3 z4 z5 zf u0 u1 u2 u3 u4 u5 uf;have N1:Hid _:=J_.bV (.string (VF []));clear J_ X_;go_wp2
 go_step3
 exact afT
theorem MW (s:ByteArray)(p:Nat)(c:UInt8):(∃hlt:p<s.size,s[p].toNat=c.toNat/\(bl s)[p]?=some c)\/((∀hlt:p<s.size,s[p].toNat≠c.toNat)/\(bl s)[p]?≠some c):=by
 by_cases hlt:p<s.size
 . by_cases h:s[p].toNat=c.toNat
   . exact .inl ⟨hlt,h,by rw[Si s p hlt,Zj.1 h]⟩
   . exact .inr ⟨λ_=>h,λe=>h (by rw[Si s p hlt]at e;injection e with e;rw[e])⟩
 . exact .inr ⟨λh=>absurd h hlt,λe=>hlt (by have:=(Z7.1 e).1;rw[VB]at this;exact this)⟩
theorem RS {f:Nat}{args:Array Value}{b:Nat}{s:ByteArray}{i0:Nat}{o:Option (W×Nat)}(ho:o=none)
 (h:Calls prog f args w λe w'=>e=.returned (RV none)/\∃j,j<=s.size/\SA w w' b s j):Calls prog f args w λe w'=>e=.returned (RV o)/\Got w w' b s i0 o:=by
 refine h.mono ?_;rintro e w' ⟨rfl,j,hj,ht⟩;exact⟨by rw[ho],j,hj,ht,λx n hx=>by rw[ho]at hx;cases hx⟩
theorem Ry {f:Nat}{args:Array Value}{b:Nat}{s:ByteArray}{i0 j:Nat}{o:Option (W×Nat)}{x:W}{n:Nat}{v:Value}(ho:o=some (x,n))(hv:v=RV (some (x,n)))(hj:j<=s.size)(hn:j=i0+n)
 (h:Calls prog f args w λe w'=>e=.returned v/\SA w w' b s j):Calls prog f args w λe w'=>e=.returned (RV o)/\Got w w' b s i0 o:=by
 refine h.mono ?_;rintro e w' ⟨rfl,ht⟩;exact⟨by rw[ho,hv],j,hj,ht,λy m hx=>by rw[ho]at hx;injection hx with hx;injection hx with _ hx;rw[<- hx];exact hn⟩
theorem aaK (s:ByteArray)(i k a:Nat)(nm:List UInt8)(E_:Ve ((bl s).drop i)=nm)(hne:nm≠[]):TP k a ((bl s).drop i) =
 if k=119\/k=98 then some (⟨k,0,[],nm,[]⟩,a+nm.length)
 else if k=120\/k=99 then
  (if (bl s)[i + nm.length]? = some 46 then
   (if TW ((bl s).drop (i + nm.length + 1)) = [] then none
    else if k=120 then some (⟨k,0,TW ((bl s).drop (i+nm.length+1)),nm,[]⟩,a+nm.length+1+(TW ((bl s).drop (i+nm.length+1))).length)
    else if (bl s)[i+nm.length+1+(TW ((bl s).drop (i+nm.length+1))).length]?=some 46 then
     (if Ve ((bl s).drop (i + nm.length + 1 + (TW ((bl s).drop (i + nm.length + 1))).length + 1)) = [] then none
      else some (⟨k,0,TW ((bl s).drop (i+nm.length+1)),nm,Ve ((bl s).drop (i+nm.length+1+(TW ((bl s).drop (i+nm.length+1))).length+1))⟩,
       a+nm.length+1+(TW ((bl s).drop (i+nm.length+1))).length+1+(Ve ((bl s).drop (i+nm.length+1+(TW ((bl s).drop (i+nm.length+1))).length+1))).length))
    else none)
   else none)
 else if k=118 then
  (if (bl s)[i + nm.length]? = some 46 then
   (if Ve ((bl s).drop (i + nm.length + 1)) = [] then none
    else some (⟨k,0,[],nm,Ve ((bl s).drop (i+nm.length+1))⟩,a+nm.length+1+(Ve ((bl s).drop (i+nm.length+1))).length))
   else none)
 else none:=by
 refine ah1 ?_;intro g1 g2;unfold TP;rw[E_,ZX hne];rw[g1,g2,g1,g2];simp only[<- Wn]
theorem Az (b:Nat)(s:ByteArray)(i i0 a k kk:Nat)(w:World)(hs:s.size<=140737488355328)(hi':i<=s.size)(ha:i=i0+a)
 (hk:(k=119/\kk=17)\/(k=98/\kk=18)\/(k=120/\kk=19)\/(k=118/\kk=20)\/(k=99/\kk=21)\/(k=0/\kk=0)) (h:Uz w b s i):
 Calls prog 109 #[VG b,VI kk] w λe w'=>
  e=.returned (RV (TP k a ((bl s).drop i)))/\Got w w' b s i0 (TP k a ((bl s).drop i)):=by
 obtain⟨nm,E_⟩:∃nm,Ve ((bl s).drop i)=nm:=Vx
 by_cases hne:nm=[]
 . subst hne;exact RS (by unfold TP;rw[ZU E_]) (Gy b s i kk w hs hi' E_ h)
 . have hle:=MG E_ hne;have hc:=aaK s i k a nm E_ hne;rcases hk with⟨hk,rfl⟩|⟨hk,rfl⟩|⟨hk,rfl⟩|⟨hk,rfl⟩|⟨hk,rfl⟩|⟨hk,rfl⟩
   . rw[ZU VH]at hc;exact Ry hc (by rw[hk];rfl) hle VH (Ac b s i nm w hs hi' E_ hne h)
   . rw[ZU VH]at hc;exact Ry hc (by rw[hk];rfl) hle VH (xQ b s i nm w hs hi' E_ hne h)
   . rw[ZX VH,ZU VH]at hc;rcases MW s (i+nm.length) 46 with⟨hlt,QQ,hd⟩|⟨QQ,hd⟩
     . rw[ZU hd]at hc;obtain⟨sl,hsl⟩:∃sl,TW ((bl s).drop (i+nm.length+1))=sl:=Vx;rw[hsl]at hc
       by_cases d_:sl=[]
       . subst d_;rw[ZU rfl]at hc;exact RS hc (Eu b s i nm w hs hi' E_ hne hlt QQ hsl h)
       . rw[ZX d_,ZU VH]at hc;exact Ry hc (by rw[hk];rfl) (alp hsl d_) VH (CX b s i nm sl w hs hi' E_ hne hlt QQ hsl d_ h)
     . rw[ZX hd]at hc;exact RS hc (Es b s i nm w hs hi' E_ hne QQ h)
   . rw[ZX VH,ZX VH,ZU VH]at hc;rcases MW s (i+nm.length) 46 with⟨hlt,QQ,hd⟩|⟨QQ,hd⟩
     . rw[ZU hd]at hc;obtain⟨nq,RA⟩:∃nq,Ve ((bl s).drop (i+nm.length+1))=nq:=Vx;rw[RA]at hc
       by_cases GE:nq=[]
       . subst GE;rw[ZU rfl]at hc;exact RS hc (Et b s i nm w hs hi' E_ hne hlt QQ RA h)
       . rw[ZX GE]at hc;exact Ry hc (by rw[hk];rfl) (MG RA GE) VH (DN b s i nm nq w hs hi' E_ hne hlt QQ RA GE h)
     . rw[ZX hd]at hc;exact RS hc (EI b s i nm w hs hi' E_ hne QQ h)
   . rw[ZX VH,ZU VH]at hc;rcases MW s (i+nm.length) 46 with⟨hlt,QQ,hd⟩|⟨QQ,hd⟩
     . rw[ZU hd]at hc;obtain⟨sl,hsl⟩:∃sl,TW ((bl s).drop (i+nm.length+1))=sl:=Vx;rw[hsl]at hc
       by_cases d_:sl=[]
       . subst d_;rw[ZU rfl]at hc;exact RS hc (ES b s i nm w hs hi' E_ hne hlt QQ hsl h)
       . rw[ZX d_,ZX VH]at hc;rcases MW s (i+nm.length+1+sl.length) 46 with⟨hlt2,DG,hd2⟩|⟨DG,hd2⟩
         . rw[ZU hd2]at hc;obtain⟨nq,RA⟩:∃nq,Ve ((bl s).drop (i+nm.length+1+sl.length+1))=nq:=Vx;rw[RA]at hc
           by_cases GE:nq=[]
           . subst GE;rw[ZU rfl]at hc;exact RS hc (ET b s i nm sl w hs hi' E_ hne hlt QQ hsl d_ hlt2 DG RA h)
           . rw[ZX GE]at hc;exact Ry hc (by rw[hk];rfl) (MG RA GE) VH (Dt b s i nm sl nq w hs hi' E_ hne hlt QQ hsl d_ hlt2 DG RA GE h)
         . rw[ZX hd2]at hc;exact RS hc (Ew b s i nm sl w hs hi' E_ hne hlt QQ hsl d_ DG h)
     . rw[ZX hd]at hc;exact RS hc (EN b s i nm w hs hi' E_ hne QQ h)
   . rw[ZX VH,ZX VH,ZX VH]at hc;exact RS hc (BX b s i nm w hs hi' E_ hne h)
theorem JV.al {w W:World}{b:Nat}{s:ByteArray}{j z u:Nat}{v0 v1 v2 v3 v4:Value}(h:JV w W b s j z u v0 v1 v2 v3 v4):(W.cell? (VJ z 0)=some (VI 0)/\W.cell? (VJ z 1)=some (VI 0)/\W.cell? (VJ z 2)=some (.string ⟨#[]⟩)/\W.cell? (VJ z 3)=some (.string ⟨#[]⟩)/\W.cell? (VJ z 4)=some (.string ⟨#[]⟩)/\W.cell? (VJ z 5)=some (.pointer none)/\∀k,W.frozen? (VJ z k)=false)/\W.cell? (VJ u 0)=some v0/\W.cell? (VJ u 1)=some v1/\W.cell? (VJ u 2)=some v2/\W.cell? (VJ u 3)=some v3/\W.cell? (VJ u 4)=some v4/\W.cell? (VJ u 5)=some (.pointer none)/\∀k,W.frozen? (VJ u k)=false:=⟨h.hz.all,h.hu.all⟩
theorem akn {b:Nat}{s:ByteArray}{i:Nat}(h:Uz w b s i):JV w ((w.alloc (.cells #[VI 0,VI 0,.string ⟨#[]⟩,.string ⟨#[]⟩,.string ⟨#[]⟩,.pointer none] 146)).alloc (.cells #[VI 0,VI 0,.string ⟨#[]⟩,.string ⟨#[]⟩,.string ⟨#[]⟩,.pointer none] 146)) b s i w.heap.size (w.heap.size+1) (VI 0) (VI 0) (.string ⟨#[]⟩) (.string ⟨#[]⟩) (.string ⟨#[]⟩):=
 have e:(w.alloc (.cells #[VI 0,VI 0,.string ⟨#[]⟩,.string ⟨#[]⟩,.string ⟨#[]⟩,.pointer none] 146)).heap.size=w.heap.size+1:=ZJ w _
 ⟨((SA.refl h).alloc _).alloc _,(RY w _ _ _ _ _).alloc _,e ▸ RY (w.alloc (.cells #[VI 0,VI 0,.string ⟨#[]⟩,.string ⟨#[]⟩,.string ⟨#[]⟩,.pointer none] 146)) _ _ _ _ _,h.lt,ZN _,XA _⟩
theorem RP.drew {z:Nat}{v0 v1 v2 v3 v4:Value}(h:RP w z v0 v1 v2 v3 v4):RP w.drew z v0 v1 v2 v3 v4:=h
theorem JV.drew {w W:World}{b:Nat}{s:ByteArray}{j z u:Nat}{v0 v1 v2 v3 v4:Value}(h:JV w W b s j z u v0 v1 v2 v3 v4):JV w W.drew b s j z u v0 v1 v2 v3 v4:=⟨h.to.drew,h.hz.drew,h.hu.drew,h.bz,h.zw,h.zu⟩
theorem JV.below {w W W':World}{b:Nat}{s:ByteArray}{j z u:Nat}{v0 v1 v2 v3 v4:Value}(h:JV w W b s j z u v0 v1 v2 v3 v4)(hb:Below W.heap.size W W'):JV w W' b s j z u v0 v1 v2 v3 v4:=⟨h.to.below hb,h.hz.below hb,h.hu.below hb,h.bz,h.zw,h.zu⟩
theorem U7.to {w W:World}{b:Nat}{s:ByteArray}{j:Nat}(h:U7 w)(t:SA w W b s j)(hg:2<b)(hb:b<w.heap.size):U7 W:=λi v hv=>
 (Z9 (w:=w) (t.grown.block 2 VH akS):W.cell? (VJ 2 i)=w.cell? (VJ 2 i)).trans (h i v hv)
theorem UR.to {w W:World}{b:Nat}{s:ByteArray}{j:Nat}(h:UR w)(t:SA w W b s j)(hg:1<b)(hb:b<w.heap.size):UR W:=λi v hv=>
 (Z9 (w:=w) (t.grown.block 1 VH akS):W.cell? (VJ 1 i)=w.cell? (VJ 1 i)).trans (h i v hv)
theorem aeK {s:ByteArray}(hs:s.size<=140737488355328)(a b:Nat):(s.extract a b).size<=140737488355328:=by rw[ByteArray.size_extract];omega
theorem ND {s:ByteArray}{i kk:Nat}(hlt:i<s.size){c:UInt8}(hc:s[i].toNat=c.toNat)(hk:UD [c]=kk):UD (bl (s.extract i (i+1)))=kk:=by
 rw[<- hk];congr 1;rw[Gj,NV,take_snoc s i hlt,Yp (by rw[Za,VB];omega),Zk (by rw[Za,VB];omega),Zj.1 hc];rfl
theorem ab7 (o:Option (W×Nat)):∃(k0 n0:Int) (t2 t3 t4:ByteArray),RV o=.agg #[VI k0,VI n0,.string t2,.string t3,.string t4,.pointer none]:=by
 rcases o with _|⟨x,n⟩
 . exact⟨_,_,_,_,_,rfl⟩
 . exact⟨_,_,_,_,_,rfl⟩
def dZ (q:W×Nat):W×Nat:=(⟨110,-q.1.n,[],[],[]⟩,q.2)
theorem af0 {o:Option (W×Nat)}{i j:Nat}(h:∀x n,o=some (x,n)->j=i+n):∀x n,o.map dZ=some (x,n)->j=i+n:=by
 intro x n hx;rcases o with _|⟨y,m⟩
 . cases hx
 . simp only[ZG,Y2,dZ,YL]at hx;rw[<- hx.2];exact h y m rfl
theorem aaM {p:UInt8->Bool}{m a:Nat}{r:List UInt8}{o:Option (W×Nat)}(hp:∀c,p c=true->U8 c=true)(hm:m<=4)(ho:TA 110 p m a r=o):
 ∃(k0 n:Int) (t2 t3 t4:ByteArray),RV o=.agg #[VI k0,VI n,.string t2,.string t3,.string t4,.pointer none]/\0<=n/\n<10000/\RV (o.map dZ)=.agg #[VI k0,VI (-n),.string t2,.string t3,.string t4,.pointer none]:=by
 subst ho;unfold TA;split
 . exact⟨_,0,_,_,_,rfl,VH,VH,rfl⟩
 . have hb:=IY (Vj p m r) 4 (ZC (Q5 _ _ _) hm) (Y9.2 (λc hc=>hp c (QC _ _ _ c hc)));exact⟨_,(numOf (Vj p m r):Nat),_,_,_,rfl,VH,VH,rfl⟩
theorem QI (b:Nat)(s:ByteArray)(i i0 a k kk hi m:Nat)(p:UInt8->Bool)(o:Option (W×Nat))(w:World)(hs:s.size<=140737488355328)(hi':i<=s.size)(ha:i=i0+a)(hm:m<=4)(hp:aX 48 hi=p)(hkk:kindOf k=kk)
 (pi:∀c,p c=true->U8 c=true) {v:Value} (ho:TA k p m a ((bl s).drop i)=o) (hv:RV o=v) (h:Uz w b s i):
 Calls prog 108 #[VG b,VI kk,.int .u8 hi,VI m] w λe w'=>e=.returned v/\Got w w' b s i0 o:=by
 rw[<- hv,<- ho];exact xJ b s i i0 a k kk hi m p w hs hi' ha hm hp hkk pi h
theorem aes (b:Nat)(s:ByteArray)(i i0 a k kk:Nat)(o:Option (W×Nat))(w:World)(hs:s.size<=140737488355328)(hi':i<=s.size)(ha:i=i0+a)(hkk:kindOf k=kk){v:Value}(ho:QT k a ((bl s).drop i)=o)(hv:RV o=v)(h:Uz w b s i):
 Calls prog 107 #[VG b,VI kk] w λe w'=>e=.returned v/\Got w w' b s i0 o:=by
 rw[<- hv,<- ho];exact aa0 b s i i0 a k kk w hs hi' ha hkk h
theorem qg (b:Nat)(s:ByteArray)(i i0 a k kk:Nat)(o:Option (W×Nat))(w:World)(hs:s.size<=140737488355328)(hi':i<=s.size)(ha:i=i0+a)
 (hk:(k=119/\kk=17)\/(k=98/\kk=18)\/(k=120/\kk=19)\/(k=118/\kk=20)\/(k=99/\kk=21)\/(k=0/\kk=0)) {v:Value} (ho:TP k a ((bl s).drop i)=o) (hv:RV o=v) (h:Uz w b s i):
 Calls prog 109 #[VG b,VI kk] w λe w'=>e=.returned v/\Got w w' b s i0 o:=by
 rw[<- hv,<- ho];exact Az b s i i0 a k kk w hs hi' ha hk h
theorem nY (l:List UInt8):(QG l=119/\Rh l=17)\/(QG l=98/\Rh l=18)\/(QG l=120/\Rh l=19)\/(QG l=118/\Rh l=20)\/(QG l=99/\Rh l=21)\/(QG l=0/\Rh l=0):=by
 unfold QG Rh
 by_cases h1:l=[110,101,119]
 . simp[h1]
 . by_cases h2:l=[98,101]
   . simp[h2]
   . by_cases h3:l=[100,114,111,112]
     . simp[h3]
     . by_cases h4:l=[109,111,118,101]
       . simp[h4]
       . by_cases h5:l=[99,111,112,121]
         . simp[h5]
         . simp[h1,h2,h3,h4,h5]
theorem G9 {s:ByteArray}{i:Nat}{lt:List UInt8}(hl:Vj isSmall 6 ((bl s).drop i)=lt)(hne:lt≠[]):i+lt.length<=s.size:=by
 have h:=Rl s isSmall 6 i;rw[hl]at h;have:=List.length_pos_iff.2 hne;omega
theorem afQ {s:ByteArray}(hs:s.size<=140737488355328){i:Nat}{lt:List UInt8}(hl:Vj isSmall 6 ((bl s).drop i)=lt):(VF lt).size<=140737488355328:=by
 rw[<- VB,NV,<- hl];exact ZC (Q5 _ _ _) VH
theorem acG {s:ByteArray}{i kk:Nat}{lt:List UInt8}(hl:Vj isSmall 6 ((bl s).drop i)=lt)(hk:UD lt=kk):UD (bl (s.extract i (i+lt.length)))=kk:=by
 rw[<- hk];congr 1;obtain⟨t,ht⟩:=QE isSmall 6 ((bl s).drop i);rw[hl]at ht;rw[Gj,NV,WH,ht,show i+lt.length-i=lt.length from VH,Xq rfl]
theorem ali (c:UInt8)(h:Gx c=true):U8 c=true:=by simp[Gx]at h;simp[U8];omega
theorem JV.aft {w W:World}{b:Nat}{s:ByteArray}{j z u:Nat}{v0 v1 v2 v3 v4:Value}(h:JV w W b s j z u v0 v1 v2 v3 v4)(y0 y1 y2 y3 y4:Value):
 JV w ((((((W.setCell (VJ u 0) y0).setCell (VJ u 1) y1).setCell (VJ u 2) y2).setCell (VJ u 3) y3).setCell (VJ u 4) y4).setCell (VJ u 5) (.pointer none)) b s j z u y0 y1 y2 y3 y4:=
 have hne:z≠u:=jk
 ⟨h.to.N8 h.bz iP _ _ _ _ _,((((((h.hz.Ld hne _).Ld hne _).Ld hne _).Ld hne _).Ld hne _).Ld hne _),h.hu.N8 _ _ _ _ _,h.bz,h.zw,h.zu⟩
theorem JV.set1 {w W:World}{b:Nat}{s:ByteArray}{j z u:Nat}{v0 v1 v2 v3 v4:Value}(h:JV w W b s j z u v0 v1 v2 v3 v4)(v:Value):JV w (W.setCell (VJ u 1) v) b s j z u v0 v v2 v3 v4:=
 ⟨h.to.MS h.bz iP v,h.hz.Ld jk v,h.hu.set1 v,h.bz,h.zw,h.zu⟩
theorem JV.apo {w W:World}{b:Nat}{s:ByteArray}{j z u:Nat}{v0 v1 v2 v3 v4:Value}(h:JV w W b s j z u v0 v1 v2 v3 v4)(k:Nat):JV w (W.setCell (VJ b 1) (VI k)) b s k z u v0 v1 v2 v3 v4:=
 ⟨h.to.set k,h.hz.Ld (by have:=h.bz;have:=h.zw;omega) _,h.hu.Ld (by have:=h.bz;have:=h.zw;have:=h.zu;omega) _,h.bz,h.zw,h.zu⟩
theorem dM (b:Nat)(s:ByteArray)(i:Nat)(w:World)(hs:s.size<=140737488355328)(hlt:i<s.size)(hg1:2<b)(hg2:1<b)(g_:U7 w)(U':UR w)(hc:s[i].toNat=43)(h:Uz w b s i):
 Calls prog 76 #[VG b] w λe w'=>e=.returned (.agg #[VI 6,VI 0,.string ⟨#[]⟩,.string ⟨#[]⟩,.string ⟨#[]⟩,.pointer none])/\SA w w' b s (i+1):=by
 refine yI ?_;intro L_ hzb c1 W_ P1;clear g_ U' h;have HC:Hid _:=hc;have zj:Hid (UD (bl (s.extract i (i+1)))=6):=ND hlt (c:=43) hc rfl;refine qC ?_;intro IH;clear hc;go_enter func76,ntmps76;go_wp2;refine Py ?_;intro G HR HG;go_wp2_with fail;refine Og ?_;intro w1 W_;go_wp2_with fail;refine L8 ?_;intro w1 W_;go_wp2_with fail;refine Lj ?_;intro w1 W_;go_wp2_with fail;refine Jq ?_;intro w1 W_;go_wp2_with fail;refine Hq ?_;intro w1 W_;go_wp2_with fail;refine(TY b s (i) 43 _ hs hlt HC.o W_.o.to.rd).mono ?_;refine PG ?_;intro w1 W_;go_wp2
 go_step3
 exact adJ
theorem eH (b:Nat)(s:ByteArray)(i:Nat)(w:World)(hs:s.size<=140737488355328)(hlt:i<s.size)(hg1:2<b)(hg2:1<b)(g_:U7 w)(U':UR w)(hc:s[i].toNat=42)(h:Uz w b s i):
 Calls prog 76 #[VG b] w λe w'=>e=.returned (.agg #[VI 8,VI 0,.string ⟨#[]⟩,.string ⟨#[]⟩,.string ⟨#[]⟩,.pointer none])/\SA w w' b s (i+1):=by
 refine yI ?_;intro L_ hzb c1 W_ P1;clear g_ U' h;have HC:Hid _:=hc;have zj:Hid (UD (bl (s.extract i (i+1)))=8):=ND hlt (c:=42) hc rfl;refine qC ?_;intro IH;clear hc;go_enter func76,ntmps76;go_wp2;refine Py ?_;intro G HR HG;go_wp2_with fail;refine Og ?_;intro w1 W_;go_wp2_with fail;refine L8 ?_;intro w1 W_;go_wp2_with fail;refine Lj ?_;intro w1 W_;go_wp2_with fail;refine Jq ?_;intro w1 W_;go_wp2_with fail;refine Hq ?_;intro w1 W_;go_wp2_with fail;refine rZ ?_;refine PG ?_;intro w1 W_;go_wp2_with fail;refine(TY b s (i) 42 _ hs hlt HC.o W_.o.to.rd).mono ?_;refine PG ?_;intro w1 W_;go_wp2
 go_step3
 exact adJ
theorem dQ (b:Nat)(s:ByteArray)(i:Nat)(w:World)(hs:s.size<=140737488355328)(hlt:i<s.size)(hg1:2<b)(hg2:1<b)(g_:U7 w)(U':UR w)(hc:s[i].toNat=60)(h:Uz w b s i):
 Calls prog 76 #[VG b] w λe w'=>e=.returned (.agg #[VI 9,VI 0,.string ⟨#[]⟩,.string ⟨#[]⟩,.string ⟨#[]⟩,.pointer none])/\SA w w' b s (i+1):=by
 refine yI ?_;intro L_ hzb c1 W_ P1;clear g_ U' h;have HC:Hid _:=hc;have zj:Hid (UD (bl (s.extract i (i+1)))=9):=ND hlt (c:=60) hc rfl;refine qC ?_;intro IH;clear hc;go_enter func76,ntmps76;go_wp2;refine Py ?_;intro G HR HG;go_wp2_with fail;refine Og ?_;intro w1 W_;go_wp2_with fail;refine L8 ?_;intro w1 W_;go_wp2_with fail;refine Lj ?_;intro w1 W_;go_wp2_with fail;refine Jq ?_;intro w1 W_;go_wp2_with fail;refine Hq ?_;intro w1 W_;go_wp2_with fail;refine rZ ?_;refine PG ?_;intro w1 W_;go_wp2_with fail;refine Dw ?_;refine PG ?_;intro w1 W_;go_wp2_with fail;refine(TY b s (i) 60 _ hs hlt HC.o W_.o.to.rd).mono ?_;refine PG ?_;intro w1 W_;go_wp2
 go_step3
 exact adJ
theorem uP (b:Nat)(s:ByteArray)(i:Nat)(w:World)(hs:s.size<=140737488355328)(hlt:i<s.size)(hg1:2<b)(hg2:1<b)(g_:U7 w)(U':UR w)(hc:s[i].toNat=61)(hn:∀hlt:i+1<s.size,s[i+1].toNat≠115)(h:Uz w b s i):
 Calls prog 76 #[VG b] w λe w'=>e=.returned (.agg #[VI 10,VI 0,.string ⟨#[]⟩,.string ⟨#[]⟩,.string ⟨#[]⟩,.pointer none])/\SA w w' b s (i+1):=by
 refine yI ?_;intro L_ hzb c1 W_ P1;clear g_ U' h;have HC:Hid _:=hc;have zj:Hid (UD (bl (s.extract i (i+1)))=10):=ND hlt (c:=61) hc rfl;refine qC ?_;intro IH;clear hc;have HN:Hid _:=hn;clear hn;go_enter func76,ntmps76;go_wp2;refine Py ?_;intro G HR HG;go_wp2_with fail;refine Og ?_;intro w1 W_;go_wp2_with fail;refine(TY b s (i) 61 _ hs hlt HC.o W_.o.to.rd).mono ?_;refine PG ?_;intro w1 W_;go_wp2
 go_step3
 refine Pg ?_;go_wp2_with fail;refine(TU b s (i+1) 115 _ hs VH HN.o W_.o.to.rd).mono ?_;refine PG ?_;intro w1 W_;go_wp2
 go_step3
 exact adJ
theorem jR (b:Nat)(s:ByteArray)(i:Nat)(w:World)(hs:s.size<=140737488355328)(hlt:i<s.size)(hg1:2<b)(hg2:1<b)(g_:U7 w)(U':UR w)(hc:s[i].toNat=45)(he:Q9 (bl s) (i+1)=true)(h:Uz w b s i):
 Calls prog 76 #[VG b] w λe w'=>e=.returned (.agg #[VI 7,VI 0,.string ⟨#[]⟩,.string ⟨#[]⟩,.string ⟨#[]⟩,.pointer none])/\SA w w' b s (i+1):=by
 refine yI ?_;intro L_ hzb c1 W_ P1;clear g_ U' h;have HC:Hid _:=hc;have zj:Hid (UD (bl (s.extract i (i+1)))=7):=ND hlt (c:=45) hc rfl;refine qC ?_;intro IH;clear hc;have HE:Hid _:=he;clear he;go_enter func76,ntmps76;go_wp2;refine Py ?_;intro G HR HG;go_wp2_with fail;refine(TY b s (i) 45 _ hs hlt HC.o W_.o.to.rd).mono ?_;refine PG ?_;intro w1 W_;go_wp2
 go_step3
 refine Pg ?_;go_wp2_with fail;refine(Gi b s (i+1) _ hs VH W_.o.to.rd).mono ?_;rintro e w1 ⟨rfl,X_⟩;rw[HE.o];have W_:Hid _:=W_.o.call X_;clear X_;go_wp2
 go_step3
 exact adJ
theorem nU (b:Nat)(s:ByteArray)(i:Nat)(o:Option (W×Nat))(w:World)(hs:s.size<=140737488355328)(hlt:i<s.size)(hg1:2<b)(hg2:1<b)(g_:U7 w)(U':UR w)(hc:s[i].toNat=61)(y_:i+1<s.size)(hn:s[i+1].toNat=115)(ho:TA 112 U8 1 2 ((bl s).drop (i+1+1))=o)(h:Uz w b s i):
 Calls prog 76 #[VG b] w λe w'=>e=.returned (RV o)/\Got w w' b s i o:=by
 have L_:=h.lt;refine zr8 ?_;intro c1 W_;clear g_ U' h;have HC:Hid _:=hc;clear hc;have HN:Hid _:=hn;clear hn;have HO:Hid _:=ho;clear ho;refine Ij ?_;intro k0 n0 _ _ t2 HV;go_enter func76,ntmps76;go_wp2;refine Py ?_;intro G HR HG;go_wp2_with fail;refine Og ?_;intro w1 W_;go_wp2_with fail;refine(TY b s (i) 61 _ hs hlt HC.o W_.o.to.rd).mono ?_;refine PG ?_;intro w1 W_;go_wp2
 go_step3
 refine Pg ?_;go_wp2_with fail;refine(TY b s (i+1) 115 _ hs y_ HN.o W_.o.to.rd).mono ?_;refine PG ?_;intro w1 W_;go_wp2_with fail;refine(QI b s (i+1+1) i (2) 112 5 57 1 U8 o _ hs VH VH VH rfl rfl (λc h=>h) HO.o HV.o W_.o.to.rd).mono ?_;exact rM
theorem ae4 (b:Nat)(s:ByteArray)(i:Nat)(o:Option (W×Nat))(w:World)(hs:s.size<=140737488355328)(hlt:i<s.size)(hg1:2<b)(hg2:1<b)(g_:U7 w)(U':UR w)(hc:s[i].toNat=62)(ho:TA 62 U8 2 1 ((bl s).drop (i+1))=o)(h:Uz w b s i):
 Calls prog 76 #[VG b] w λe w'=>e=.returned (RV o)/\Got w w' b s i o:=by
 have L_:=h.lt;refine zr8 ?_;intro c1 W_;clear g_ U' h;have HC:Hid _:=hc;clear hc;have HO:Hid _:=ho;clear ho;refine Ij ?_;intro k0 n0 _ _ t2 HV;go_enter func76,ntmps76;go_wp2;refine Py ?_;intro G HR HG;go_wp2_with fail;refine Og ?_;intro w1 W_;go_wp2_with fail;refine L8 ?_;intro w1 W_;go_wp2_with fail;refine Lj ?_;intro w1 W_;go_wp2_with fail;refine(TY b s (i) 62 _ hs hlt HC.o W_.o.to.rd).mono ?_;refine PG ?_;intro w1 W_;go_wp2_with fail;refine(QI b s (i+1) i (1) 62 13 57 2 U8 o _ hs VH VH VH rfl rfl (λc h=>h) HO.o HV.o W_.o.to.rd).mono ?_;exact rM
theorem adA (b:Nat)(s:ByteArray)(i:Nat)(o:Option (W×Nat))(w:World)(hs:s.size<=140737488355328)(hlt:i<s.size)(hg1:2<b)(hg2:1<b)(g_:U7 w)(U':UR w)(hc:s[i].toNat=63)(ho:TA 63 U8 2 1 ((bl s).drop (i+1))=o)(h:Uz w b s i):
 Calls prog 76 #[VG b] w λe w'=>e=.returned (RV o)/\Got w w' b s i o:=by
 have L_:=h.lt;refine zr8 ?_;intro c1 W_;clear g_ U' h;have HC:Hid _:=hc;clear hc;have HO:Hid _:=ho;clear ho;refine Ij ?_;intro k0 n0 _ _ t2 HV;go_enter func76,ntmps76;go_wp2;refine Py ?_;intro G HR HG;go_wp2_with fail;refine Og ?_;intro w1 W_;go_wp2_with fail;refine L8 ?_;intro w1 W_;go_wp2_with fail;refine Lj ?_;intro w1 W_;go_wp2_with fail;refine Jq ?_;intro w1 W_;go_wp2_with fail;refine(TY b s (i) 63 _ hs hlt HC.o W_.o.to.rd).mono ?_;refine PG ?_;intro w1 W_;go_wp2_with fail;refine(QI b s (i+1) i (1) 63 14 57 2 U8 o _ hs VH VH VH rfl rfl (λc h=>h) HO.o HV.o W_.o.to.rd).mono ?_;exact rM
theorem oZ (b:Nat)(s:ByteArray)(i:Nat)(o:Option (W×Nat))(w:World)(hs:s.size<=140737488355328)(hlt:i<s.size)(hg1:2<b)(hg2:1<b)(g_:U7 w)(U':UR w)(hc:s[i].toNat=94)(ho:QT 94 1 ((bl s).drop (i+1))=o)(h:Uz w b s i):
 Calls prog 76 #[VG b] w λe w'=>e=.returned (RV o)/\Got w w' b s i o:=by
 have L_:=h.lt;refine zr8 ?_;intro c1 W_;clear g_ U' h;have HC:Hid _:=hc;clear hc;have HO:Hid _:=ho;clear ho;refine Ij ?_;intro k0 n0 _ _ t2 HV;go_enter func76,ntmps76;go_wp2;refine Py ?_;intro G HR HG;go_wp2_with fail;refine Og ?_;intro w1 W_;go_wp2_with fail;refine L8 ?_;intro w1 W_;go_wp2_with fail;refine(TY b s (i) 94 _ hs hlt HC.o W_.o.to.rd).mono ?_;refine PG ?_;intro w1 W_;go_wp2_with fail;refine(aes b s (i+1) i 1 94 16 o _ hs VH VH rfl HO.o HV.o W_.o.to.rd).mono ?_;exact rM
theorem Ag (b:Nat)(s:ByteArray)(i:Nat)(o:Option (W×Nat))(w:World)(hs:s.size<=140737488355328)(hlt:i<s.size)(hg1:2<b)(hg2:1<b)(g_:U7 w)(U':UR w)(hc:s[i].toNat=45)(he:Q9 (bl s) (i+1)=false)(ho:TA 110 U8 4 1 ((bl s).drop (i+1))=o)(h:Uz w b s i):
 Calls prog 76 #[VG b] w λe w'=>e=.returned (RV (o.map dZ))/\Got w w' b s i (o.map dZ):=by
 have L_:=h.lt;refine zr8 ?_;intro c1 W_;clear g_ U' h;have HC:Hid _:=hc;clear hc;have HE:Hid _:=he;clear he;have HO:Hid _:=ho;obtain⟨k0,n,t2,t3,t4,hv,hn0,hn0,hv2⟩:=aaM (λc h=>h) VH ho;have HV:Hid _:=hv;have HV2:Hid _:=hv2;clear hv hv2 ho;go_enter func76,ntmps76;go_wp2;refine Py ?_;intro G HR HG;go_wp2_with fail;refine(TY b s (i) 45 _ hs hlt HC.o W_.o.to.rd).mono ?_;rintro e w1 ⟨rfl,X_⟩;have J_:Hid _:=W_.o.call X_;clear X_;go_wp2
 go_step3
 refine Pg ?_;go_wp2_with fail;refine(Gi b s (i+1) _ hs VH J_.o.to.rd).mono ?_;rintro e w1 ⟨rfl,X_⟩;rw[HE.o];have J_:Hid _:=J_.o.call X_;clear X_;go_wp2_with fail;refine(QI b s (i+1) i 1 110 1 57 4 U8 o _ hs VH VH VH rfl rfl (λc h=>h) HO.o HV.o J_.o.to.rd).mono ?_;rintro e w1 ⟨rfl,j,hj,X_,hjn⟩;have J_:Hid _:=J_.o.call X_;clear X_;have q:=J_.o.al;have HJ:Hid _:=hjn;clear hjn;clear W_;generalize w.heap.size+1=u at *
 go_upto_region 20 with fail
 have hst:JV w ((((((w1.setCell (VJ u 0) (VI k0)).setCell (VJ u 1) (VI n)).setCell (VJ u 2) (.string t2)).setCell (VJ u 3) (.string t3)).setCell (VJ u 4) (.string t4)).setCell (VJ u 5) (.pointer none)) b s j w.heap.size u (VI k0) (VI n) (.string t2) (.string t3) (.string t4):=J_.o.aft _ _ _ _ _;revert hst;generalize ((((((w1.setCell (VJ u 0) (VI k0)).setCell (VJ u 1) (VI n)).setCell (VJ u 2) (.string t2)).setCell (VJ u 3) (.string t3)).setCell (VJ u 4) (.string t4)).setCell (VJ u 5) (.pointer none))=W4;intro hst;have v8:Hid _:=hst;clear hst;clear q;have q:=v8.o.al
 go_upto_region 21 with fail
 have hst:JV w (W4.setCell (VJ u 1) (VI (-n))) b s j w.heap.size u (VI k0) (VI (-n)) (.string t2) (.string t3) (.string t4):=v8.o.set1 _;revert hst;generalize (W4.setCell (VJ u 1) (VI (-n)))=W5;intro hst;have v8:Hid _:=hst;clear hst;clear q;have q:=v8.o.al;go_wp2;refine HR.o _ _ _ ?_;refine ZQ (Rt results76 _ _ _ _ _ rfl (v8.o.hz.N8 _ _ _ _ _)) rfl ?_;exact⟨YV _ HV2.o.symm,j,hj,v8.o.to.N8 L_ UM _ _ _ _ _,af0 HJ.o⟩
theorem qR (b:Nat)(s:ByteArray)(i:Nat)(o:Option (W×Nat))(w:World)(hs:s.size<=140737488355328)(hlt:i<s.size)(hg1:2<b)(hg2:1<b)(g_:U7 w)(U':UR w)(hc:s[i].toNat≠45/\s[i].toNat≠61/\s[i].toNat≠94/\s[i].toNat≠62/\s[i].toNat≠63/\s[i].toNat≠43/\s[i].toNat≠42/\s[i].toNat≠60)(hl:Vj isSmall 6 ((bl s).drop i)=[])(ho:TA 110 U8 4 0 ((bl s).drop i)=o)(h:Uz w b s i):
 Calls prog 76 #[VG b] w λe w'=>e=.returned (RV o)/\Got w w' b s i o:=by
 have L_:=h.lt;refine zr8 ?_;intro c1 W_;clear g_ U' h;have HC:Hid _:=hc;clear hc;have NL:Hid _:=hl;clear hl;have HO:Hid _:=ho;clear ho;refine Ij ?_;intro k0 n0 _ _ t2 HV;go_enter func76,ntmps76;go_wp2;refine Py ?_;intro G HR HG;go_wp2_with fail;refine Og ?_;intro w1 W_;go_wp2_with fail;refine L8 ?_;intro w1 W_;go_wp2_with fail;refine Lj ?_;intro w1 W_;go_wp2_with fail;refine Jq ?_;intro w1 W_;go_wp2_with fail;refine Hq ?_;intro w1 W_;go_wp2_with fail;refine rZ ?_;refine PG ?_;intro w1 W_;go_wp2_with fail;refine Dw ?_;refine PG ?_;intro w1 W_;go_wp2_with fail;refine yS ?_;refine PG ?_;intro w1 W_;go_wp2_with fail;refine(Qd b s i 97 122 6 isSmall [] _ hs VH VH W_.o.to.rd rfl NL.o).mono ?_;refine PG ?_;intro w1 W_;go_wp2_with fail;refine(QI b s (i) i (0) 110 1 57 4 U8 o _ hs VH VH VH rfl rfl (λc h=>h) HO.o HV.o W_.o.to.rd).mono ?_;exact rM
theorem lW (b:Nat)(s:ByteArray)(i:Nat)(lt:List UInt8)(o:Option (W×Nat))(w:World)(hs:s.size<=140737488355328)(hlt:i<s.size)(hg1:2<b)(hg2:1<b)(g_:U7 w)(U':UR w)(hc:s[i].toNat≠45/\s[i].toNat≠61/\s[i].toNat≠94/\s[i].toNat≠62/\s[i].toNat≠63/\s[i].toNat≠43/\s[i].toNat≠42/\s[i].toNat≠60)(hl:Vj isSmall 6 ((bl s).drop i)=lt)(hle:lt≠[])(y_:i+lt.length<s.size)(hn:s[i+lt.length].toNat=58)(ho:TP (QG lt) (lt.length+1) ((bl s).drop (i+lt.length+1))=o)(h:Uz w b s i):
 Calls prog 76 #[VG b] w λe w'=>e=.returned (RV o)/\Got w w' b s i o:=by
 have L_:=h.lt;refine zr8 ?_;intro c1 W_;have P2:=UQ U';clear g_ U' h;have HC:Hid _:=hc;clear hc;have IH:=UQ (afQ hs hl);have NL:Hid _:=hl;have tl:=RG hle;clear hl hle;have HN:Hid _:=hn;clear hn;have HO:Hid _:=ho;clear ho;refine Ij ?_;intro k0 n0 _ _ t2 HV;go_enter func76,ntmps76;go_wp2;refine Py ?_;intro G HR HG;go_wp2_with fail;refine Og ?_;intro w1 W_;go_wp2_with fail;refine L8 ?_;intro w1 W_;go_wp2_with fail;refine Lj ?_;intro w1 W_;go_wp2_with fail;refine Jq ?_;intro w1 W_;go_wp2_with fail;refine Hq ?_;intro w1 W_;go_wp2_with fail;refine rZ ?_;refine PG ?_;intro w1 W_;go_wp2_with fail;refine Dw ?_;refine PG ?_;intro w1 W_;go_wp2_with fail;refine yS ?_;refine PG ?_;intro w1 W_;go_wp2_with fail;refine ac7 ?_;refine PG ?_;intro w1 W_;go_wp2
 go_step3
 refine Pg ?_;go_wp2_with fail;refine(TY b s (i+lt.length) 58 _ hs y_ HN.o W_.o.to.rd).mono ?_;refine PG ?_;intro w1 W_;go_wp2_with fail;refine(zY (VF lt) _ IH.o (P2.o.to W_.o.to hg2 L_)).mono ?_;rintro e w1 ⟨rfl,hb⟩;rw[NV];have W_:Hid _:=W_.o.below hb;clear hb;go_wp2_with fail;refine(qg b s (i+lt.length+1) i (lt.length+1) (QG lt) (Rh lt) o _ hs VH VH (nY lt) HO.o HV.o W_.o.to.rd).mono ?_;exact rM
theorem aaL (b:Nat)(s:ByteArray)(i:Nat)(lt:List UInt8)(o:Option (W×Nat))(w:World)(hs:s.size<=140737488355328)(hlt:i<s.size)(hg1:2<b)(hg2:1<b)(g_:U7 w)(U':UR w)(hc:s[i].toNat≠45/\s[i].toNat≠61/\s[i].toNat≠94/\s[i].toNat≠62/\s[i].toNat≠63/\s[i].toNat≠43/\s[i].toNat≠42/\s[i].toNat≠60)(hl:Vj isSmall 6 ((bl s).drop i)=lt)(hle:lt≠[])(hn:∀hlt:i+lt.length<s.size,s[i+lt.length].toNat≠58)(y_:i+lt.length<s.size)(W7:s[i+lt.length].toNat=47)(ho:QT 115 0 ((bl s).drop i)=o)(h:Uz w b s i):
 Calls prog 76 #[VG b] w λe w'=>e=.returned (RV o)/\Got w w' b s i o:=by
 have L_:=h.lt;refine zr8 ?_;intro c1 W_;clear g_ U' h;have HC:Hid _:=hc;clear hc;have NL:Hid _:=hl;have tl:=RG hle;have kn:=G9 hl hle;clear hl hle;have HN:Hid _:=hn;have FG:Hid _:=W7;clear hn W7;have HO:Hid _:=ho;clear ho;refine Ij ?_;intro k0 n0 _ _ t2 HV;go_enter func76,ntmps76;go_wp2;refine Py ?_;intro G HR HG;go_wp2_with fail;refine Og ?_;intro w1 W_;go_wp2_with fail;refine L8 ?_;intro w1 W_;go_wp2_with fail;refine Lj ?_;intro w1 W_;go_wp2_with fail;refine Jq ?_;intro w1 W_;go_wp2_with fail;refine Hq ?_;intro w1 W_;go_wp2_with fail;refine rZ ?_;refine PG ?_;intro w1 W_;go_wp2_with fail;refine Dw ?_;refine PG ?_;intro w1 W_;go_wp2_with fail;refine yS ?_;refine PG ?_;intro w1 W_;go_wp2_with fail;refine ac7 ?_;refine PG ?_;intro w1 W_;go_wp2
 go_step3
 refine Pg ?_;go_wp2_with fail;refine(TU b s (i+lt.length) 58 _ hs VH HN.o W_.o.to.rd).mono ?_;refine PG ?_;intro w1 W_;go_wp2_with fail;refine(TY b s (i+lt.length) 47 _ hs y_ FG.o W_.o.to.rd).mono ?_;refine PG ?_;intro w1 W_;have d1:=W_.o.to.rd.c1;have f1:=W_.o.to.rd.f1;go_wp2_with fail;have HX:Hid _:=W_.o.apo i;clear d1 f1;refine(aes b s i i 0 115 15 o _ hs VH VH rfl HO.o HV.o HX.o.to.rd).mono ?_;rintro e w1 ⟨rfl,j,hj,X_,hjn⟩;have W_:Hid _:=HX.o.call X_;clear X_;have q:=W_.o.al;have HJ:Hid _:=hjn;clear hjn;go_wp2;refine iC ?_;exact ah0
theorem acA (b:Nat)(s:ByteArray)(i:Nat)(o:Option (W×Nat))(w:World)(hs:s.size<=140737488355328)(hlt:i<s.size)(hg1:2<b)(hg2:1<b)(g_:U7 w)(U':UR w)(hc:s[i].toNat≠45/\s[i].toNat≠61/\s[i].toNat≠94/\s[i].toNat≠62/\s[i].toNat≠63/\s[i].toNat≠43/\s[i].toNat≠42/\s[i].toNat≠60)(hl:Vj isSmall 6 ((bl s).drop i)=[97])(hn:∀hlt:i+1<s.size,s[i+1].toNat≠58)(W7:∀hlt:i+1<s.size,s[i+1].toNat≠47)(ho:TA 97 Gx 1 1 ((bl s).drop (i+1))=o)(h:Uz w b s i):
 Calls prog 76 #[VG b] w λe w'=>e=.returned (RV o)/\Got w w' b s i o:=by
 have L_:=h.lt;refine zr8 ?_;intro c1 W_;clear g_ U' h;have HC:Hid _:=hc;clear hc;have NL:Hid _:=hl;have kn:=G9 hl Vy;clear hl;have HN:Hid _:=hn;have FG:Hid _:=W7;clear hn W7;have HO:Hid _:=ho;clear ho;refine Ij ?_;intro k0 n0 _ _ t2 HV;go_enter func76,ntmps76;go_wp2;refine Py ?_;intro G HR HG;go_wp2_with fail;refine Og ?_;intro w1 W_;go_wp2_with fail;refine L8 ?_;intro w1 W_;go_wp2_with fail;refine Lj ?_;intro w1 W_;go_wp2_with fail;refine Jq ?_;intro w1 W_;go_wp2_with fail;refine Hq ?_;intro w1 W_;go_wp2_with fail;refine rZ ?_;refine PG ?_;intro w1 W_;go_wp2_with fail;refine Dw ?_;refine PG ?_;intro w1 W_;go_wp2_with fail;refine yS ?_;refine PG ?_;intro w1 W_;go_wp2_with fail;refine(Qd b s i 97 122 6 isSmall [97] _ hs VH VH W_.o.to.rd rfl NL.o).mono ?_;refine PG ?_;intro w1 W_;go_wp2
 go_step3
 refine Pg ?_;go_wp2_with fail;refine(TU b s (i+([97]:List UInt8).length) 58 _ hs VH HN.o W_.o.to.rd).mono ?_;refine PG ?_;intro w1 W_;go_wp2_with fail;refine(TU b s (i+([97]:List UInt8).length) 47 _ hs VH FG.o W_.o.to.rd).mono ?_;refine PG ?_;intro w1 W_;go_wp2_with fail;refine(QI b s (i+1) i (1) 97 3 50 1 Gx o _ hs VH VH VH rfl rfl ali HO.o HV.o W_.o.to.rd).mono ?_;exact rM
theorem dF (b:Nat)(s:ByteArray)(i:Nat)(o:Option (W×Nat))(w:World)(hs:s.size<=140737488355328)(hlt:i<s.size)(hg1:2<b)(hg2:1<b)(g_:U7 w)(U':UR w)(hc:s[i].toNat≠45/\s[i].toNat≠61/\s[i].toNat≠94/\s[i].toNat≠62/\s[i].toNat≠63/\s[i].toNat≠43/\s[i].toNat≠42/\s[i].toNat≠60)(hl:Vj isSmall 6 ((bl s).drop i)=[115])(hn:∀hlt:i+1<s.size,s[i+1].toNat≠58)(W7:∀hlt:i+1<s.size,s[i+1].toNat≠47)(ho:TA 103 U8 1 1 ((bl s).drop (i+1))=o)(h:Uz w b s i):
 Calls prog 76 #[VG b] w λe w'=>e=.returned (RV o)/\Got w w' b s i o:=by
 have L_:=h.lt;refine zr8 ?_;intro c1 W_;clear g_ U' h;have HC:Hid _:=hc;clear hc;have NL:Hid _:=hl;have kn:=G9 hl Vy;clear hl;have HN:Hid _:=hn;have FG:Hid _:=W7;clear hn W7;have HO:Hid _:=ho;clear ho;refine Ij ?_;intro k0 n0 _ _ t2 HV;go_enter func76,ntmps76;go_wp2;refine Py ?_;intro G HR HG;go_wp2_with fail;refine Og ?_;intro w1 W_;go_wp2_with fail;refine L8 ?_;intro w1 W_;go_wp2_with fail;refine Lj ?_;intro w1 W_;go_wp2_with fail;refine Jq ?_;intro w1 W_;go_wp2_with fail;refine Hq ?_;intro w1 W_;go_wp2_with fail;refine rZ ?_;refine PG ?_;intro w1 W_;go_wp2_with fail;refine Dw ?_;refine PG ?_;intro w1 W_;go_wp2_with fail;refine yS ?_;refine PG ?_;intro w1 W_;go_wp2_with fail;refine(Qd b s i 97 122 6 isSmall [115] _ hs VH VH W_.o.to.rd rfl NL.o).mono ?_;refine PG ?_;intro w1 W_;go_wp2
 go_step3
 refine Pg ?_;go_wp2_with fail;refine(TU b s (i+([115]:List UInt8).length) 58 _ hs VH HN.o W_.o.to.rd).mono ?_;refine PG ?_;intro w1 W_;go_wp2_with fail;refine(TU b s (i+([115]:List UInt8).length) 47 _ hs VH FG.o W_.o.to.rd).mono ?_;refine PG ?_;intro w1 W_;go_wp2_with fail;refine(QI b s (i+1) i (1) 103 4 57 1 U8 o _ hs VH VH VH rfl rfl (λc h=>h) HO.o HV.o W_.o.to.rd).mono ?_;exact rM
theorem Dj (b:Nat)(s:ByteArray)(i:Nat)(lt:List UInt8)(kk:Nat)(w:World)(hs:s.size<=140737488355328)(hlt:i<s.size)(hg1:2<b)(hg2:1<b)(g_:U7 w)(U':UR w)(hc:s[i].toNat≠45/\s[i].toNat≠61/\s[i].toNat≠94/\s[i].toNat≠62/\s[i].toNat≠63/\s[i].toNat≠43/\s[i].toNat≠42/\s[i].toNat≠60)(hl:Vj isSmall 6 ((bl s).drop i)=lt)(hle:lt≠[])(hn:∀hlt:i+lt.length<s.size,s[i+lt.length].toNat≠58)(W7:∀hlt:i+lt.length<s.size,s[i+lt.length].toNat≠47)(ha:lt≠[97])(hs2:lt≠[115])(hkk:UD lt=kk)(h:Uz w b s i):
 Calls prog 76 #[VG b] w λe w'=>e=.returned (.agg #[VI kk,VI 0,.string ⟨#[]⟩,.string ⟨#[]⟩,.string ⟨#[]⟩,.pointer none])/\SA w w' b s (i+lt.length):=by
 refine yI ?_;intro L_ hzb c1 W_ P1;clear g_ U' h;have HC:Hid _:=hc;clear hc;have zj:=UQ (acG hl hkk);have IH:Hid ((s.extract i (i+lt.length)).size<=140737488355328):=aeK hs _ _;have NL:Hid _:=hl;have tl:=RG hle;have kn:=G9 hl hle;clear hl hle;have HN:Hid _:=hn;have FG:Hid _:=W7;have ta:=ZF.2 ha;have ts:=ZF.2 hs2;clear hn W7 ha hs2 hkk;go_enter func76,ntmps76;go_wp2;refine Py ?_;intro G HR HG;go_wp2_with fail;refine Og ?_;intro w1 W_;go_wp2_with fail;refine L8 ?_;intro w1 W_;go_wp2_with fail;refine Lj ?_;intro w1 W_;go_wp2_with fail;refine Jq ?_;intro w1 W_;go_wp2_with fail;refine Hq ?_;intro w1 W_;go_wp2_with fail;refine rZ ?_;refine PG ?_;intro w1 W_;go_wp2_with fail;refine Dw ?_;refine PG ?_;intro w1 W_;go_wp2_with fail;refine yS ?_;refine PG ?_;intro w1 W_;go_wp2_with fail;refine ac7 ?_;refine PG ?_;intro w1 W_;go_wp2
 go_step3
 refine Pg ?_;go_wp2_with fail;refine(TU b s (i+lt.length) 58 _ hs VH HN.o W_.o.to.rd).mono ?_;refine PG ?_;intro w1 W_;go_wp2_with fail;refine(TU b s (i+lt.length) 47 _ hs VH FG.o W_.o.to.rd).mono ?_;refine PG ?_;intro w1 W_;go_wp2
 go_step3
 go_wp2;have d0:=W_.o.to.rd.c0;have d1:=W_.o.to.rd.c1;have hq1:(0:Int)<=(i:Int):=VH;have hq1:(i:Int)<=(i:Int)+lt.length:=VH;have hq1:(i:Int)+lt.length<=s.size:=VH;refine Uy ?_;refine ZT (S:=(λw'=>w'.cell? (VJ b 0)=some (.string s)/\w'.cell? (VJ b 1)=some (VI ((i+lt.length:Nat):Int)))) VE UG (λhHeld=>?_);refine zC ?_;refine aaP ?_;intro Y_ Z_;refine(JA (s.extract i (i+lt.length)) _ IH.o ahy).mono ?_;rintro e w1 ⟨rfl,hb⟩;rw[zj.o];have W_:Hid _:=(W_.o).drew.below hb;clear d0 d1 hb;refine ajI ?_;intro _ _ _ _ _ z0 zf d0 d1
 try go_wp2_with fail
 refine Z_.go λhHeld=>?_;clear Z_ Y_;refine La ?_;refine Ul 12 λY_ Z_=>?_;refine Vg ?_;intro hHeld;clear Z_ Y_;refine Um ?_;go_wp2;refine iC ?_;exact ajD
end Go.Proofs.Rz
namespace Kn
open Go
structure Vl where
 obj:Bool
 n:Int
 deriving DecidableEq
def Vl.zero:Vl:=⟨false,0⟩
structure Mt where
 sel:ByteArray
 ws:List (W×Nat)
structure Kl where
 name:ByteArray
 above:Option Nat
 tot:Nat
 ms:List Mt
structure Ob where
 cls:Nat
 slots:List Vl
structure Im where
 kl:List Kl
 obs:List Ob
 looks:Nat
def Qy:ByteArray:=⟨#[100,110,117,47,49]⟩
def im0:Im:=⟨[⟨⟨#[65,110,121]⟩,none,0,[]⟩,⟨⟨#[73,110,116]⟩,some 0,0,[]⟩],[],0⟩
def Im.cls (m:Im)(s:ByteArray):Option Nat:=m.kl.findIdx? (λk=>k.name==s)
def Im.tot (m:Im)(c:Nat):Nat:=(m.kl[c]?.map (·.tot)).getD 0
def Kl.own (k:Kl)(sel:ByteArray):Option (List (W×Nat)):=(k.ms.find? (λx=>x.sel==sel)).map (·.ws)
def Im.own (m:Im)(c:Nat)(sel:ByteArray):Option (List (W×Nat)):=m.kl[c]?.bind (·.own sel)
def Im.up (m:Im)(sel:ByteArray):Nat->Option Nat->Option (Nat×List (W×Nat))
 | 0,_=>none
 | _+1,none=>none
 | f+1,some c=>match m.own c sel with
  | some ws=>some (c,ws)
  | none=>m.up sel f (m.kl[c]?.bind (·.above))
def Im.find (m:Im)(sel:ByteArray)(c:Option Nat):Option (Nat×List (W×Nat)):=m.up sel (m.kl.length+1) c
def Im.under (m:Im)(d:Nat):Nat->Option Nat->Bool
 | 0,_=>false
 | _+1,none=>false
 | f+1,some c=>decide (c=d)||m.under d f (m.kl[c]?.bind (·.above))
def Im.UY (m:Im)(c:Nat)(f:Kl->Kl):Im:={m with kl:=m.kl.modify c f}
def Kl.put (k:Kl)(x:Mt):Kl:={k with ms:=k.ms.filter (λy=>!(y.sel==x.sel))++[x]}
def Kl.drop (k:Kl)(sel:ByteArray):Kl:={k with ms:=k.ms.filter (λy=>!(y.sel==sel))}
def greatest (ws:List (W×Nat)):Nat:=ws.foldl (λn x=>if x.1.k=103\/x.1.k=112 then max n (x.1.n.toNat+1) else n) 0
def Im.TR (m:Im)(name above:ByteArray)(slots:Int):Int×Im:=
 if className (bl name)=false\/slots<0 then (1,m)
 else match m.cls name with
  | some _=>(3,m)
  | none=>match m.cls above with
   | none=>(2,m)
   | some a=>if 10<(m.tot a:Int)+slots then (9,m) else if 12<=m.kl.length then (10,m) else (0,{m with kl:=m.kl++[⟨name,some a,m.tot a+slots.toNat,[]⟩]})
def Im.drop (m:Im)(cls sel:ByteArray):Int×Im:=
 match m.cls cls with
 | none=>(2,m)
 | some c=>match m.own c sel with
  | none=>(4,m)
  | some _=>(0,m.UY c (·.drop sel))
def Im.move (m:Im)(cls above:ByteArray):Int×Im:=
 match m.cls cls,m.cls above with
 | some c,some a=>if c<2 then (2,m) else if m.under c (m.kl.length+1) (some a)=true then (8,m)
  else if m.tot a≠m.tot ((m.kl[c]?.bind (·.above)).getD 0) then (9,m) else (0,m.UY c (λk=>{k with above:=some a}))
 | _,_=>(2,m)
def Im.copy (m:Im)(cls sel to:ByteArray):Int×Im:=
 match m.cls cls,m.cls to with
 | some c,some t=>match m.own c sel with
  | none=>(4,m)
  | some ws=>if m.tot t<greatest ws then (7,m) else (0,m.UY t (·.put ⟨sel,ws⟩))
 | _,_=>(2,m)
def Im.made (m:Im)(cls:ByteArray):Option Nat:=match m.cls cls with
 | some 1=>none
 | c=>c
def Im.make (m:Im)(cls:ByteArray):Vl×Int×Im:=
 match m.made cls with
 | none=>(Vl.zero,2,m)
 | some c=>if 40<=m.obs.length then (Vl.zero,10,m) else (⟨true,m.obs.length⟩,0,{m with obs:=m.obs++[⟨c,List.replicate (m.tot c) Vl.zero⟩]})
def Im.there (m:Im)(o:Int):Bool:=decide (0<=o)&&decide (o<m.obs.length)
def Im.be (m:Im)(o:Int)(cls:ByteArray):Int×Im:=
 if m.there o=false then (4,m) else match m.made cls with
  | none=>(2,m)
  | some c=>match m.obs[o.toNat]? with
   | none=>(4,m)
   | some x=>if m.tot c≠x.slots.length then (9,m) else (0,{m with obs:=m.obs.set o.toNat {x with cls:=c} })
structure Fr where
 ws:List (W×Nat)
 home:Nat
 self:Vl
 args:List Vl
 pc:Nat
 st:List Vl
inductive SN where
 | on (m:Im) (fuel:Nat) (fs:List Fr)
 | told (m:Im) (v:Vl)
 | stop (m:Im) (e:Int)
def Im.of (m:Im)(v:Vl):Option Nat:=if v.obj then (m.obs[v.n.toNat]?).map (·.cls) else some 1
def Im.send (m:Im)(fuel:Nat)(C_:Option Nat)(to:Vl)(sel:ByteArray)(args:List Vl)(fs:List Fr):SN:=
 match m.find sel C_ with
 | some (c,ws)=>if 32<=fs.length then .stop {m with looks:=m.looks+1} 4 else .on {m with looks:=m.looks+1} fuel (⟨ws,c,to,args,0,[]⟩::fs)
 | none=>match m.find Qy C_ with
  | some (c,ws)=>if 32<=fs.length then .stop {m with looks:=m.looks+2} 4 else .on {m with looks:=m.looks+2} fuel (⟨ws,c,to,[⟨false,args.length⟩],0,[]⟩::fs)
  | none=>.stop {m with looks:=m.looks+2} 1
def QJ (m:Im)(fuel:Nat)(v:Vl):List Fr->SN
 | []=>.told m v
 | f::fs=>.on m fuel ({f with st:=v::f.st}::fs)
def wrap64 (n:Int):Int:=IntKind.i64.wrap n
def vG (b:Bool):Vl:=⟨false,if b then 1 else 0⟩
def VA (m:Im)(fuel:Nat)(x:W)(f:Fr)(fs:List Fr):SN:=
 let lay:=λv=>SN.on m fuel ({f with st:=v::f.st}::fs)
 if x.k=110 then lay ⟨false,x.n⟩
 else if x.k=109 then lay f.self
 else if x.k=97 then lay (f.args[x.n.toNat]?.getD Vl.zero)
 else if x.k=103 then lay (((m.obs[f.self.n.toNat]?).bind (λo=>o.slots[x.n.toNat]?)).getD Vl.zero)
 else if x.k=112 then match f.st with
  | v::r=>.on {m with obs:=m.obs.modify f.self.n.toNat (λo=>{o with slots:=o.slots.set x.n.toNat v})} fuel ({f with st:=r}::fs)
  | []=>.stop m 3
 else if x.k=43\/x.k=45\/x.k=42\/x.k=60 then match f.st with
  | b::a::r=>if a.obj||b.obj then .stop m 3 else
   .on m fuel ({f with st:=(if x.k=43 then ⟨false,wrap64 (a.n+b.n)⟩ else if x.k=45 then ⟨false,wrap64 (a.n-b.n)⟩ else if x.k=42 then ⟨false,wrap64 (a.n*b.n)⟩ else vG (decide (a.n<b.n)))::r}::fs)
  | _=>.stop m 3
 else if x.k=61 then match f.st with
  | b::a::r=>.on m fuel ({f with st:=vG (decide (a=b))::r}::fs)
  | _=>.stop m 3
 else if x.k=111 then .on m fuel ({f with st:=f.st.drop 1}::fs)
 else if x.k=100 then match f.st with
  | v::r=>.on m fuel ({f with st:=v::v::r}::fs)
  | []=>.stop m 3
 else if x.k=62 then .on m fuel ({f with pc:=x.n.toNat}::fs)
 else if x.k=63 then match f.st with
  | v::r=>if v.obj then .stop m 3 else .on m fuel ({f with st:=r,pc:=if v.n=0 then x.n.toNat else f.pc}::fs)
  | []=>.stop m 3
 else if x.k=115 then match f.st.drop x.n.toNat with
  | to::r=>m.send fuel (m.of to) to (VF x.sel) (f.st.take x.n.toNat).reverse ({f with st:=r}::fs)
  | []=>.stop m 3
 else if x.k=94 then m.send fuel (m.kl[f.home]?.bind (·.above)) f.self (VF x.sel) (f.st.take x.n.toNat).reverse ({f with st:=f.st.drop x.n.toNat}::fs)
 else if x.k=119 then match m.make (VF x.a) with
  | (v,e,m')=>if e=0 then .on m' fuel ({f with st:=v::f.st}::fs) else .stop m' 3
 else if x.k=98 then match f.st with
  | v::r=>if v.obj then (match m.be v.n (VF x.a) with
   | (e,m')=>if e=0 then .on m' fuel (f::fs) else .stop m' 3) else .stop m 3
  | []=>.stop m 3
 else if x.k=120 then match m.drop (VF x.a) (VF x.sel) with
  | (e,m')=>if e=0 then .on m' fuel (f::fs) else .stop m' 3
 else if x.k=118 then match m.move (VF x.a) (VF x.b) with
  | (e,m')=>if e=0 then .on m' fuel (f::fs) else .stop m' 3
 else if x.k=99 then match m.copy (VF x.a) (VF x.sel) (VF x.b) with
  | (e,m')=>if e=0 then .on m' fuel (f::fs) else .stop m' 3
 else match f.st with
  | v::_=>QJ m fuel v fs
  | []=>.stop m 3
def stepM (m:Im)(fuel:Nat):List Fr->SN
 | []=>.stop m 3
 | f::fs=>match f.ws[f.pc]? with
  | none=>QJ m fuel f.self fs
  | some x=>match fuel with
   | 0=>.stop m 2
   | fuel+1=>VA m fuel x.1 {f with pc:=f.pc+1} fs
def runM:Nat->SN->SN
 | 0,g=>g
 | k+1,.on m fuel fs=>runM k (stepM m fuel fs)
 | _+1,g=>g
structure Shp (x:W):Prop where
 send:x.k=115\/x.k=94->selector x.sel=true/\x.n=(U6 x.sel:Nat)
 low:x.k=97\/x.k=103\/x.k=112->0<=x.n
theorem Jk {k:Nat}{n:Int}{s a b:List UInt8}(h:k≠115/\k≠94)(h':0<=n\/(k≠97/\k≠103/\k≠112)):Shp ⟨k,n,s,a,b⟩:=⟨λe=>by simp only at e;omega,λe=>by simp only at e ⊢;omega⟩
theorem alN {l:List UInt8}{x:W}(h:rd l=some x):Shp x:=by
 unfold rd at h;split at h
 . rename_i y hy;injection h with h;subst h;unfold Va at hy
   repeat (first
    | (split at hy
       . injection hy with hy;subst hy
         exact Jk Vz Vz)
    | cases hy)
 . split at h
   . rename_i y hy;injection h with h;subst h;have key:∀(k:Nat) (s a b:List UInt8),k=119\/k=98\/k=120\/k=118\/k=99->Shp ⟨k,0,s,a,b⟩:=λk s a b hk=>Jk VH VH;unfold Vs at hy;split at hy
     . exact ajF
     . split at hy
       . exact ajF
       . split at hy
         . cases hy
         . unfold Ue at hy
           repeat' split at hy
           all_goals first
            | (injection hy with hy;subst hy;exact key _ _ _ _ Vy)
            | cases hy
   . unfold SY at h;split at h
     . rename_i hs;injection h with h;subst h;exact⟨λ_=>⟨hs,rfl⟩,λe=>sH⟩
     . unfold Px at h;split at h
       . rename_i hs;injection h with h;subst h;exact⟨λ_=>⟨hs.2,rfl⟩,λe=>sH⟩
       . unfold KZ at h;split at h
         . exact ajw
         . unfold KJ at h;split at h
           . exact ajw
           . unfold Nz at h;split at h
             . rename_i hs;injection h with h;subst h;exact Jk VH (.inl hs.2)
             . unfold LH at h;split at h
               . rename_i hs;injection h with h;subst h;exact Jk Vz (.inl hs.2.1)
               . unfold Mc at h;split at h
                 . rename_i hs;injection h with h;subst h;exact Jk Vz (.inl hs.2)
                 . unfold LZ at h;split at h
                   . injection h with h;subst h;exact Jk Vz (.inl VH)
                   . cases h
theorem aad (l:List UInt8)(i:Nat)(x:W×Nat)(h:(Vh l).1[i]?=some x):Shp x.1:=
 (QZ Shp (λl x=>alN) _ l 0 [] (λy hy=>by cases hy) Vy).1 x (ZK h)
structure Lp (ws:List (W×Nat))(args slots:Nat):Prop where
 shp:∀(i:Nat) (x:W×Nat),ws[i]?=some x->Shp x.1
 fine:∀(i:Nat) (x:W×Nat),ws[i]?=some x->Pv x.1
 len:ws.length<=40
 num:∀j,j<ws.length->¬SC ws args slots j
 ok:∀j,j<ws.length->¬Wrong ws j
def TB (n:Int):Prop:=-9223372036854775808<=n/\n<=9223372036854775807
def TF (m:Im)(v:Vl):Prop:=TB v.n/\(v.obj=true->m.there v.n=true)
def Im.width (m:Im)(v:Vl):Nat:=if v.obj then ((m.obs[v.n.toNat]?).map (λo=>o.slots.length)).getD 0 else 0
structure U3 (m:Im):Prop where
 two:2<=m.kl.length
 few:m.kl.length<=12
 any:∃ms,m.kl[0]?=some ⟨⟨#[65,110,121]⟩,none,0,ms⟩
 int:∃ms,m.kl[1]?=some ⟨⟨#[73,110,116]⟩,some 0,0,ms⟩
 names:∀(c:Nat) (k:Kl),m.kl[c]?=some k->className (bl k.name)=true
 once:∀(c d:Nat) (k l:Kl),m.kl[c]?=some k->m.kl[d]?=some l->k.name=l.name->c=d
 up:∀(c:Nat) (k:Kl),m.kl[c]?=some k->c≠0->∃a,k.above=some a/\a<m.kl.length/\m.tot a<=k.tot
 rank:∃r:Nat->Nat,(∀c,r c<=m.kl.length)/\∀(c:Nat) (k:Kl) (a:Nat),m.kl[c]?=some k->k.above=some a->r a<r c
 tot:∀(c:Nat) (k:Kl),m.kl[c]?=some k->k.tot<=10
 meth:∀(c:Nat) (k:Kl) (x:Mt),m.kl[c]?=some k->x∈k.ms->selector (bl x.sel)=true/\Lp x.ws (U6 (bl x.sel)) k.tot
 Am:∀(c:Nat) (k:Kl),m.kl[c]?=some k->(k.ms.map (·.sel)).Nodup
 objs:m.obs.length<=40
 obj:∀o∈m.obs,o.cls<m.kl.length/\o.cls≠1/\o.slots.length=m.tot o.cls/\∀v∈o.slots,TF m v
structure Rk (m:Im)(d:Nat)(f:Fr):Prop where
 home:f.home<m.kl.length
 self:TF m f.self
 args:∀v∈f.args,TF m v
 few:f.args.length<=3
 good:Lp f.ws f.args.length (m.tot f.home)
 wide:m.tot f.home<=m.width f.self
 st:∀v∈f.st,TF m v
 at_:Reach f.ws f.pc (f.st.length+d)
theorem vV {ws:List (W×Nat)}{args slots i h:Nat}(g:Lp ws args slots)(hi:i<ws.length)(hr:Reach ws i h):Ph ws i h:=by
 apply Zt;intro hn;exact g.ok i hi (.inl ⟨h,hr,hn⟩)
theorem af4 {sel src:List UInt8}{n:Nat}(h:Ti sel src n 0 0):(Vh src).2=-1/\Lp (Vh src).1 (U6 sel) n:=by
 rcases h with⟨_,h,_⟩|⟨_,_,h,_⟩|⟨_,_,_,h,_⟩|⟨_,_,hw,e',i,hf,hr⟩
 . omega
 . omega
 . omega
 . have key:(∀j,j<(Vh src).1.length->¬SC (Vh src).1 (U6 sel) n j)/\∀j,j<(Vh src).1.length->¬Wrong (Vh src).1 j:=by
    rcases hr with⟨j,x,rfl,hx,he,_⟩|⟨rfl,_,_⟩
    . exact apd
    . rcases hf with⟨j',_,ea,_⟩|⟨hno,_,hfi⟩
      . omega
      . refine⟨hno,?_⟩;rcases hfi with⟨_,h⟩|⟨j,_,hj,_⟩
        . exact h
        . omega
   exact⟨hw,aad src,Jb src,Ic src,key.1,key.2⟩
structure Ext (m m':Im):Prop where
 kl:m.kl.length<=m'.kl.length
 tot:∀c,c<m.kl.length->m'.tot c=m.tot c
 obs:m.obs.length<=m'.obs.length
 wide:∀(i:Nat) (o:Ob),m.obs[i]?=some o->∃o',m'.obs[i]?=some o'/\o'.slots.length=o.slots.length
theorem Ext.refl (m:Im):Ext m m:=⟨ZN _,λ_ _=>rfl,ZN _,λi o h=>⟨o,h,rfl⟩⟩
variable {m : Im}
theorem Im.NJ {n:Int}:m.there n=true↔0<=n/\n<m.obs.length:=by
 unfold Im.there;rw[ZB,YB,YB]
variable {m' : Im}
theorem TF.ext {v:Vl}(h:TF m v)(he:Ext m m'):TF m' v:=⟨h.1,λho=>by
 have:=Im.NJ.1 (h.2 ho)
 exact Im.NJ.2 ⟨this.1,by have:=he.obs;omega⟩⟩
theorem aaG {v:Vl}(h:TF m v)(he:Ext m m'):m'.width v=m.width v:=by
 unfold Im.width
 cases ho:v.obj with
 | false=>rfl
 | true=>
  have ht:=Im.NJ.1 (h.2 ho);have hl:v.n.toNat<m.obs.length:=VH;obtain⟨o',h1,e1⟩:=he.wide v.n.toNat _ (Z8 hl);rw[h1,Z8 hl];simp[e1]
variable {f : Fr}
theorem Rk.ext {d:Nat}(h:Rk m d f)(he:Ext m m'):Rk m' d f:=
 ⟨ZY h.home he.kl,h.self.ext he,λv hv=>(h.args v hv).ext he,h.few,by rw[he.tot _ h.home];exact h.good,by rw[he.tot _ h.home,aaG h.self he];exact h.wide,λv hv=>(h.st v hv).ext he,h.at_⟩
theorem Nl {c:Nat}{k:Kl}(h:m.kl[c]?=some k):m.tot c=k.tot:=by unfold Im.tot;rw[h];rfl
theorem SL (m:Im)(c:Nat)(f:Kl->Kl)(d:Nat):(m.UY c f).kl[d]?=if c=d then (m.kl[d]?).map f else m.kl[d]?:=by
 unfold Im.UY;simp only[Y4];by_cases h:c=d
 . simp[h]
 . simp[h]
theorem Gn (m:Im)(c:Nat)(f:Kl->Kl)(hf:∀k,(f k).tot=k.tot)(d:Nat):(m.UY c f).tot d=m.tot d:=by
 unfold Im.tot;rw[SL];by_cases h:c=d
 . rw[ZU h];cases m.kl[d]?<;>simp[hf]
 . rw[ZX h]
theorem O6 (m:Im)(c:Nat)(f:Kl->Kl):(m.UY c f).kl.length=m.kl.length:=by simp[Im.UY]
theorem JX (m:Im)(c:Nat)(f:Kl->Kl)(hf:∀k,(f k).tot=k.tot):Ext m (m.UY c f):=
 ⟨by rw[O6];exact ZN _,λd _=>Gn m c f hf d,ZN _,λi o h=>⟨o,h,rfl⟩⟩
theorem uN (h:U3 m)(c:Nat)(g:Kl->List Mt)(hg:∀k,m.kl[c]?=some k->(∀x∈g k,selector (bl x.sel)=true/\Lp x.ws (U6 (bl x.sel)) k.tot)/\((g k).map (·.sel)).Nodup):U3 (m.UY c (λk=>{k with ms:=g k})):=by
 have get:∀(d:Nat) (k:Kl),(m.UY c (λk=>{k with ms:=g k})).kl[d]?=some k->∃k0,m.kl[d]?=some k0/\k.name=k0.name/\k.above=k0.above/\k.tot=k0.tot/\((c=d/\k.ms=g k0)\/(c≠d/\k.ms=k0.ms)):=by
  exact anv
 have len:=O6 m c (λk=>{k with ms:=g k});have tot:=Gn m c (λk=>{k with ms:=g k}) (λ_=>rfl);refine⟨by rw[len];exact h.two,by rw[len];exact h.few,?_,?_,?_,?_,?_,?_,?_,?_,?_,h.objs,?_⟩
 . obtain⟨ms,hm⟩:=h.any;rw[SL,hm];by_cases e:c=0
   . exact⟨_,by rw[ZU e];rfl⟩
   . exact⟨_,by rw[ZX e]⟩
 . obtain⟨ms,hm⟩:=h.int;rw[SL,hm];by_cases e:c=1
   . exact⟨_,by rw[ZU e];rfl⟩
   . exact⟨_,by rw[ZX e]⟩
 . exact agP
 . exact anO
 . intro d k hk hd;obtain⟨k0,h0,_,ha,ht,_⟩:=get d k hk;obtain⟨a,h1,h2,h3⟩:=h.up d k0 h0 hd;exact⟨a,by rw[ha];exact h1,by rw[len];exact h2,by rw[tot,ht];exact h3⟩
 . obtain⟨r,hr,hr2⟩:=h.rank;refine⟨r,λd=>by rw[len];exact hr d,λd k a hk hka=>?_⟩;obtain⟨k0,h0,_,ha,_⟩:=get d k hk;exact hr2 d k0 a h0 (by rw[<- ha];exact hka)
 . intro d k hk;obtain⟨k0,h0,_,_,ht,_⟩:=get d k hk;rw[ht];exact h.tot d k0 h0
 . intro d k x hk hx;obtain⟨k0,h0,_,_,ht,hm⟩:=get d k hk;rcases hm with⟨rfl,hm⟩|⟨_,hm⟩
   . rw[hm]at hx;rw[ht];exact(hg k0 h0).1 x hx
   . rw[hm]at hx;rw[ht];exact h.meth d k0 x h0 hx
 . intro d k hk;obtain⟨k0,h0,_,_,ht,hm⟩:=get d k hk;rcases hm with⟨rfl,hm⟩|⟨_,hm⟩
   . rw[hm];exact(hg k0 h0).2
   . rw[hm];exact h.Am d k0 h0
 . intro o ho;obtain⟨h1,h2,h3,h0⟩:=h.obj o ho;exact⟨by rw[len];exact h1,h2,by rw[tot];exact h3,λv hv=>(h0 v hv).ext (JX m c _ (λ_=>rfl))⟩
theorem yw (h:U3 m)(a b:ByteArray):U3 (m.drop a b).2/\Ext m (m.drop a b).2:=by
 unfold Im.drop
 cases m.cls a with
 | none=>exact NU
 | some c=>
  simp only
  cases m.own c b with
  | none=>exact NU
  | some ws=>
   simp only;refine⟨uN h c (λk=>k.ms.filter (λy=>!(y.sel==b))) (λk hk=>⟨λx hx=>h.meth c k x hk (XM.1 hx).1,?_⟩),JX m c _ (λ_=>rfl)⟩;exact(h.Am c k hk).sublist ((List.filter_sublist).map _)
theorem adF (h:U3 m)(c:Nat)(x:Mt)(hx:selector (bl x.sel)=true)(hg:Lp x.ws (U6 (bl x.sel)) (m.tot c)):U3 (m.UY c (·.put x))/\Ext m (m.UY c (·.put x)):=by
 refine⟨uN h c (λk=>k.ms.filter (λy=>!(y.sel==x.sel))++[x]) (λk hk=>⟨λy hy=>?_,?_⟩),JX m c _ (λ_=>rfl)⟩
 . rcases YT.1 hy with hy|hy
   . exact h.meth c k y hk (XM.1 hy).1
   . simp at hy;subst hy;rw[Nl hk]at hg;exact⟨hx,hg⟩
 . rw[VU,Xi];refine⟨(h.Am c k hk).sublist ((List.filter_sublist).map _),Vy,?_⟩;intro a ha b hb hab;simp at hb;subst hb;obtain⟨y,hy,rfl⟩:=Zy.1 ha;have:=(XM.1 hy).2;rw[hab,Tq]at this;simp at this
theorem acH (ws:List (W×Nat)):∀n,n<=ws.foldl (λn x=>if x.1.k=103\/x.1.k=112 then max n (x.1.n.toNat+1) else n) n:=by
 induction ws with
 | nil=>intro n;exact ZN _
 | cons y r ih=>
  intro n;rw[WT];refine ZC ?_ (ih _);split
  . exact Nat.le_max_left _ _
  . exact ZN _
theorem FY:∀(ws:List (W×Nat)) (n i:Nat) (x:W×Nat),ws[i]?=some x->(x.1.k=103\/x.1.k=112)->x.1.n.toNat<ws.foldl (λn x=>if x.1.k=103\/x.1.k=112 then max n (x.1.n.toNat+1) else n) n
 | [],n,i,x,h,_=>vF
 | y::r,n,0,x,h,hk=>by
  simp at h;subst h;rw[WT,ZU hk];exact ZY VH (acH r _)
 | y::r,n,i+1,x,h,hk=>by
  rw[WT];exact FY r _ i x Nv hk
theorem aO {ws:List (W×Nat)}{args s t:Nat}(g:Lp ws args s)(h:greatest ws<=t):Lp ws args t:=by
 refine⟨g.shp,g.fine,g.len,λj hj hb=>?_,g.ok⟩;rcases hb with hb|⟨hk,hn⟩
 . exact g.num j hj (.inl hb)
 . have hx:=Z8 hj;have hw:EG ws j=ws[j].1:=ql;rw[hw]at hk hn;have:=FY ws 0 j _ hx hk;unfold greatest at h;omega
theorem Oz {c:Nat}{sel:ByteArray}{ws:List (W×Nat)}(h:m.own c sel=some ws):∃k x,m.kl[c]?=some k/\x∈k.ms/\x.sel=sel/\x.ws=ws:=by
 unfold Im.own at h
 cases hk:m.kl[c]? with
 | none=>rw[hk]at h;cases h
 | some k=>
  rw[hk]at h;simp only[YA]at h;unfold Kl.own at h
  cases hf:k.ms.find? (λx=>x.sel==sel) with
  | none=>rw[hf]at h;cases h
  | some x=>
   rw[hf]at h;simp at h;exact⟨k,x,rfl,Xw hf,(SK _ _).1 (by simpa using Xr hf),h⟩
theorem IZ (h:U3 m){c:Nat}{sel:ByteArray}{ws:List (W×Nat)}(ho:m.own c sel=some ws):selector (bl sel)=true/\Lp ws (U6 (bl sel)) (m.tot c):=by
 obtain⟨k,x,hk,hx,rfl,rfl⟩:=Oz ho;have:=h.meth c k x hk hx;rw[Nl hk];exact this
theorem xC (h:U3 m)(a b d:ByteArray):U3 (m.copy a b d).2/\Ext m (m.copy a b d).2:=by
 unfold Im.copy
 cases m.cls a with
 | none=>exact NU
 | some c=>
  cases m.cls d with
  | none=>exact NU
  | some t=>
   simp only
   cases ho:m.own c b with
   | none=>exact NU
   | some ws=>
    simp only;by_cases hl:m.tot t<greatest ws
    . rw[ZU hl];exact NU
    . rw[ZX hl];have:=IZ h ho;exact adF h t ⟨b,ws⟩ this.1 (aO this.2 (Nat.le_of_not_lt hl))
theorem Bh (hlt:∀(c:Nat) (k:Kl) (a:Nat),m.kl[c]?=some k->k.above=some a->a<m.kl.length)(h:∃r:Nat->Nat,∀(c:Nat) (k:Kl) (a:Nat),m.kl[c]?=some k->k.above=some a->r a<r c):
 ∃r:Nat->Nat,(∀c,r c<=m.kl.length)/\∀(c:Nat) (k:Kl) (a:Nat),m.kl[c]?=some k->k.above=some a->r a<r c:=by
 obtain⟨r,hr⟩:=h;refine⟨λc=>(List.range m.kl.length).countP (λd=>decide (r d<r c)),λc=>?_,λc k a hk ha=>?_⟩
 . have:=List.countP_le_length (p:=λd=>decide (r d<r c)) (l:=List.range m.kl.length);rw[List.length_range]at this;exact this
 . have h1:=hr c k a hk ha;refine Gh _ _ _ (λx _ hx=>?_) ⟨a,YD.2 (hlt c k a hk ha),by simpa using h1,Vy⟩;simp at hx ⊢;omega
theorem D9 {r:Nat->Nat}(hr:∀(c:Nat) (k:Kl) (a:Nat),m.kl[c]?=some k->k.above=some a->r a<r c)(c:Nat):∀(f g d:Nat),r d<f->r d<g->m.under c f (some d)=m.under c g (some d)
 | 0,_,_,h,_=>VH
 | _+1,0,_,_,h=>VH
 | f+1,g+1,d,hf,hg=>by
  unfold Im.under
  cases hk:m.kl[d]? with
  | none=>cases f<;>cases g<;>simp[Im.under]
  | some k=>
   simp only[YA]
   cases ha:k.above with
   | none=>cases f<;>cases g<;>simp[Im.under]
   | some a=>
    have:=hr d k a hk ha;rw[D9 hr c f g a VH VH]
theorem kU {r:Nat->Nat}(hr:∀(c:Nat) (k:Kl) (a:Nat),m.kl[c]?=some k->k.above=some a->r a<r c)(hb:∀c,r c<=m.kl.length)(c d a:Nat)(k:Kl)(hk:m.kl[d]?=some k)(ha:k.above=some a):
 m.under c (m.kl.length+1) (some d)=(decide (d=c)||m.under c (m.kl.length+1) (some a)):=by
 have h1:=hr d k a hk ha;have h1:=hb d
 conv=>lhs;unfold Im.under
 rw[hk];simp only[YA,ha];rw[D9 hr c m.kl.length (m.kl.length+1) a VH VH]
theorem kF (m:Im)(c:Nat):m.under c (m.kl.length+1) (some c)=true:=by unfold Im.under;simp
theorem xA (h:U3 m)(s t:ByteArray):U3 (m.move s t).2/\Ext m (m.move s t).2:=by
 unfold Im.move
 cases hc:m.cls s with
 | none=>exact NU
 | some c=>
  cases ha:m.cls t with
  | none=>exact NU
  | some a=>
   simp only;by_cases h2:c<2
   . rw[ZU h2];exact NU
   rw[ZX h2];by_cases hu:m.under c (m.kl.length+1) (some a)=true
   . rw[ZU hu];exact NU
   rw[ZX hu];by_cases ht:m.tot a≠m.tot ((m.kl[c]?.bind (·.above)).getD 0)
   . rw[ZU ht];exact NU
   rw[ZX ht];have ht':=Zt λe=>ht e
   have hal:a<m.kl.length:=by
    unfold Im.cls at ha;exact(YZ.1 ha).1
   have get:∀(d:Nat) (k:Kl),(m.UY c (λk=>{k with above:=some a})).kl[d]?=some k->∃k0,m.kl[d]?=some k0/\k.name=k0.name/\k.tot=k0.tot/\k.ms=k0.ms/\((c=d/\k.above=some a)\/(c≠d/\k.above=k0.above)):=by
    exact anv
   have len:=O6 m c (λk=>{k with above:=some a});have tot:=Gn m c (λk=>{k with above:=some a}) (λ_=>rfl);have ext:=JX m c (λk=>{k with above:=some a}) (λ_=>rfl);refine⟨⟨by rw[len];exact h.two,by rw[len];exact h.few,?_,?_,?_,?_,?_,?_,?_,?_,?_,h.objs,?_⟩,ext⟩
   . obtain⟨ms,hm⟩:=h.any;rw[SL,hm,ZX VH];exact Vx
   . obtain⟨ms,hm⟩:=h.int;rw[SL,hm,ZX VH];exact Vx
   . exact agP
   . exact anO
   . intro d k hk hd;obtain⟨k0,h0,_,X_,_,hab⟩:=get d k hk;obtain⟨b,h1,hb2,h3⟩:=h.up d k0 h0 hd;rcases hab with⟨rfl,hab⟩|⟨_,hab⟩
     . refine⟨a,hab,by rw[len];exact hal,?_⟩;rw[tot,X_,ht',h0];simp only[YA,h1,YX];exact h3
     . exact⟨b,by rw[hab];exact h1,by rw[len];exact hb2,by rw[tot,X_];exact h3⟩
   . obtain⟨r,Bm,hr⟩:=h.rank;refine Bh ?_ ⟨λd=>if m.under c (m.kl.length+1) (some d)=true then r d+r a+1 else r d,?_⟩
     . intro d k b hk hb;obtain⟨k0,h0,_,_,_,hab⟩:=get d k hk;rw[len];rcases hab with⟨rfl,hab⟩|⟨_,hab⟩
       . rw[hab]at hb;injection hb with hb;omega
       . rw[hab]at hb;by_cases hd0:d=0
         . obtain⟨ms,hm⟩:=h.any;rw[hd0,hm]at h0;injection h0 with h0;rw[<- h0]at hb;cases hb
         . obtain⟨b',h1,hb2,_⟩:=h.up d k0 h0 hd0;rw[h1]at hb;injection hb with hb;omega
     . intro d k b hk hb;obtain⟨k0,h0,_,_,_,hab⟩:=get d k hk;rcases hab with⟨rfl,hab⟩|⟨hne,hab⟩
       . rw[hab]at hb;injection hb with hb;subst hb;simp only[kF,Y6,ZX hu];omega
       . rw[hab]at hb;have hs:=kU hr Bm c d b k0 h0 hb;have hrd:=hr d k0 b h0 hb;have sY:decide (d=c)=false:=Vo;rw[sY,WY]at hs;simp only[hs];split<;>omega
   . intro d k hk;obtain⟨k0,h0,_,ht,_⟩:=get d k hk;rw[ht];exact h.tot d k0 h0
   . intro d k x hk hx;obtain⟨k0,h0,_,ht,hm,_⟩:=get d k hk;rw[hm]at hx;rw[ht];exact h.meth d k0 x h0 hx
   . intro d k hk;obtain⟨k0,h0,_,_,hm,_⟩:=get d k hk;rw[hm];exact h.Am d k0 h0
   . intro o ho;obtain⟨h1,h2,h3,h4⟩:=h.obj o ho;exact⟨by rw[len];exact h1,h2,by rw[tot];exact h3,λv hv=>(h4 v hv).ext ext⟩
theorem acd:U3 im0:=by
 have g:∀(c:Nat) (k:Kl),im0.kl[c]?=some k->(c=0/\k=⟨⟨#[65,110,121]⟩,none,0,[]⟩)\/(c=1/\k=⟨⟨#[73,110,116]⟩,some 0,0,[]⟩):=by
  intro c k h
  match c,h with
  | 0,h=>simp[im0]at h;exact .inl ⟨rfl,h.symm⟩
  | 1,h=>simp[im0]at h;exact .inr ⟨rfl,h.symm⟩
  | c+2,h=>simp[im0]at h
 refine⟨Vz,Vz,⟨[],rfl⟩,⟨[],rfl⟩,?_,?_,?_,⟨λc=>if c=0 then 0 else 1,?_,?_⟩,?_,?_,?_,Vz,λo ho=>by cases ho⟩
 . intro c k h;rcases g c k h with⟨_,rfl⟩|⟨_,rfl⟩<;>decide
 . intro c d k l h h' e;rcases g c k h with⟨rfl,rfl⟩|⟨rfl,rfl⟩<;>rcases g d l h' with⟨rfl,rfl⟩|⟨rfl,rfl⟩
   . rfl
   . simp at e
   . simp at e
   . rfl
 . intro c k h hc;rcases g c k h with⟨rfl,rfl⟩|⟨rfl,rfl⟩
   . exact absurd rfl hc
   . exact⟨0,rfl,Vz,Vz⟩
 . intro c;show (if c=0 then 0 else 1)<=2;split<;>omega
 . intro c k a h ha;rcases g c k h with⟨rfl,rfl⟩|⟨rfl,rfl⟩
   . cases ha
   . injection ha with ha;subst ha;decide
 . intro c k h;rcases g c k h with⟨_,rfl⟩|⟨_,rfl⟩<;>simp
 . intro c k x h hx;rcases g c k h with⟨_,rfl⟩|⟨_,rfl⟩<;>cases hx
 . intro c k h;rcases g c k h with⟨_,rfl⟩|⟨_,rfl⟩<;>simp
theorem RJ {s:ByteArray}{c:Nat}(h:m.cls s=some c):∃k,m.kl[c]?=some k/\k.name=s:=by
 unfold Im.cls at h;obtain⟨hl,he,_⟩:=YZ.1 h;exact⟨_,Z8 hl,(SK _ _).1 he⟩
theorem pU {s:ByteArray}(h:m.cls s=none):∀(c:Nat) (k:Kl),m.kl[c]?=some k->k.name≠s:=by
 unfold Im.cls at h;intro c k hk e;have:=YI.1 h k (ZK hk);rw[e,Tq]at this;cases this
theorem H9 (h:U3 m)(s t:ByteArray)(n:Int):U3 (m.TR s t n).2/\Ext m (m.TR s t n).2:=by
 unfold Im.TR;by_cases h1:className (bl s)=false\/n<0
 . rw[ZU h1];exact NU
 rw[ZX h1]
 cases hs:m.cls s with
 | some c=>exact NU
 | none=>
  simp only
  cases ht:m.cls t with
  | none=>exact NU
  | some a=>
   simp only;by_cases h2:10<(m.tot a:Int)+n
   . rw[ZU h2];exact NU
   rw[ZX h2];by_cases h3:12<=m.kl.length
   . rw[ZU h3];exact NU
   rw[ZX h3];simp only;obtain⟨ka,hka,_⟩:=RJ ht;have hal:=(Z7.1 hka).1
   have hcn:className (bl s)=true:=by
    cases e:className (bl s) with
    | true=>rfl
    | false=>exact absurd (.inl e) h1
   have get:∀(d:Nat) (k:Kl),(m.kl++[⟨s,some a,m.tot a+n.toNat,[]⟩])[d]?=some k->(d<m.kl.length/\m.kl[d]?=some k)\/(d=m.kl.length/\k=⟨s,some a,m.tot a+n.toNat,[]⟩):=by
    intro d k hk;by_cases hd:d<m.kl.length
    . rw[ZH hd]at hk;exact .inl ⟨hd,hk⟩
    . rw[ZP VH]at hk
      have:d-m.kl.length=0:=by
       have:=(Z7.1 hk).1;simp at this;omega
      rw[this]at hk;simp at hk;exact .inr ⟨VH,hk.symm⟩
   have tot:∀d,d<m.kl.length->Im.tot {m with kl:=m.kl++[⟨s,some a,m.tot a+n.toNat,[]⟩]} d=m.tot d:=λd hd=>by
    unfold Im.tot;rw[ZH hd]
   have ext:Ext m {m with kl:=m.kl++[⟨s,some a,m.tot a+n.toNat,[]⟩]}:=⟨Vy,tot,ZN _,λi o ho=>⟨o,ho,rfl⟩⟩
   have hlen:(m.kl++[(⟨s,some a,m.tot a+n.toNat,[]⟩:Kl)]).length=m.kl.length+1:=Vy;refine⟨⟨by rw[hlen];have:=h.two;omega,aaD,?_,?_,?_,?_,?_,?_,?_,?_,?_,h.objs,?_⟩,ext⟩
   . obtain⟨ms,hm⟩:=h.any;exact⟨ms,by rw[ZH (by have:=h.two;omega)];exact hm⟩
   . obtain⟨ms,hm⟩:=h.int;exact⟨ms,by rw[ZH (by have:=h.two;omega)];exact hm⟩
   . intro d k hk;rcases get d k hk with⟨_,hk⟩|⟨_,rfl⟩
     . exact h.names d k hk
     . exact hcn
   . intro d e k l hk hl hkl;rcases get d k hk with⟨_,hk⟩|⟨hd,rfl⟩<;>rcases get e l hl with⟨_,hl⟩|⟨he,rfl⟩
     . exact h.once d e k l hk hl hkl
     . exact absurd hkl (pU hs d k hk)
     . exact absurd hkl.symm (pU hs e l hl)
     . omega
   . intro d k hk hd;rcases get d k hk with⟨_,hk⟩|⟨_,rfl⟩
     . obtain⟨b,e1,e2,e3⟩:=h.up d k hk hd;exact⟨b,e1,aaD,by rw[tot b e2];exact e3⟩
     . exact⟨a,rfl,aaD,by rw[tot a hal];simp⟩
   . obtain⟨r,Bm,hr⟩:=h.rank;refine Bh ?_ ⟨λd=>if d<m.kl.length then r d else m.kl.length+1,?_⟩
     . intro d k b hk hb;rw[hlen];rcases get d k hk with⟨_,hk⟩|⟨_,rfl⟩
       . exact amP
       . injection hb with hb;omega
     . intro d k b hk hb;rcases get d k hk with⟨hd,hk⟩|⟨hd,rfl⟩
       . have hr1:=hr d k b hk hb
         have hbl:b<m.kl.length:=by
          exact amP
         simp only[ZU hd,ZU hbl];exact hr1
       . injection hb with hb;subst hb;have hn':¬d<m.kl.length:=VH;simp only[ZU hal,ZX hn'];have:=Bm a;omega
   . intro d k hk;rcases get d k hk with⟨_,hk⟩|⟨_,rfl⟩
     . exact h.tot d k hk
     . simp;omega
   . intro d k x hk hx;rcases get d k hk with⟨_,hk⟩|⟨_,rfl⟩
     . exact h.meth d k x hk hx
     . cases hx
   . intro d k hk;rcases get d k hk with⟨_,hk⟩|⟨_,rfl⟩
     . exact h.Am d k hk
     . simp
   . intro o ho;obtain⟨e1,e2,e3,e4⟩:=h.obj o ho;exact⟨aaD,e2,by rw[tot _ e1];exact e3,λv hv=>(e4 v hv).ext ext⟩
theorem O7 {s:ByteArray}{c:Nat}(h:m.made s=some c):c≠1/\m.cls s=some c:=by
 unfold Im.made at h
 cases hc:m.cls s with
 | none=>rw[hc]at h;cases h
 | some d=>
  rw[hc]at h
  match d,h with
  | 0,h=>injection h with h;subst h;exact⟨Vz,rfl⟩
  | 1,h=>cases h
  | d+2,h=>injection h with h;subst h;exact⟨VH,rfl⟩
theorem Hu (m:Im):TF m Vl.zero:=⟨by unfold TB Vl.zero;simp,λh=>MO⟩
theorem xX (h:U3 m)(s:ByteArray):U3 (m.make s).2.2/\Ext m (m.make s).2.2/\TF (m.make s).2.2 (m.make s).1:=by
 unfold Im.make
 cases hc:m.made s with
 | none=>exact⟨h,Ext.refl m,Hu m⟩
 | some c=>
  simp only;by_cases h4:40<=m.obs.length
  . rw[ZU h4];exact⟨h,Ext.refl m,Hu m⟩
  . rw[ZX h4];simp only;obtain⟨hc1,hcs⟩:=O7 hc;obtain⟨k,hk,_⟩:=RJ hcs;have hcl:=(Z7.1 hk).1
    have ext:Ext m {m with obs:=m.obs++[⟨c,List.replicate (m.tot c) Vl.zero⟩]}:=⟨ZN _,λ_ _=>rfl,Vy,λi o ho=>⟨o,by rw[ZH (Z7.1 ho).1];exact ho,rfl⟩⟩
    refine⟨⟨h.two,h.few,h.any,h.int,h.names,h.once,h.up,h.rank,h.tot,h.meth,h.Am,Vo,?_⟩,ext,?_⟩
    . intro o ho;rcases YT.1 ho with ho|ho
      . obtain⟨e1,e2,e3,e4⟩:=h.obj o ho;exact⟨e1,e2,e3,λv hv=>(e4 v hv).ext ext⟩
      . simp at ho;subst ho;refine⟨hcl,hc1,by simp;rfl,λv hv=>?_⟩;rw[(List.mem_replicate.1 hv).2];exact Hu _
    . exact⟨by unfold TB;simp;omega,λ_=>Im.NJ.2 ⟨Vy,Vo⟩⟩
theorem adH (h:U3 m)(n:Int)(s:ByteArray):U3 (m.be n s).2/\Ext m (m.be n s).2:=by
 unfold Im.be;by_cases ht:m.there n=false
 . rw[ZU ht];exact NU
 rw[ZX ht]
 cases hc:m.made s with
 | none=>exact NU
 | some c=>
  simp only
  cases ho:m.obs[n.toNat]? with
  | none=>exact NU
  | some o=>
   simp only;by_cases hw:m.tot c≠o.slots.length
   . rw[ZU hw];exact NU
   rw[ZX hw];simp only;have hw':=Zt λe=>hw e;obtain⟨hc1,hcs⟩:=O7 hc;obtain⟨k,hk,_⟩:=RJ hcs;have hcl:=(Z7.1 hk).1;have hol:=(Z7.1 ho).1
   have ext:Ext m {m with obs:=m.obs.set n.toNat {o with cls:=c} }:=⟨ZN _,λ_ _=>rfl,Vy,λi x hx=>by
    by_cases e:n.toNat=i
    . subst e;rw[ho]at hx;injection hx with hx;subst hx;exact⟨{o with cls:=c},by simp[hol],rfl⟩
    . exact⟨x,by simp[e];exact hx,rfl⟩⟩
   refine⟨⟨h.two,h.few,h.any,h.int,h.names,h.once,h.up,h.rank,h.tot,h.meth,h.Am,by simp;exact h.objs,?_⟩,ext⟩;intro x hx;rcases WB hx with hx|rfl
   . obtain⟨e1,e2,e3,e4⟩:=h.obj x hx;exact⟨e1,e2,e3,λv hv=>(e4 v hv).ext ext⟩
   . obtain⟨e1,e2,e3,e4⟩:=h.obj o (ZK ho);exact⟨hcl,hc1,hw'.symm,λv hv=>(e4 v hv).ext ext⟩
theorem U3.looks (h:U3 m)(n:Nat):U3 {m with looks:=n}:=⟨h.two,h.few,h.any,h.int,h.names,h.once,h.up,h.rank,h.tot,h.meth,h.Am,h.objs,λo ho=>h.obj o ho⟩
theorem Ext.looks (m:Im)(n:Nat):Ext m {m with looks:=n}:=⟨ZN _,λ_ _=>rfl,ZN _,λi o h=>⟨o,h,rfl⟩⟩
theorem yD (h:U3 m){sel:ByteArray}:∀(f c d:Nat) (ws:List (W×Nat)),c<m.kl.length->m.up sel f (some c)=some (d,ws)->d<m.kl.length/\m.tot d<=m.tot c/\m.own d sel=some ws
 | 0,_,_,_,_,he=>by cases he
 | f+1,c,d,ws,hc,he=>by
  unfold Im.up at he
  cases ho:m.own c sel with
  | some ws'=>
   rw[ho]at he;simp only at he;injection he with he;injection he with e1 e2;subst e1 e2;exact⟨hc,ZN _,ho⟩
  | none=>
   rw[ho]at he;simp only at he;have hk:=Z8 hc;rw[hk]at he;simp only[YA]at he
   cases ha:m.kl[c].above with
   | none=>rw[ha]at he;cases f<;>cases he
   | some a=>
    rw[ha]at he
    have hc0:c≠0:=λe=>by
     subst e;obtain⟨ms,hm⟩:=h.any;rw[hm]at hk;injection hk with hk;rw[<- hk]at ha;cases ha
    obtain⟨a',e1,e2,e3⟩:=h.up c _ hk hc0;rw[ha]at e1;injection e1 with e1;subst e1;obtain⟨r1,r2,r3⟩:=yD h f a d ws e2 he;exact⟨r1,ZC r2 (by rw[Nl hk];exact e3),r3⟩
def apI (m:Im):List Fr->Prop
 | []=>False
 | f::r=>Rk m 0 f/\∀g∈r,Rk m 1 g
def SN.Ok:SN->Prop
 | .on m fuel fs=>U3 m/\apI m fs/\fs.length<=32
 | .told m v=>U3 m/\TF m v
 | .stop m _=>U3 m
theorem En (h:U3 m)(fuel:Nat)(C_:Option Nat)(to:Vl)(sel:ByteArray)(args:List Vl)(fs:List Fr)(X_:TF m to)(hargs:∀v∈args,TF m v)(hl:args.length<=3)(hs:selector (bl sel)=true->args.length=U6 (bl sel))
 (hf:∀c,C_=some c->c<m.kl.length/\m.tot c<=m.width to) (I':∀g∈fs,Rk m 1 g) (C':fs.length<=32):(m.send fuel C_ to sel args fs).Ok:=by
 have new:∀(n d:Nat) (ws:List (W×Nat)) (az:List Vl) (sl:ByteArray),m.find sl C_=some (d,ws)->(selector (bl sl)=true->az.length=U6 (bl sl))->(∀v∈az,TF m v)->az.length<=3->¬32<=fs.length->
  (SN.on {m with looks:=n} fuel (⟨ws,d,to,az,0,[]⟩::fs)).Ok:=by
  intro n d ws az sl J' hal W8 has h3
  cases C_ with
  | none=>unfold Im.find at J';cases hm:m.kl.length+1<;>rw[hm]at J'<;>cases J'
  | some c=>
   obtain⟨hc,hw⟩:=hf c rfl;obtain⟨r1,r2,r3⟩:=yD h _ c d ws hc J';have hg:=IZ h r3;refine⟨h.looks n,⟨⟨r1,X_.ext (Ext.looks m n),λv hv=>(W8 v hv).ext (Ext.looks m n),has,by rw[hal hg.1];exact hg.2,ZC r2 hw,λv hv=>(by cases hv),KY ws⟩,λg hg=>(I' g hg).ext (Ext.looks m n)⟩,?_⟩;simp only[ZI];omega
 unfold Im.send
 cases hfd:m.find sel C_ with
 | some p=>
  obtain⟨d,ws⟩:=p;simp only;by_cases h3:32<=fs.length
  . rw[ZU h3];exact h.looks _
  . rw[ZX h3];exact new _ d ws args sel hfd hs hargs hl h3
 | none=>
  simp only
  cases ZS:m.find Qy C_ with
  | some p=>
   obtain⟨d,ws⟩:=p;simp only;by_cases h3:32<=fs.length
   . rw[ZU h3];exact h.looks _
   . rw[ZX h3];refine new _ d ws [⟨false,args.length⟩] Qy ZS (λ_=>(show (1:Nat)=U6 (bl Qy) from Vz)) (λv hv=>?_) Vy h3;simp at hv;subst hv;exact⟨by unfold TB;simp;omega,λe=>EO⟩
  | none=>exact h.looks _
theorem adv {x:W×Nat}{t:Int}{d:Nat}{st':List Vl}(h:Rk m 0 f)(he:Ext m m')(hx:f.ws[f.pc]?=some x)(ht:t∈TS x.1.k x.1.n f.pc)
 (hl:st'.length+d=f.st.length-(U9 x.1.k x.1.n).1.toNat+(U9 x.1.k x.1.n).2.toNat) (hv:∀v∈st',TF m' v):Rk m' d {f with pc:=t.toNat,st:=st'}:=by
 have h':=h.ext he;refine qL ?_;intro hlt hw;have hr:Reach f.ws f.pc f.st.length:=h.at_;have hok:=vV h.good hlt hr;have hs:=I5 hlt hr hok (i:=t.toNat) (by unfold tg;rw[hw];exact Zy.2 ⟨t,ht,rfl⟩);refine⟨h'.home,h'.self,h'.args,h'.few,h'.good,h'.wide,hv,?_⟩;show Reach f.ws t.toNat (st'.length+d);rw[hl];unfold nx tk ly at hs;rw[hw]at hs;exact hs
theorem xg {x:W×Nat}(h:Rk m 0 f)(hx:f.ws[f.pc]?=some x):(U9 x.1.k x.1.n).1.toNat<=f.st.length:=by
 refine qL ?_;intro hlt hw;have hok:=vV h.good hlt h.at_;unfold Ph tk at hok;rw[hw]at hok;exact hok.1
theorem an7 {x:W×Nat}{d:Nat}{st':List Vl}(h:Rk m 0 f)(he:Ext m m')(hx:f.ws[f.pc]?=some x)(ht:((f.pc:Int)+1)∈TS x.1.k x.1.n f.pc)
 (hl:st'.length+d=f.st.length-(U9 x.1.k x.1.n).1.toNat+(U9 x.1.k x.1.n).2.toNat) (hv:∀v∈st',TF m' v):Rk m' d {f with pc:=f.pc+1,st:=st'}:=by
 have:=adv h he hx ht hl hv;have e:((f.pc:Int)+1).toNat=f.pc+1:=VH;rw[e]at this;exact this
theorem AX (h:U3 m)(i j:Nat)(v:Vl)(hv:TF m v):U3 {m with obs:=m.obs.modify i (λo=>{o with slots:=o.slots.set j v})}/\Ext m {m with obs:=m.obs.modify i (λo=>{o with slots:=o.slots.set j v})}:=by
 have ext:Ext m {m with obs:=m.obs.modify i (λo=>{o with slots:=o.slots.set j v})}:=⟨ZN _,λ_ _=>rfl,Vy,λk o ho=>by
  by_cases e:i=k
  . subst e;exact⟨{o with slots:=o.slots.set j v},by simp[Y4,ho],Vy⟩
  . exact⟨o,by simp[Y4,e,ho],rfl⟩⟩
 refine⟨⟨h.two,h.few,h.any,h.int,h.names,h.once,h.up,h.rank,h.tot,h.meth,h.Am,by simp;exact h.objs,λo ho=>?_⟩,ext⟩;obtain⟨k,hk⟩:=YG.1 ho;rw[Y4]at hk
 cases hko:m.obs[k]? with
 | none=>rw[hko]at hk;simp at hk
 | some o0=>
  obtain⟨e1,e2,e3,e4⟩:=h.obj o0 (ZK hko);rw[hko]at hk;by_cases e:i=k
  . simp[e]at hk;subst hk;refine⟨e1,e2,by simp;exact e3,λy hy=>?_⟩;rcases WB hy with hy|rfl
    . exact(e4 y hy).ext ext
    . exact hv.ext ext
  . simp[e]at hk;subst hk;exact⟨e1,e2,e3,λy hy=>(e4 y hy).ext ext⟩
theorem qp (n:Int):TB (wrap64 n):=by
 unfold TB wrap64;rw[Wj];omega
theorem jZ (m:Im){n:Int}(h:TB n):TF m ⟨false,n⟩:=⟨h,λe=>EO⟩
theorem akl (m:Im)(b:Bool):TF m (vG b):=by
 unfold vG;cases b<;>exact jZ m (by unfold TB;simp)
variable {fs : List Fr}
theorem LP {fuel:Nat}{f':Fr}(h:U3 m')(he:Ext m m')(hf:Rk m' 0 f')(I':∀g∈fs,Rk m 1 g)(hl:fs.length+1<=32):(SN.on m' fuel (f'::fs)).Ok:=
 ⟨h,⟨hf,λg hg=>(I' g hg).ext he⟩,by simpa using hl⟩
theorem gK {fuel:Nat}{v:Vl}(h:U3 m)(hv:TF m v)(I':∀g∈fs,Rk m 1 g)(hl:fs.length<=32):(QJ m fuel v fs).Ok:=by
 cases fs with
 | nil=>exact⟨h,hv⟩
 | cons f r=>
  have hf:=I' f Vy;refine⟨h,⟨⟨hf.home,hf.self,hf.args,hf.few,hf.good,hf.wide,λy hy=>?_,?_⟩,λg hg=>I' g (by simp[hg])⟩,by simpa using hl⟩
  . rcases ZM.1 hy with rfl|hy
    . exact hv
    . exact hf.st y hy
  . have:=hf.at_;simpa using this
theorem y7 {x:W×Nat}(h:Rk m 0 f)(hx:f.ws[f.pc]?=some x)(hk:x.1.k=97):x.1.n<f.args.length:=by
 refine qL ?_;intro hlt hw;have hn:=h.good.num f.pc hlt;unfold SC TJ at hn;rw[hw]at hn;exact VY.1 λe=>hn (.inl (.inl ⟨hk,e⟩))
theorem IL (h:U3 m){v:Vl}(hv:TF m v):∀c,m.of v=some c->c<m.kl.length/\m.tot c<=m.width v:=by
 intro c hc;unfold Im.of at hc
 cases ho:v.obj with
 | false=>
  rw[ho]at hc;simp at hc;subst hc;obtain⟨ms,hm⟩:=h.int;exact⟨by have:=h.two;omega,by rw[Nl hm];exact Yy _⟩
 | true=>
  rw[ho]at hc;simp only[Y6]at hc
  cases Ra:m.obs[v.n.toNat]? with
  | none=>rw[Ra]at hc;cases hc
  | some o=>
   rw[Ra]at hc;simp at hc;subst hc;obtain⟨e1,e2,e2,e4⟩:=h.obj o (ZK Ra);refine⟨e1,?_⟩;unfold Im.width;rw[ho,Ra];simp[e2]
theorem Fv (h:U3 m)(hf:Rk m 0 f):∀c,m.kl[f.home]?.bind (·.above)=some c->c<m.kl.length/\m.tot c<=m.width f.self:=by
 intro c hc;have hh:=hf.home;have hk:m.kl[f.home]?=some m.kl[f.home]:=Z8 hf.home;rw[hk]at hc;simp only[YA]at hc
 have h0:f.home≠0:=λe=>by
  obtain⟨ms,hm⟩:=h.any;rw[<- e]at hm;rw[hm]at hk;injection hk with hk;rw[<- hk]at hc;cases hc
 obtain⟨a,e1,e2,e3⟩:=h.up f.home _ hk h0;rw[hc]at e1;injection e1 with e1;subst e1;exact⟨e2,ZC e3 (by have:=hf.wide;rw[Nl hk]at this;exact this)⟩
theorem ags (h:U3 m){x:W×Nat}(hf:Rk m 0 f)(I':∀g∈fs,Rk m 1 g)(C':fs.length+1<=32)(hx:f.ws[f.pc]?=some x)(fuel:Nat):(VA m fuel x.1 {f with pc:=f.pc+1} fs).Ok:=by
 have ZZ:=hf.good.fine f.pc x hx;have N2:=hf.good.shp f.pc x hx;have hst:=xg hf hx;have o_:=ZZ.kind;obtain⟨⟨k,n,sl,xa,xb⟩,xi⟩:=x;simp only at o_ hst;have a1:∀ {m':Im}{d:Nat}{st':List Vl},Ext m m'->((f.pc:Int)+1)∈TS k n f.pc->st'.length+d=f.st.length-(U9 k n).1.toNat+(U9 k n).2.toNat->(∀v∈st',TF m' v)->Rk m' d {f with pc:=f.pc+1,st:=st'}:=λhe ht hl hv=>an7 hf he hx ht hl hv;simp only[kinds,ZM,Zx,YE]at o_;unfold VA;rcases o_ with rfl|rfl|rfl|rfl|rfl|rfl|rfl|rfl|rfl|rfl|rfl|rfl|rfl|rfl|rfl|rfl|rfl|rfl|rfl|rfl|rfl|rfl
 . refine fC ?_;intro v hv;rcases ZM.1 hv with rfl|hv
   . exact jZ m (by have:=ZZ.lo;have:=ZZ.hi;unfold TB;simp only at *;omega)
   . exact hf.st v hv
 . refine fC ?_;intro v hv;rcases ZM.1 hv with rfl|hv
   . exact hf.self
   . exact hf.st v hv
 . refine fC ?_;intro v hv;rcases ZM.1 hv with rfl|hv
   . cases hg:f.args[n.toNat]? with
     | none=>exact Hu m
     | some y=>exact hf.args y (ZK hg)
   . exact hf.st v hv
 . refine fC ?_;intro v hv;rcases ZM.1 hv with rfl|hv
   . cases hg:(m.obs[f.self.n.toNat]?).bind (λo=>o.slots[n.toNat]?) with
     | none=>exact Hu m
     | some y=>
      cases ho:m.obs[f.self.n.toNat]? with
      | none=>rw[ho]at hg;cases hg
      | some o=>
       rw[ho]at hg;exact(h.obj o (ZK ho)).2.2.2 y (ZK hg)
   . exact hf.st v hv
 . refine JM ?_;have hm:=xX h (VF xa)
   rcases hmk:m.make (VF xa) with⟨v,e,m'⟩
   rw[hmk]at hm;simp only at hm ⊢;by_cases he:e=0
   . rw[ZU he];refine LP hm.1 hm.2.1 (a1 hm.2.1 uI zb7 (λy hy=>?_)) I' C';rcases ZM.1 hy with rfl|hy
     . exact hm.2.2
     . exact(hf.st y hy).ext hm.2.1
   . rw[ZX he];exact hm.1
 . refine JM ?_;split
   . rename_i v r hs;have BW:=AX h f.self.n.toNat n.toNat v (hf.st v zb6);exact LP BW.1 BW.2 (a1 BW.2 uI mO (λy hy=>(hf.st y kR).ext BW.2)) I' C'
   . exact h
 . refine JM ?_;exact LP h LW (a1 LW uI zb7 akf) I' C'
 . refine JM ?_;split
   . rename_i v r hs;by_cases hv:v.obj=true
     . rw[ZU hv];exact h
     . rw[ZX hv];refine LP h LW ?_ I' C';by_cases hz:v.n=0
       . simp only[ZU hz];exact adv hf LW hx uI mO (λy hy=>hf.st y kR)
       . simp only[ZX hz];exact a1 LW uI mO (λy hy=>hf.st y kR)
   . exact h
 . refine JM ?_;split
   . rename_i v r hs;exact gK h (hf.st v zb6) I' VH
   . exact h
 . exact aj6
 . exact aj6
 . exact aj6
 . refine JM ?_;split
   . rename_i b a r hs;by_cases ho:(a.obj||b.obj)=true
     . rw[ZU ho];exact h
     . rw[ZX ho];exact an9
   . exact h
 . refine JM ?_;split
   . rename_i b a r hs;exact an9
   . exact h
 . refine JM ?_;split
   . rename_i v r hs;refine LP h LW (a1 LW uI mO (λy hy=>?_)) I' C';rcases ZM.1 hy with hy|hy
     . rw[hy];exact hf.st v zb6
     . exact hf.st y (by rw[hs];exact hy)
   . exact h
 . refine JM ?_;refine aef ?_;intro hn0 Te d_ hna;have htk:(U9 115 n).1.toNat=n.toNat+1:=by simp[U9];omega
   have yl:(U9 115 n).2.toNat=1:=zb7;rw[htk]at hst;split
   . rename_i to r hs;have hlen:(f.st.drop n.toNat).length=r.length+1:=by rw[hs];rfl
     rw[Zh]at hlen;refine En h fuel _ to _ _ _ alJ agt Vo (λ_=>by rw[show bl (VF sl)=sl from rfl];simp;omega) (IL h alJ) (λg hg=>?_) (by simpa using C');rcases ZM.1 hg with rfl|hg
     . exact a1 LW uI (by rw[htk,yl];omega) (λy hy=>hf.st y (Ye kR))
     . exact I' g hg
   . exact h
 . refine JM ?_;refine abX ?_;intro hn0 Te d_ hna;have htk:(U9 94 n).1.toNat=n.toNat:=zb7;have yl:(U9 94 n).2.toNat=1:=zb7;rw[htk]at hst;refine En h fuel _ f.self _ _ _ hf.self agt Vo (λ_=>by rw[show bl (VF sl)=sl from rfl];simp;omega) (Fv h hf) (λg hg=>?_) (by simpa using C');rcases ZM.1 hg with rfl|hg
   . exact a1 LW uI (by rw[htk,yl,Zh]) akf
   . exact I' g hg
 . refine JM ?_;split
   . rename_i v r hs;by_cases hv:v.obj=true
     . rw[ZU hv];have hb:=adH h v.n (VF xa)
       rcases Ss:m.be v.n (VF xa) with⟨e,m'⟩
       rw[Ss]at hb;simp only at hb ⊢;by_cases he:e=0
       . rw[ZU he];exact LP hb.1 hb.2 (a1 hb.2 uI mO apW) I' C'
       . rw[ZX he];exact hb.1
     . rw[ZX hv];exact h
   . exact h
 . refine JM ?_;exact LP h LW (adv hf LW hx uI zb7 hf.st) I' C'
 . refine JM ?_;have hb:=yw h (VF xa) (VF sl)
   rcases Ss:m.drop (VF xa) (VF sl) with⟨e,m'⟩
   exact akv
 . refine JM ?_;have hb:=xA h (VF xa) (VF xb)
   rcases Ss:m.move (VF xa) (VF xb) with⟨e,m'⟩
   exact akv
 . refine JM ?_;have hb:=xC h (VF xa) (VF sl) (VF xb)
   rcases Ss:m.copy (VF xa) (VF sl) (VF xb) with⟨e,m'⟩
   exact akv
theorem step_ok {fuel:Nat}(h:(SN.on m fuel fs).Ok):(stepM m fuel fs).Ok:=by
 obtain⟨hm,I',hl⟩:=h
 match fs,I',hl with
 | f::r,I',hl=>
  cases hx:f.ws[f.pc]? with
  | none=>
   simp only[stepM,hx];exact gK hm I'.1.self I'.2 (by simp at hl;omega)
  | some x=>
   cases fuel with
   | zero=>simp only[stepM,hx];exact hm
   | succ fuel=>simp only[stepM,hx];exact ags hm I'.1 I'.2 (by simpa using hl) hx fuel
end Kn
