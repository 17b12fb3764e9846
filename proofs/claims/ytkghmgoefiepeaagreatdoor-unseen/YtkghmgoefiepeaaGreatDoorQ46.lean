import Derived.Test.YtkghmgoefiepeaaGreatDoorQ0
import Derived.Test.YtkghmgoefiepeaaGreatDoorQ42
import Derived.Test.YtkghmgoefiepeaaGreatDoorQ44
import Derived.Test.YtkghmgoefiepeaaGreatDoorQ45
set_option linter.unusedSimpArgs false
set_option linter.unusedVariables false
set_option maxHeartbeats 4000000
set_option maxRecDepth 100000
namespace Go.Proofs.YtkghmgoefiepeaaGreatDoor.reads
open Go.ChangeShapes Go.WideShapes Go.ChangeAt Go.RowKit Kn Go.Proofs.YtkghmgoefiepeaaGreatDoor.img
variable {m : Im}
variable {f : Fr}
theorem has_room {x:Kn.W×Nat} (h:FrOk m 0 f) (hx:f.ws[f.pc]?=some x):f.st.length - (takesOf x.1.k x.1.n).1.toNat+(takesOf x.1.k x.1.n).2.toNat≤16:=by
 have hlt:f.pc < f.ws.length:=(List.getElem?_eq_some_iff.1 hx).1
 have hw:wAt f.ws f.pc=x.1:=by unfold wAt;rw [hx];rfl
 have hok:=(good_ok h.good hlt h.at_).2
 unfold tk ly at hok
 rw [hw] at hok
 exact hok
theorem slot_there {x:Kn.W×Nat} (hm:ImOk m) (h:FrOk m 0 f) (hx:f.ws[f.pc]?=some x) (hk:x.1.k=103∨x.1.k=112):∃ (i j:Nat) (o:Ob),f.self.n=i∧x.1.n=j∧m.obs[i]?=some o∧j < o.slots.length:=by
 have hlt:f.pc < f.ws.length:=(List.getElem?_eq_some_iff.1 hx).1
 have hw:wAt f.ws f.pc=x.1:=by unfold wAt;rw [hx];rfl
 have hn:=h.good.num f.pc hlt
 unfold NumBad slotBad at hn
 rw [hw] at hn
 have h1:x.1.n < (m.tot f.home:Int):=Int.not_le.1 fun e=>hn (.inr ⟨hk,e⟩)
 have h0:0≤x.1.n:=(h.good.shp f.pc x hx).low (by rcases hk with e | e <;> simp [e])
 have hwd:=h.wide
 unfold Im.width at hwd
 cases ho:f.self.obj with
 | false=>rw [ho] at hwd;simp at hwd;omega
 | true =>
  rw [ho] at hwd
  simp only [if_true] at hwd
  obtain ⟨i,o,e1,e2,e3,_⟩:=there_get (h.self.2 ho)
  rw [e3,e2] at hwd
  simp at hwd
  exact ⟨i,x.1.n.toNat,o,e1,by omega,e2,by omega⟩
theorem stk_one {l:List Vl} (h:1≤l.length):∃ v r,l=v::r:=by
 cases l with
 | nil=>simp at h
 | cons v r=>exact ⟨v,r,rfl⟩
theorem stk_two {l:List Vl} (h:2≤l.length):∃ b a r,l=b::a::r:=by
 obtain ⟨b,l1,rfl⟩:=stk_one (l:=l) (by omega)
 obtain ⟨a,r,rfl⟩:=stk_one (l:=l1) (by simp at h;omega)
 exact ⟨b,a,r,rfl⟩
variable {w w0 : World}
variable {m0 : Im}
variable {K K0 : Kd}
variable {Dd : Nat → Prop}
variable {bs : List (Nat × Nat)}
variable {fs : List Fr}
theorem do_any {rb:Nat}{fuel fb mk:Nat} (h:Sg Dd w0 m0 K0 rb w m K fuel ((fb,mk)::bs) ({ f with pc:=f.pc+1 }::fs)) (h0:Glo w0) (x:Kn.W×Nat) (pl:Option Addr)
 (hf:FrOk m 0 f) (hfs:∀ g∈fs,FrOk m 1 g) (h32:fs.length+1≤32) (hx:f.ws[f.pc]?=some x) (hpl:sendsW x.1=true→∃ p,pl=some ⟨p,0,none⟩∧(p,ofL x.1.sel)∈K.k.L) :
 Calls Tryz.prog (doF (kindOf x.1.k)) #[.pointer (some ⟨rb,0,none⟩),wval x.1 pl] w (WPost Dd w0 m0 K0 rb (wordM m fuel x.1 { f with pc:=f.pc+1 } fs)):=by
 have hm:=h.ok
 have hfine:=hf.good.fine f.pc x hx
 have hshp:=hf.good.shp f.pc x hx
 have hst:=has_st hf hx
 have hro:=has_room hf hx
 have hag:=arg_there hf hx
 have hsl:=slot_there hm hf hx
 have hkd:=hfine.kind
 have hroom:∀ g gs,fs=g::gs→g.st.length < 16:=fun g gs e=>by
  have:=reach_le (hfs g (by rw [e];simp)).at_
  omega
 obtain ⟨⟨k,n,sl,xa,xb⟩,xi⟩:=x
 simp only at hkd hst hro hag hsl hpl hfine hshp ⊢
 simp only [kinds,List.mem_cons,List.not_mem_nil,or_false] at hkd
 rcases hkd with rfl | rfl | rfl | rfl | rfl | rfl | rfl | rfl | rfl | rfl | rfl | rfl | rfl | rfl | rfl | rfl | rfl | rfl | rfl | rfl | rfl | rfl
 -- a number
 · exact do_number h h0 _ pl rfl (by simp [takesOf] at hro;show f.st.length < 16;omega)
 -- self
 · exact do_self h h0 _ pl rfl (by simp [takesOf] at hro;show f.st.length < 16;omega)
 -- an argument
 · have h1:=hag rfl
   have h2:=hshp.low (.inl rfl)
   simp only at h2
   obtain ⟨i,hi⟩:∃ i:Nat,n=i:=⟨n.toNat,by omega⟩
   have h3:=hf.few
   obtain ⟨v,hv⟩:∃ v,f.args[i]?=some v:=⟨_,List.getElem?_eq_getElem (by omega)⟩
   exact do_arg h h0 _ pl rfl (by simp [takesOf] at hro;show f.st.length < 16;omega) i hi (by omega) v hv
 -- a slot
 · obtain ⟨i,j,o,e1,e2,e3,e4⟩:=hsl (.inl rfl)
   obtain ⟨v,hv⟩:∃ v,o.slots[j]?=some v:=⟨_,List.getElem?_eq_getElem e4⟩
   exact do_slot h h0 _ pl rfl (by simp [takesOf] at hro;show f.st.length < 16;omega) e1 e3 e2 hv
 -- new
 · by_cases he:(m.make (ofL xa)).2.1=0
   · exact do_new_ok h h0 _ pl rfl (by simp [takesOf] at hro;show f.st.length < 16;omega) he
   · exact do_new_no h h0 _ pl rfl (by simp [takesOf] at hro;show f.st.length < 16;omega) he
 -- a store
 · obtain ⟨i,j,o,e1,e2,e3,e4⟩:=hsl (.inr rfl)
   obtain ⟨v,r,hs⟩:=stk_one (l:=f.st) (by simp [takesOf] at hst;omega)
   have hso:=store_ok hm i j v (hf.st v (by rw [hs];simp))
   exact do_store h h0 _ pl rfl hs e1 e3 e2 e4 hso.1
 -- pop
 · obtain ⟨v,r,hs⟩:=stk_one (l:=f.st) (by simp [takesOf] at hst;omega)
   exact do_pop h h0 _ pl rfl hs
 -- if zero
 · obtain ⟨⟨vo,vn⟩,r,hs⟩:=stk_one (l:=f.st) (by simp [takesOf] at hst;omega)
   have h2:=hfine.goto (.inr rfl)
   simp only at h2
   obtain ⟨i,hi⟩:∃ i:Nat,n=i:=⟨n.toNat,by omega⟩
   cases vo with
   | true=>exact do_if_no h h0 _ pl rfl hs
   | false =>
    by_cases hz:vn=0
    · subst hz
      exact do_if_zero h h0 _ pl rfl i hi hs
    · exact do_if_more h h0 _ pl rfl i hi hz hs
 -- ret
 · obtain ⟨v,r,hs⟩:=stk_one (l:=f.st) (by simp [takesOf] at hst;omega)
   exact do_tell h h0 _ pl rfl hs (by omega) hroom
 -- plus
 · obtain ⟨⟨bo,bn⟩,⟨ao,an⟩,r,hs⟩:=stk_two (l:=f.st) (by simp [takesOf] at hst;omega)
   by_cases ho:(ao||bo)=true
   · exact do_add_no h h0 _ pl rfl hs ho
   · simp at ho
     obtain ⟨rfl,rfl⟩:=ho
     exact do_add_ok h h0 _ pl rfl hs
 -- minus
 · obtain ⟨⟨bo,bn⟩,⟨ao,an⟩,r,hs⟩:=stk_two (l:=f.st) (by simp [takesOf] at hst;omega)
   by_cases ho:(ao||bo)=true
   · exact do_sub_no h h0 _ pl rfl hs ho
   · simp at ho
     obtain ⟨rfl,rfl⟩:=ho
     exact do_sub_ok h h0 _ pl rfl hs
 -- times
 · obtain ⟨⟨bo,bn⟩,⟨ao,an⟩,r,hs⟩:=stk_two (l:=f.st) (by simp [takesOf] at hst;omega)
   by_cases ho:(ao||bo)=true
   · exact do_mul_no h h0 _ pl rfl hs ho
   · simp at ho
     obtain ⟨rfl,rfl⟩:=ho
     exact do_mul_ok h h0 _ pl rfl hs
 -- less
 · obtain ⟨⟨bo,bn⟩,⟨ao,an⟩,r,hs⟩:=stk_two (l:=f.st) (by simp [takesOf] at hst;omega)
   by_cases ho:(ao||bo)=true
   · exact do_less_no h h0 _ pl rfl hs ho
   · simp at ho
     obtain ⟨rfl,rfl⟩:=ho
     exact do_less_ok h h0 _ pl rfl hs
 -- same
 · obtain ⟨b,a,r,hs⟩:=stk_two (l:=f.st) (by simp [takesOf] at hst;omega)
   exact do_same h h0 _ pl rfl hs
 -- dup
 · obtain ⟨v,r,hs⟩:=stk_one (l:=f.st) (by simp [takesOf] at hst;omega)
   exact do_dup h h0 _ pl rfl hs (by rw [hs] at hro;simp [takesOf] at hro;omega)
 -- a send
 · obtain ⟨hn0,hn3⟩:=hfine.send (.inl rfl)
   obtain ⟨hse,hna⟩:=hshp.send (.inl rfl)
   simp only at hn0 hn3 hse hna
   obtain ⟨i,hi⟩:∃ i:Nat,n=i:=⟨n.toNat,by omega⟩
   obtain ⟨p,rfl,hp⟩:=hpl rfl
   have htk:(takesOf 115 n).1.toNat=i+1:=by simp [takesOf];omega
   rw [htk] at hst
   obtain ⟨to,r,hs⟩:=stk_one (l:=f.st.drop i) (by simp;omega)
   have hsz:(ofL sl).size≤8:=sel_small (s:=ofL sl) hse
   exact do_send h h0 _ rfl hi (by omega) hs (hf.st to (List.mem_of_mem_drop (by rw [hs];simp))) hp (by show (ofL sl).size≤1000;omega) h32
 -- a send upwards
 · obtain ⟨hn0,hn3⟩:=hfine.send (.inr rfl)
   obtain ⟨hse,hna⟩:=hshp.send (.inr rfl)
   simp only at hn0 hn3 hse hna
   obtain ⟨i,hi⟩:∃ i:Nat,n=i:=⟨n.toNat,by omega⟩
   obtain ⟨p,rfl,hp⟩:=hpl rfl
   have htk:(takesOf 94 n).1.toNat=i:=by simp [takesOf];omega
   rw [htk] at hst
   have hsz:(ofL sl).size≤8:=sel_small (s:=ofL sl) hse
   exact do_above h h0 _ rfl hi (by omega) hst hp (by show (ofL sl).size≤1000;omega) h32
 -- be
 · obtain ⟨⟨vo,vn⟩,r,hs⟩:=stk_one (l:=f.st) (by simp [takesOf] at hst;omega)
   cases vo with
   | false=>exact do_be_num h h0 _ pl rfl hs
   | true =>
    by_cases he:(m.be vn (ofL xa)).1=0
    · exact do_be_ok h h0 _ pl rfl hs he
    · exact do_be_no h h0 _ pl rfl hs he
 -- goto
 · have h2:=hfine.goto (.inl rfl)
   simp only at h2
   obtain ⟨i,hi⟩:∃ i:Nat,n=i:=⟨n.toNat,by omega⟩
   exact do_go h h0 _ pl rfl i hi
 -- drop
 · exact do_drop h h0 _ pl rfl
 -- move
 · exact do_move h h0 _ pl rfl
 -- copy
 · exact do_copy h h0 _ pl rfl
end Go.Proofs.YtkghmgoefiepeaaGreatDoor.reads
