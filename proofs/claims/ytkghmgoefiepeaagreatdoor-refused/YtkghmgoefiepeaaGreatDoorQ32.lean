import Derived.Laws.CopyRow
import Derived.Deep.WholeRow
import Derived.Test.YtkghmgoefiepeaaGreatDoorQ0
import Derived.Test.YtkghmgoefiepeaaGreatDoorQ31
set_option linter.unusedSimpArgs false
set_option linter.unusedVariables false
set_option maxHeartbeats 4000000
set_option maxRecDepth 100000
namespace Go.Proofs.YtkghmgoefiepeaaGreatDoor.reads
open Go.ChangeShapes Go.WideShapes Go.ChangeAt Go.RowKit Kn Go.Proofs.YtkghmgoefiepeaaGreatDoor.img
def doF (k:Nat):Nat:=match k with
 | 1=>114
 | 2=>115
 | 3=>116
 | 4=>117
 | 5=>118
 | 6=>119
 | 7=>120
 | 8=>121
 | 9=>122
 | 10=>123
 | 11=>124
 | 12=>125
 | 13=>126
 | 14=>127
 | 15=>128
 | 16=>129
 | 17=>130
 | 18=>131
 | 19=>132
 | 20=>133
 | 21=>134
 | _=>135
structure RunAt (w:World) (b rb:Nat) (top:Option Nat) (depth fuel:Nat):Prop where
 blk:∃ cs:Array Value,w.heap[rb]?=some (.cells cs 174)∧cs.size=29
 c0:w.cell? ⟨rb,0,none⟩=some (.pointer (some ⟨b,0,none⟩))
 cd:∀ k,1≤k→k < 23→w.cell? ⟨rb,1+k,none⟩=some (.func (.func (doF k)) #[] #[])
 ct:w.cell? ⟨rb,24,none⟩=some (.pointer (cptr top))
 cq:w.cell? ⟨rb,25,none⟩=some (.int .i64 (depth:Nat))
 cf:w.cell? ⟨rb,26,none⟩=some (.int .i64 (fuel:Nat))
variable {w : World}
theorem RunAt.cel {b rb:Nat}{top:Option Nat}{depth fuel:Nat} (h:RunAt w b rb top depth fuel):Cel w rb:=by
 obtain ⟨cs,e,_⟩:=h.blk;exact ⟨_,_,e⟩
theorem RunAt.some {b rb:Nat}{top:Option Nat}{depth fuel:Nat} (h:RunAt w b rb top depth fuel) {o:Nat} (ho:o < 29):∃ v,w.cell? ⟨rb,o,none⟩=some v:=by
 obtain ⟨cs,e,hz⟩:=h.blk
 refine ⟨cs[o]'(by omega),?_⟩
 simp only [World.cell?,e]
 exact Array.getElem?_eq_getElem (by omega)
variable {w' : World}
theorem RunAt.same {b rb:Nat}{top:Option Nat}{depth fuel:Nat} (h:RunAt w b rb top depth fuel) (e:w'.heap[rb]?=w.heap[rb]?):RunAt w' b rb top depth fuel:=by
 have hc:∀ o,w'.cell? ⟨rb,o,none⟩=w.cell? ⟨rb,o,none⟩:=fun o=>World.cell?_of_block e
 obtain ⟨cs,e1,hz⟩:=h.blk
 exact ⟨⟨cs,e.trans e1,hz⟩,(hc _).trans h.c0,fun k h1 h2=>(hc _).trans (h.cd k h1 h2),(hc _).trans h.ct,(hc _).trans h.cq,(hc _).trans h.cf⟩
theorem run_set {rb:Nat} (h:∃ cs:Array Value,w.heap[rb]?=some (.cells cs 174)∧cs.size=29) (o:Nat) (v:Value):∃ cs:Array Value,(w.setCell ⟨rb,o,none⟩ v).heap[rb]?=some (.cells cs 174)∧cs.size=29:=by
 obtain ⟨cs,e,hz⟩:=h
 refine ⟨cs.setIfInBounds o v,?_,by simp [hz]⟩
 simp only [World.setCell,Array.getElem?_modify,if_pos,e]
 rfl
theorem RunAt.setTop {b rb:Nat}{top:Option Nat}{depth fuel:Nat} (h:RunAt w b rb top depth fuel) (t:Option Nat):RunAt (w.setCell ⟨rb,24,none⟩ (.pointer (cptr t))) b rb t depth fuel :=
 ⟨run_set h.blk _ _,(fo _ _ _ _ (by omega)).trans h.c0,fun k h1 h2=>(fo _ _ _ _ (by omega)).trans (h.cd k h1 h2),cs_same h.ct,(fo _ _ _ _ (by omega)).trans h.cq,(fo _ _ _ _ (by omega)).trans h.cf⟩
theorem RunAt.setDepth {b rb:Nat}{top:Option Nat}{depth fuel:Nat} (h:RunAt w b rb top depth fuel) (d:Nat):RunAt (w.setCell ⟨rb,25,none⟩ (.int .i64 (d:Nat))) b rb top d fuel :=
 ⟨run_set h.blk _ _,(fo _ _ _ _ (by omega)).trans h.c0,fun k h1 h2=>(fo _ _ _ _ (by omega)).trans (h.cd k h1 h2),(fo _ _ _ _ (by omega)).trans h.ct,cs_same h.cq,(fo _ _ _ _ (by omega)).trans h.cf⟩
theorem RunAt.setFuel {b rb:Nat}{top:Option Nat}{depth fuel:Nat} (h:RunAt w b rb top depth fuel) (d:Nat):RunAt (w.setCell ⟨rb,26,none⟩ (.int .i64 (d:Nat))) b rb top depth d :=
 ⟨run_set h.blk _ _,(fo _ _ _ _ (by omega)).trans h.c0,fun k h1 h2=>(fo _ _ _ _ (by omega)).trans (h.cd k h1 h2),(fo _ _ _ _ (by omega)).trans h.ct,(fo _ _ _ _ (by omega)).trans h.cq,cs_same h.cf⟩
structure FrAt (w:World) (K:Kd) (fb mk:Nat) (f:Fr) (snd:Option Nat):Prop where
 raw:FrRaw w fb (some ⟨mk,0,none⟩) (some ⟨K.cb f.home,0,none⟩) f.self f.args f.pc f.st snd
 isM:K.k.Mk mk
 ws:(K.k.md mk).ws=f.ws
def Frs (w:World) (K:Kd):List (Nat×Nat)→List Fr→Prop
 | [],[]=>True
 | p::bs,f::fs=>FrAt w K p.1 p.2 f (bs.head?.map (·.1))∧Frs w K bs fs
 | _,_=>False
variable {m : Im}
variable {K K' : Kd}
theorem Frs.same (hcb:∀ c,c < m.kl.length→K'.cb c=K.cb c) (hmd:∀ k,K.k.Mk k→K'.k.Mk k∧K'.k.md k=K.k.md k):∀ (bs:List (Nat×Nat)) (fs:List Fr),(∀ f∈fs,f.home < m.kl.length)→Frs w K bs fs→(∀ p∈bs,w'.heap[p.1]?=w.heap[p.1]?)→Frs w' K' bs fs
 | [],[],_,_,_=>trivial
 | [],_::_,_,h,_=>h
 | _::_,[],_,h,_=>h
 | p::bs,f::fs,hh,h,he=>by
  refine ⟨⟨?_,(hmd _ h.1.isM).1,by rw [(hmd _ h.1.isM).2];exact h.1.ws⟩,Frs.same hcb hmd bs fs (fun g hg=>hh g (List.mem_cons_of_mem _ hg)) h.2 (fun q hq=>he q (List.mem_cons_of_mem _ hq))⟩
  rw [hcb f.home (hh f (List.mem_cons_self ..))]
  exact h.1.raw.same (he p (List.mem_cons_self ..))
structure Sg (Dd:Nat→Prop) (w0:World) (m0:Im) (K0:Kd) (rb:Nat) (w:World) (m:Im) (K:Kd) (fuel:Nat) (bs:List (Nat×Nat)) (fs:List Fr):Prop where
 stp:Step w0 w m0 K0 m K
 run:RunAt w K.b rb (bs.head?.map (·.1)) fs.length fuel
 frs:Frs w K bs fs
 len:bs.length=fs.length
 nd:(rb::bs.map (·.1)).Nodup
 lo:∀ k,k∈rb::bs.map (·.1)→w0.heap.size≤k∧k < w.heap.size∧¬ Foot m K k
 ok:ImOk m
 homes:∀ f∈fs,f.home < m.kl.length
 dead:∀ k,Dd k→w0.heap.size≤k∧k < w.heap.size∧¬ Foot m K k∧Cel w k
variable {w0 : World}
variable {m' m0 : Im}
variable {K0 : Kd}
variable {Dd : Nat → Prop}
variable {bs : List (Nat × Nat)}
variable {fs : List Fr}
theorem Sg.img {rb:Nat}{fuel:Nat} (h:Sg Dd w0 m0 K0 rb w m K fuel bs fs) (hs:Step w w' m K m' K'):Sg Dd w0 m0 K0 rb w' m' K' fuel bs fs:=by
 have hsame:∀ k,k∈rb::bs.map (·.1)→w'.heap[k]?=w.heap[k]?:=fun k hk=>hs.chg.block k (h.lo k hk).2.1 (h.lo k hk).2.2
 refine ⟨h.stp.trans hs,?_,Frs.same hs.cb hs.md bs fs h.homes h.frs (fun p hp=>hsame _ (List.mem_cons_of_mem _ (List.mem_map.2 ⟨p,hp,rfl⟩))),h.len,h.nd,fun k hk=>⟨(h.lo k hk).1,Nat.lt_of_lt_of_le (h.lo k hk).2.1 hs.chg.size,fun e=>?_⟩,hs.kim.ok,fun f hf=>Nat.lt_of_lt_of_le (h.homes f hf) hs.len,fun k hk=>⟨(h.dead k hk).1,Nat.lt_of_lt_of_le (h.dead k hk).2.1 hs.chg.size,fun e=>?_,(h.dead k hk).2.2.2.same (hs.chg.block k (h.dead k hk).2.1 (h.dead k hk).2.2.1)⟩⟩
 · rw [hs.b];exact h.run.same (hsame rb (List.mem_cons_self ..))
 · rcases hs.foot k e with e | e
   · exact (h.lo k hk).2.2 e
   · have:=(h.lo k hk).2.1;omega
 · rcases hs.foot k e with e | e
   · exact (h.dead k hk).2.2.1 e
   · have:=(h.dead k hk).2.1;omega
theorem Sg.below {rb:Nat}{fuel:Nat} (h:Sg Dd w0 m0 K0 rb w m K fuel bs fs) (hb:Below w.heap.size w w'):Sg Dd w0 m0 K0 rb w' m K fuel bs fs:=h.img (Step.below h.stp.kim hb)
theorem Sg.top {rb fb mk:Nat}{fuel:Nat}{f f':Fr} (h:Sg Dd w0 m0 K0 rb w m K fuel ((fb,mk)::bs) (f::fs)) (h0:Glo w0) (hch:Chg w w' (fun k=>k=fb))
 (hr:FrRaw w' fb (some ⟨mk,0,none⟩) (some ⟨K.cb f.home,0,none⟩) f'.self f'.args f'.pc f'.st (bs.head?.map (·.1))) (hh:f'.home=f.home) (hw:f'.ws=f.ws):Sg Dd w0 m0 K0 rb w' m K fuel ((fb,mk)::bs) (f'::fs):=by
 have hnd:=h.nd
 simp only [List.map_cons,List.nodup_cons,List.mem_cons,not_or] at hnd
 have hsame:∀ k,k∈rb::((fb,mk)::bs).map (·.1)→k≠fb→w'.heap[k]?=w.heap[k]?:=fun k hk hne=>hch.block k (h.lo k hk).2.1 hne
 have hlo:=h.lo fb (by simp)
 refine ⟨h.stp.aside hch (fun k e=>by rw [e];exact ⟨hlo.1,hlo.2.2⟩) (fun k hk=>h0.lt hk),?_,⟨⟨by rw [hh];exact hr,h.frs.1.isM,by rw [hw];exact h.frs.1.ws⟩,?_⟩,h.len,h.nd,fun k hk=>⟨(h.lo k hk).1,Nat.lt_of_lt_of_le (h.lo k hk).2.1 hch.size,(h.lo k hk).2.2⟩,h.ok,fun g hg=>?_,fun k hk=>⟨(h.dead k hk).1,Nat.lt_of_lt_of_le (h.dead k hk).2.1 hch.size,(h.dead k hk).2.2.1,?_⟩⟩
 · exact h.run.same (hsame rb (by simp) (fun e=>hnd.1.1 e))
 · refine Frs.same (m:=m) (fun _ _=>rfl) (fun _ hk=>⟨hk,rfl⟩) bs fs (fun g hg=>h.homes g (List.mem_cons_of_mem _ hg)) h.frs.2 (fun p hp=>hsame p.1 ?_ ?_)
   · simp only [List.map_cons,List.mem_cons];exact .inr (.inr (List.mem_map.2 ⟨p,hp,rfl⟩))
   · exact fun e=>hnd.2.1 (List.mem_map.2 ⟨p,hp,e⟩)
 · rcases List.mem_cons.1 hg with e | e
   · rw [e,hh];exact h.homes f (List.mem_cons_self ..)
   · exact h.homes g (List.mem_cons_of_mem _ e)
 · by_cases e:k=fb
   · rw [e];exact hr.cel
   · exact (h.dead k hk).2.2.2.same (hch.block k (h.dead k hk).2.1 e)
theorem Sg.runs {rb:Nat}{fuel fuel':Nat} (h:Sg Dd w0 m0 K0 rb w m K fuel bs fs) (h0:Glo w0) (hch:Chg w w' (fun k=>k=rb)) (hr:RunAt w' K.b rb (bs.head?.map (·.1)) fs.length fuel'):Sg Dd w0 m0 K0 rb w' m K fuel' bs fs:=by
 have hnd:=h.nd
 rw [List.nodup_cons] at hnd
 have hlo:=h.lo rb (List.mem_cons_self ..)
 refine ⟨h.stp.aside hch (fun k e=>by rw [e];exact ⟨hlo.1,hlo.2.2⟩) (fun k hk=>h0.lt hk),hr,?_,h.len,h.nd,fun k hk=>⟨(h.lo k hk).1,Nat.lt_of_lt_of_le (h.lo k hk).2.1 hch.size,(h.lo k hk).2.2⟩,h.ok,h.homes,fun k hk=>⟨(h.dead k hk).1,Nat.lt_of_lt_of_le (h.dead k hk).2.1 hch.size,(h.dead k hk).2.2.1,?_⟩⟩
 rotate_left
 · by_cases e:k=rb
   · rw [e];exact hr.cel
   · exact (h.dead k hk).2.2.2.same (hch.block k (h.dead k hk).2.1 e)
 refine Frs.same (m:=m) (fun _ _=>rfl) (fun _ hk=>⟨hk,rfl⟩) bs fs h.homes h.frs (fun p hp=>hch.block p.1 (h.lo p.1 (List.mem_cons_of_mem _ (List.mem_map.2 ⟨p,hp,rfl⟩))).2.1 (fun e=>hnd.1 (List.mem_map.2 ⟨p,hp,e⟩)))
theorem Sg.aside {rb:Nat}{fuel:Nat}{S:Nat→Prop} (h:Sg Dd w0 m0 K0 rb w m K fuel bs fs) (h0:Glo w0) (hch:Chg w w' S) (hS:∀ k,S k→w0.heap.size≤k∧¬ Foot m K k∧k ∉ rb::bs.map (·.1)∧¬ Dd k):Sg Dd w0 m0 K0 rb w' m K fuel bs fs:=by
 have hsame:∀ k,k∈rb::bs.map (·.1)→w'.heap[k]?=w.heap[k]?:=fun k hk=>hch.block k (h.lo k hk).2.1 (fun e=>(hS k e).2.2.1 hk)
 exact ⟨h.stp.aside hch (fun k e=>⟨(hS k e).1,(hS k e).2.1⟩) (fun k hk=>h0.lt hk),h.run.same (hsame rb (List.mem_cons_self ..)),Frs.same (m:=m) (fun _ _=>rfl) (fun _ hk=>⟨hk,rfl⟩) bs fs h.homes h.frs (fun p hp=>hsame _ (List.mem_cons_of_mem _ (List.mem_map.2 ⟨p,hp,rfl⟩))),h.len,h.nd,fun k hk=>⟨(h.lo k hk).1,Nat.lt_of_lt_of_le (h.lo k hk).2.1 hch.size,(h.lo k hk).2.2⟩,h.ok,h.homes,fun k hk=>⟨(h.dead k hk).1,Nat.lt_of_lt_of_le (h.dead k hk).2.1 hch.size,(h.dead k hk).2.2.1,(h.dead k hk).2.2.2.same (hch.block k (h.dead k hk).2.1 (fun e=>(hS k e).2.2.2 hk))⟩⟩
def WPost (Dd:Nat→Prop) (w0:World) (m0:Im) (K0:Kd) (rb:Nat) (g:Go1) (e:Ending) (w':World):Prop:=match g with
 | .on m fuel fs=>e=.returned (.tuple #[])∧∃ K bs,Sg Dd w0 m0 K0 rb w' m K fuel bs fs
 | .told m v=>e=.returned (.tuple #[])∧∃ K,Step w0 w' m0 K0 m K∧Cel w' rb∧w'.cell? ⟨rb,24,none⟩=some (.pointer none)∧w'.cell? ⟨rb,27,none⟩=some (.bool v.obj)∧w'.cell? ⟨rb,28,none⟩=some (.int .i64 v.n)
 | .stop m n=>e=.panicked (gaveUp n)∧∃ K,Step w0 w' m0 K0 m K
theorem Sg.look {Dd Df:Nat→Prop}{rb:Nat}{fuel:Nat} (h:Sg Dd w0 m0 K0 rb w m K fuel bs fs) (hd:∀ k,Df k→w0.heap.size≤k∧k < w.heap.size∧¬ Foot m K k∧Cel w k):Sg Df w0 m0 K0 rb w m K fuel bs fs:=⟨h.stp,h.run,h.frs,h.len,h.nd,h.lo,h.ok,h.homes,hd⟩
theorem nowhere_any (w:World):Calls Tryz.prog 90 #[] w fun e w'=>e=.returned (.pointer (some ⟨w.heap.size,0,none⟩))∧w'=w.alloc (.cells #[Mm.only.val] 198):=by
 go_enter Tryz.func90,Tryz.ntmps90
 go_wp2
 go_ret
 exact ⟨rfl,rfl⟩
theorem burn_no {b rb:Nat}{top:Option Nat}{depth:Nat} (h:RunAt w b rb top depth 0):Calls Tryz.prog 137 #[.pointer (some ⟨rb,0,none⟩)] w fun e w'=>e=.panicked (gaveUp 2)∧w'=w:=by
 have cf:=h.cf
 have hl:=h.cel.lt
 clear h
 simp only [Int.natCast_zero] at cf
 go_enter Tryz.func137,Tryz.ntmps137
 go_wp2
 exact ⟨rfl,rfl,rfl⟩
theorem burn_ok {b rb:Nat}{top:Option Nat}{depth fuel:Nat} (h:RunAt w b rb top depth (fuel+1)) (hf:fuel≤3000):Calls Tryz.prog 137 #[.pointer (some ⟨rb,0,none⟩)] w fun e w'=>e=.returned (.tuple #[])∧w'=w.setCell ⟨rb,26,none⟩ (.int .i64 (fuel:Nat)):=by
 have cf:=h.cf
 have hl:=h.cel.lt
 have fz:=fun o=>h.cel.free o
 simp only [Int.natCast_add,Int.natCast_one] at cf
 have hne:¬ ((fuel:Int)+1=0):=by omega
 clear h
 go_enter Tryz.func137,Tryz.ntmps137
 go_wp2
 go_end0
 exact ⟨rfl,rfl⟩
variable {f : Fr}
theorem Sg.pop {rb fb mk:Nat}{fuel:Nat} (h:Sg Dd w0 m0 K0 rb w m K fuel ((fb,mk)::bs) (f::fs)) (h0:Glo w0) (hch:Chg w w' (fun k=>k=rb)) (hr:RunAt w' K.b rb (bs.head?.map (·.1)) fs.length fuel):Sg Dd w0 m0 K0 rb w' m K fuel bs fs:=by
 have hnd:=h.nd
 simp only [List.map_cons,List.nodup_cons,List.mem_cons,not_or] at hnd
 have hlo:=h.lo rb (List.mem_cons_self ..)
 have hin:∀ k,k∈rb::bs.map (·.1)→k∈rb::((fb,mk)::bs).map (·.1):=fun k hk=>by
  rcases List.mem_cons.1 hk with e | e
  · rw [e];exact List.mem_cons_self ..
  · simp only [List.map_cons,List.mem_cons];exact .inr (.inr e)
 refine ⟨h.stp.aside hch (fun k e=>by rw [e];exact ⟨hlo.1,hlo.2.2⟩) (fun k hk=>h0.lt hk),hr,?_,by have:=h.len;simp at this;exact this,?_,fun k hk=>⟨(h.lo k (hin k hk)).1,Nat.lt_of_lt_of_le (h.lo k (hin k hk)).2.1 hch.size,(h.lo k (hin k hk)).2.2⟩,h.ok,fun g hg=>h.homes g (List.mem_cons_of_mem _ hg),fun k hk=>⟨(h.dead k hk).1,Nat.lt_of_lt_of_le (h.dead k hk).2.1 hch.size,(h.dead k hk).2.2.1,?_⟩⟩
 · refine Frs.same (m:=m) (fun _ _=>rfl) (fun _ hk=>⟨hk,rfl⟩) bs fs (fun g hg=>h.homes g (List.mem_cons_of_mem _ hg)) h.frs.2 (fun p hp=>hch.block p.1 (h.lo p.1 (hin _ (List.mem_cons_of_mem _ (List.mem_map.2 ⟨p,hp,rfl⟩)))).2.1 (fun e=>hnd.1.2 (List.mem_map.2 ⟨p,hp,e⟩)))
 · rw [List.nodup_cons];exact ⟨hnd.1.2,hnd.2.2⟩
 · by_cases e:k=rb
   · rw [e];exact hr.cel
   · exact (h.dead k hk).2.2.2.same (hch.block k (h.dead k hk).2.1 e)
theorem tell_any {rb fb mk:Nat}{fuel:Nat} (h:Sg Dd w0 m0 K0 rb w m K fuel ((fb,mk)::bs) (f::fs)) (h0:Glo w0) (v:Vl) (h32:fs.length≤32) (hroom:∀ g gs,fs=g::gs→g.st.length < 16) :
 Calls Tryz.prog 138 #[.pointer (some ⟨rb,0,none⟩),v.val] w (WPost Dd w0 m0 K0 rb (tellTo m fuel v fs)):=by
 obtain ⟨W1,hW1⟩:∃ W1,W1=w.alloc (.cells #[.bool v.obj,.int .i64 v.n] 33):=⟨_,rfl⟩
 have hB1:Below w.heap.size w W1:=by rw [hW1];exact (Below.refl _ w).alloc (Nat.le_refl _) _
 have hrl:=(h.lo rb (by simp)).2.1
 have hfl:=(h.lo fb (by simp)).2.1
 have ct:=h.run.ct
 have cq:=h.run.cq
 simp only [List.head?_cons,Option.map_some,cptr,List.length_cons,Int.natCast_add,Int.natCast_one] at ct cq
 have cn:=h.frs.1.raw.cn
 have fzr:=fun o=>h.run.cel.free o
 have h32':(fs.length:Int)≤32:=by omega
 have HS:Hid _:=h
 clear h
 unfold Vl.val
 go_enter Tryz.func138,Tryz.ntmps138
 cases fs with
 | nil =>
  have hbs:bs=[]:=by
   have:=HS.out.len
   simp at this
   exact this
  subst hbs
  simp only [List.head?_nil,Option.map_none,cptr,List.length_nil,Int.natCast_zero,Int.zero_add] at cn cq
  obtain ⟨o1,t27⟩:=HS.out.run.some (o:=27) (by omega)
  obtain ⟨o2,t28⟩:=HS.out.run.some (o:=28) (by omega)
  go_wp2
  have hlo:=HS.out.lo rb (by simp)
  refine bodyPost_ret (results_none rfl _ _ _) rfl ?_
  obtain ⟨X,hX⟩:∃ X,X=(((w.setCell ⟨rb,24,none⟩ (.pointer none)).setCell ⟨rb,25,none⟩ (.int .i64 0)).setCell ⟨rb,27,none⟩ (.bool v.obj)).setCell ⟨rb,28,none⟩ (.int .i64 v.n):=⟨_,rfl⟩
  rw [← hX]
  have hXz:X.heap.size=w.heap.size:=by rw [hX];simp [World.setCell]
  have hce:∀ o,(X.alloc (.cells #[.bool v.obj,.int .i64 v.n] 33)).cell? ⟨rb,o,none⟩=X.cell? ⟨rb,o,none⟩:=fun o=>World.cell?_of_block (a:=⟨rb,o,none⟩) (Below.heap_alloc _ _ _ (by show rb < X.heap.size;omega))
  refine ⟨rfl,K,HS.out.stp.aside (S:=fun k=>k=rb) ?_ (fun k e=>by rw [e];exact ⟨hlo.1,hlo.2.2⟩) (fun k hk=>h0.lt hk),?_,(hce _).trans ?_,(hce _).trans ?_,(hce _).trans ?_⟩
  · rw [hX]
    exact (((((Chg.refl w (fun k=>k=rb)).setCell _ _ (fun _=>rfl)).setCell _ _ (fun _=>rfl)).setCell _ _ (fun _=>rfl)).setCell _ _ (fun _=>rfl)).alloc _
  · have:Cel X rb:=by rw [hX];exact (((HS.out.run.cel.setCell _ _).setCell _ _).setCell _ _).setCell _ _
    exact this.same (Below.heap_alloc _ _ _ (by omega))
  · rw [hX,fo _ _ _ _ (by omega),fo _ _ _ _ (by omega),fo _ _ _ _ (by omega)];exact cs_same ct
  · rw [hX,fo _ _ _ _ (by omega)];exact cs_same (((fo _ _ _ _ (by omega)).trans (fo _ _ _ _ (by omega))).trans t27)
  · rw [hX];exact cs_same ((((fo _ _ _ _ (by omega)).trans (fo _ _ _ _ (by omega))).trans (fo _ _ _ _ (by omega))).trans t28)
 | cons g gs =>
  cases bs with
  | nil=>exact absurd HS.out.len (by simp)
  | cons q bs =>
   obtain ⟨gb,gm⟩:=q
   simp only [List.head?_cons,Option.map_some,cptr] at cn
   have hg31:(gs.length:Int)≤31:=by simp at h32';omega
   simp only [List.length_cons,Int.natCast_add,Int.natCast_one] at cq
   have hrm:=hroom g gs rfl
   clear hroom h32 h32'
   go_wp2_with fail
   obtain ⟨W2,hW2⟩:∃ W2,W2=((w.setCell ⟨rb,24,none⟩ (.pointer (some ⟨gb,0,none⟩))).setCell ⟨rb,25,none⟩ (.int .i64 ((gs.length:Int)+1))).alloc (.cells #[.bool v.obj,.int .i64 v.n] 33):=⟨_,rfl⟩
   rw [← hW2]
   have hz:((w.setCell ⟨rb,24,none⟩ (.pointer (some ⟨gb,0,none⟩))).setCell ⟨rb,25,none⟩ (.int .i64 ((gs.length:Int)+1))).heap.size=w.heap.size:=by simp [World.setCell]
   have h2:Sg Dd w0 m0 K0 rb W2 m K fuel ((gb,gm)::bs) (g::gs):=by
    rw [hW2]
    refine Sg.below (HS.out.pop h0 (((Chg.refl w (fun k=>k=rb)).setCell _ _ (fun _=>rfl)).setCell _ _ (fun _=>rfl)) ?_) ((Below.refl _ _).alloc (Nat.le_refl _) _)
    have:=(HS.out.run.setTop (some gb)).setDepth (gs.length+1)
    simpa [cptr] using this
   have hblk:W2.heap[w.heap.size]?=some (.cells #[.bool v.obj,.int .i64 v.n] 33):=by
    rw [hW2,← hz]
    exact (MapKept.heap_alloc _ _).1
   have v0:W2.cell? ⟨w.heap.size,0,none⟩=some (.bool v.obj):=by simp only [World.cell?,hblk];rfl
   have v1:W2.cell? ⟨w.heap.size,1,none⟩=some (.int .i64 v.n):=by simp only [World.cell?,hblk];rfl
   have ct2:=h2.run.ct
   simp only [List.head?_cons,Option.map_some,cptr] at ct2
   have hlay:=lay_any (w:=W2.drew) (h2.frs.1.raw.same rfl) hrm v
   unfold Vl.val at hlay
   have hl2:w.heap.size < W2.heap.size:=(Array.getElem?_eq_some_iff.1 hblk).1
   have hrl2:rb < W2.heap.size:=(h2.lo rb (by simp)).2.1
   have hgb:rb≠gb:=fun e=>by have:=h2.nd;simp [e] at this
   have hgw:w.heap.size≠gb:=fun e=>by have:=(HS.out.lo gb (by simp)).2.1;omega
   have H2:Hid _:=h2
   clear hW2 hz h2 hblk cq ct cn
   refine wp_region_noPanic ?_
   refine wp_region_held_drew (S:=(fun w'=>w'.cell? ⟨w.heap.size,0,none⟩=some (.bool v.obj)∧w'.cell? ⟨w.heap.size,1,none⟩=some (.int .i64 v.n)∧w'.cell? ⟨rb,24,none⟩=some (.pointer (some ⟨gb,0,none⟩)))) (by kernel_rfl) (by go_keep) (fun hHeld=>?_)
   refine tkH 0 ?_
   refine tkH 1 ?_
   refine tkH 2 ?_
   refine tkH 3 ?_
   refine tkL 4 ?_
   refine rdH 5 fun Kmac hKmac=>?_
   go_simp
   refine hlay.mono ?_;rintro e w3 ⟨rfl,hf3,hc3⟩;have v03:w3.cell? ⟨w.heap.size,0,none⟩=some (.bool v.obj):=(World.cell?_of_block (a:=⟨w.heap.size,0,none⟩) (hc3.block _ hl2 hgw)).trans v0;have v13:w3.cell? ⟨w.heap.size,1,none⟩=some (.int .i64 v.n):=(World.cell?_of_block (a:=⟨w.heap.size,1,none⟩) (hc3.block _ hl2 hgw)).trans v1;have ct3:w3.cell? ⟨rb,24,none⟩=some (.pointer (some ⟨gb,0,none⟩)):=(World.cell?_of_block (a:=⟨rb,24,none⟩) (hc3.block _ hrl2 hgb)).trans ct2
   try go_wp2_with fail
   refine hKmac.go fun hHeld=>?_
   clear hKmac Kmac
   try refine lyH ?_
   refine wpAnyH_done (by kernel_rfl) ?_ _
   refine NoPanic.normal ?_
   go_end0
   refine ⟨rfl,K,(gb,gm)::bs,?_⟩
   exact H2.out.top (f':={ g with st:=v::g.st }) h0 ((Chg.refl W2 _).drew.then hc3 (fun k _ e=>e)) hf3 rfl rfl
def ArgsAt (w:World) (av:Value) (args:List Vl) (ab:Nat):Prop:=∃ ap cap,av=.slice ap args.length cap∧(args≠[]→∃ ad:Addr,ap=some ad∧ad.block=ab∧∀ j u,(vcs args)[j]?=some u→w.cell? (ad.add j)=some u)
theorem Addr.add_block (a:Addr) (j:Nat):(a.add j).block=a.block:=by unfold Addr.add;split <;> rfl
theorem ArgsAt.same {av:Value}{args:List Vl}{ab:Nat} (h:ArgsAt w av args ab) (e:args≠[]→w'.heap[ab]?=w.heap[ab]?):ArgsAt w' av args ab:=by
 obtain ⟨ap,cap,e1,h1⟩:=h
 refine ⟨ap,cap,e1,fun hn=>?_⟩
 obtain ⟨ad,e2,e3,h2⟩:=h1 hn
 refine ⟨ad,e2,e3,fun j u hu=>(World.cell?_of_block (a:=ad.add j) ?_).trans (h2 j u hu)⟩
 rw [Addr.add_block,e3]
 exact e hn
theorem vcs_one (l:List Vl):∀ u∈vcs l,u.oneCell'=true:=by
 induction l with
 | nil=>intro u hu;cases hu
 | cons v r ih =>
  intro u hu
  simp only [vcs,List.mem_cons] at hu
  rcases hu with rfl | rfl | hu
  · rfl
  · rfl
  · exact ih u hu
theorem copy_args {av:Value}{args:List Vl}{ab nb:Nat}{cur:Array Value}{t:TypeId} (h:ArgsAt w av args ab) (h3:args.length≤3) (hg:w.heap[nb]?=some (.cells cur t)) (hz:10≤cur.size) (ty:TypeId) :
 (Builtin.copy_ #[34,34] ty #[.slice (some ⟨nb,4,none⟩) 3 3,av]).run Tryz.prog w=.ok (.int .i64 (args.length:Nat)) (w.setRow nb (cur.toList.take 4++vcs args++cur.toList.drop (4+(vcs args).length)).toArray):=by
 obtain ⟨i0,hi,_,h1,_⟩:=info_parts info_val
 obtain ⟨ap,cap,rfl,hx⟩:=h
 have hmin:Nat.min args.length 3=args.length:=Nat.min_eq_left h3
 have hvl:=vcs_len args
 by_cases hne:args=[]
 · subst hne
   have hself:=setRow_self w nb cur t (0,0) hg
   have e0:(cur.toList.take 4++vcs []++cur.toList.drop (4+(vcs []).length)).toArray=cur:=by simp [vcs]
   rw [e0,hself]
   cases ap with
   | none=>simp [Builtin.copy_,run_underlying Tryz.underlying34,Builtin.lenOf,Builtin.firstCells,Go.sizeOf,typeInfo,hi,h1,storeCells,goInt]
   | some a=>simp [Builtin.copy_,run_underlying Tryz.underlying34,Builtin.lenOf,Builtin.firstCells,Go.sizeOf,typeInfo,hi,h1,storeCells,goInt,loadCells,loadCellsFrom]
 · obtain ⟨ad,rfl,_,hsrc⟩:=hx hne
   have hl:=run_loadCells_list (P:=Tryz.prog) w ad (vcs args) hsrc
   have hst:=run_storeCells_at Tryz.prog nb 4 t (vcs args) 0 cur w hg (by rw [hvl];omega) (vcs_one _)
   rw [hvl] at hl
   rw [Nat.add_zero] at hst
   simp [Builtin.copy_,run_underlying Tryz.underlying34,Builtin.lenOf,Builtin.firstCells,Go.sizeOf,typeInfo,hi,h1,goInt,hl,hst,hmin]
theorem fresh_frame {nb:Nat}{mp kp:Option Addr}{sf:Vl}{args:List Vl}{snd:Option Nat}{cur:Array Value} (h3:args.length≤3) (hg:w.heap[nb]?=some (.cells cur 212)) (hz:cur.size=45)
 (h0:cur[0]?=some (.pointer mp)) (h1:cur[1]?=some (.pointer kp)) (h2:cur[2]?=some (.bool sf.obj)) (h3':cur[3]?=some (.int .i64 sf.n)) (h10:cur[10]?=some (.int .i64 0)) (h43:cur[43]?=some (.int .i64 0)) (h44:cur[44]?=some (.pointer (cptr snd))) :
 FrRaw (w.setRow nb (cur.toList.take 4++vcs args++cur.toList.drop (4+(vcs args).length)).toArray) nb mp kp sf args 0 [] snd:=by
 have hb:=setRow_heap w nb cur (cur.toList.take 4++vcs args++cur.toList.drop (4+(vcs args).length)).toArray 212 _ hg
 have hvl:=vcs_len args
 have hl4:(cur.toList.take 4).length=4:=by simp [hz]
 have lo:∀ o,o < 4→(w.setRow nb (cur.toList.take 4++vcs args++cur.toList.drop (4+(vcs args).length)).toArray).cell? ⟨nb,o,none⟩=cur[o]?:=fun o ho=>by
  simp only [World.cell?,hb,List.getElem?_toArray]
  rw [List.append_assoc,List.getElem?_append_left (by omega),List.getElem?_take_of_lt ho,Array.getElem?_toList]
  rfl
 have mid:∀ o,o < (vcs args).length→(w.setRow nb (cur.toList.take 4++vcs args++cur.toList.drop (4+(vcs args).length)).toArray).cell? ⟨nb,4+o,none⟩=(vcs args)[o]?:=fun o ho=>by
  simp only [World.cell?,hb,List.getElem?_toArray]
  rw [List.append_assoc,List.getElem?_append_right (by omega),List.getElem?_append_left (by omega),hl4,Nat.add_sub_cancel_left]
  rfl
 have hi:∀ o,4+(vcs args).length≤o→(w.setRow nb (cur.toList.take 4++vcs args++cur.toList.drop (4+(vcs args).length)).toArray).cell? ⟨nb,o,none⟩=cur[o]?:=fun o ho=>by
  simp only [World.cell?,hb,List.getElem?_toArray]
  rw [List.getElem?_append_right (by simp only [List.length_append,hl4];omega),List.getElem?_drop,List.length_append,hl4,show 4+(vcs args).length+(o - (4+(vcs args).length))=o from by omega,Array.getElem?_toList]
  rfl
 refine ⟨⟨_,hb,?_⟩,(lo 0 (by omega)).trans h0,(lo 1 (by omega)).trans h1,(lo 2 (by omega)).trans h2,(lo 3 (by omega)).trans h3',fun i v hv=>?_,h3,(hi 10 (by omega)).trans h10,fun i v hv=>(by cases hv),by simp,(hi 43 (by omega)).trans h43,(hi 44 (by omega)).trans h44⟩
 · simp only [List.size_toArray,List.length_append,hl4,List.length_drop,Array.length_toList,hz];omega
 · have hlt:=(List.getElem?_eq_some_iff.1 hv).1
   obtain ⟨e1,e2⟩:=vcs_get args i v hv
   exact ⟨(mid (i*2) (by omega)).trans e1,(mid (i*2+1) (by omega)).trans e2⟩
theorem Sg.push {rb nb mk:Nat}{fuel:Nat} (h:Sg Dd w0 m0 K0 rb w m K fuel bs fs) (h0:Glo w0) (hch:Chg w w' (fun k=>k=rb)) (hr:RunAt w' K.b rb (some nb) (fs.length+1) fuel) (hn:w.heap.size≤nb)
 (hf:FrAt w' K nb mk f (bs.head?.map (·.1))) (hh:f.home < m.kl.length):Sg Dd w0 m0 K0 rb w' m K fuel ((nb,mk)::bs) (f::fs):=by
 have hnd:=h.nd
 rw [List.nodup_cons] at hnd
 have hlo:=h.lo rb (List.mem_cons_self ..)
 have hz:=h.stp.chg.size
 have hst:=h.stp.aside hch (fun k e=>by rw [e];exact ⟨hlo.1,hlo.2.2⟩) (fun k hk=>h0.lt hk)
 have hnb:nb ∉ rb::bs.map (·.1):=fun e=>by have:=(h.lo nb e).2.1;omega
 refine ⟨hst,hr,⟨hf,?_⟩,by simp [h.len],?_,fun k hk=>?_,h.ok,fun g hg=>?_,fun k hk=>⟨(h.dead k hk).1,Nat.lt_of_lt_of_le (h.dead k hk).2.1 hch.size,(h.dead k hk).2.2.1,?_⟩⟩
 rotate_right
 · by_cases e:k=rb
   · rw [e];exact hr.cel
   · exact (h.dead k hk).2.2.2.same (hch.block k (h.dead k hk).2.1 e)
 · refine Frs.same (m:=m) (fun _ _=>rfl) (fun _ hk=>⟨hk,rfl⟩) bs fs h.homes h.frs (fun p hp=>hch.block p.1 (h.lo p.1 (List.mem_cons_of_mem _ (List.mem_map.2 ⟨p,hp,rfl⟩))).2.1 (fun e=>hnd.1 (List.mem_map.2 ⟨p,hp,e⟩)))
 · simp only [List.map_cons,List.nodup_cons,List.mem_cons,not_or] at hnb ⊢
   exact ⟨⟨fun e=>hnb.1 e.symm,hnd.1⟩,hnb.2,hnd.2⟩
 · have key:k=nb∨k∈rb::bs.map (·.1):=by
    simp only [List.map_cons,List.mem_cons] at hk ⊢
    rcases hk with e | e | e
    · exact .inr (.inl e)
    · exact .inl e
    · exact .inr (.inr e)
   rcases key with e | e
   · subst e
     exact ⟨by omega,hf.raw.cel.lt,fun e=>by have:=h.stp.kim.lt e;omega⟩
   · exact ⟨(h.lo k e).1,Nat.lt_of_lt_of_le (h.lo k e).2.1 hch.size,(h.lo k e).2.2⟩
 · rcases List.mem_cons.1 hg with e | e
   · rw [e];exact hh
   · exact h.homes g e
def fnOf (k:Nat):Value:=.func (.func (doF k)) #[] #[]
def doZ:Array Value:=Array.replicate 23 .nilFunc
def doAll:Array Value:=#[.nilFunc,fnOf 1,fnOf 2,fnOf 3,fnOf 4,fnOf 5,fnOf 6,fnOf 7,fnOf 8,fnOf 9,fnOf 10,fnOf 11,fnOf 12,fnOf 13,fnOf 14,fnOf 15,fnOf 16,fnOf 17,fnOf 18,fnOf 19,fnOf 20,fnOf 21,fnOf 22]
theorem alloc_do (w:World) (a:Act) (o:Oper) (ho:o.op=Op.alloc 170):(execOp a.eval o).run Tryz.prog w=.ok (.value (.pointer (some ⟨w.heap.size,0,none⟩))) (w.alloc (.cells doZ 170)):=by
 simp only [execOp,ho]
 kernel_rfl
theorem info_do:(Tryz.prog.info? 170).map (·.size)=some doAll.size:=by kernel_rfl
theorem und_do:Tryz.prog.underlying 170=some (.array 23 169):=by kernel_rfl
theorem store_do (w:World) (o:Oper) (ho:o.op=Op.store 170 (Operand.tmp 0) (Operand.tmp 1)):(execOp ({ tmps:=#[.pointer (some ⟨w.heap.size,0,none⟩),.agg doAll],defers:=[] }:Act).eval o).run Tryz.prog (w.alloc (.cells doZ 170))=.ok .skip (w.alloc (.cells doAll 170)):=by
 have:=run_storeAt_new (P:=Tryz.prog) w 170 doZ doAll info_do (by rfl) (by kernel_rfl)
 simp only [execOp,ho]
 simp [Act.eval,this]
theorem res_do (w:World):(results Tryz.f88 #[.pointer (some ⟨w.heap.size,0,none⟩),.agg doAll]).run Tryz.prog (w.alloc (.cells doAll 170))=.ok (.agg doAll) (w.alloc (.cells doAll 170)):=by
 have:=run_loadVar_new (P:=Tryz.prog) w 170 doAll 23 169 und_do info_do
 simp [results,Tryz.results88,this,asAddr]
theorem doings_any (w:World):Calls Tryz.prog 88 #[] w fun e w'=>e=.returned (.agg doAll)∧w'=w.alloc (.cells doAll 170):=by
 go_enter Tryz.func88,Tryz.ntmps88
 refine wp_seq (wp_region_list (wpList_step (fun K hK=>?_)))
 rw [if_pos (by kernel_rfl)]
 refine upon_eq (alloc_do _ _ _ rfl) ?_
 refine hK _ _ (wpList_nil ?_)
 refine wp_seq (wp_region_list (wpList_step (fun K hK=>?_)))
 rw [if_pos (by kernel_rfl)]
 refine upon_eq (r':=.ok (.value (.agg doAll)) (w.alloc (.cells doZ 170))) (by kernel_rfl) ?_
 refine hK _ _ (wpList_step (fun K hK=>?_))
 rw [if_pos (by kernel_rfl)]
 refine upon_eq (store_do w _ rfl) ?_
 refine hK _ _ (wpList_nil ?_)
 refine wp_ret ?_
 exact bodyPost_ret (res_do w) rfl ⟨rfl,rfl⟩
def runCs (b:Nat) (fuel:Nat):Array Value:=#[.pointer (some ⟨b,0,none⟩),.nilFunc,fnOf 1,fnOf 2,fnOf 3,fnOf 4,fnOf 5,fnOf 6,fnOf 7,fnOf 8,fnOf 9,fnOf 10,fnOf 11,fnOf 12,fnOf 13,fnOf 14,fnOf 15,fnOf 16,fnOf 17,fnOf 18,fnOf 19,fnOf 20,fnOf 21,fnOf 22,.pointer none,.int .i64 0,.int .i64 (fuel:Nat),.bool false,.int .i64 0]
end Go.Proofs.YtkghmgoefiepeaaGreatDoor.reads
