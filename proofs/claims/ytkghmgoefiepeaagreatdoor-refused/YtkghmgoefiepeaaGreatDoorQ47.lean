import Derived.Test.YtkghmgoefiepeaaGreatDoorQ0
import Derived.Test.YtkghmgoefiepeaaGreatDoorQ46
set_option linter.unusedSimpArgs false
set_option linter.unusedVariables false
set_option maxHeartbeats 4000000
set_option maxRecDepth 100000
namespace Go.Proofs.YtkghmgoefiepeaaGreatDoor.reads
open Go.ChangeShapes Go.WideShapes Go.ChangeAt Go.RowKit Kn Go.Proofs.YtkghmgoefiepeaaGreatDoor.img
def noGoto (Q:Exit→Act→World→Prop):Exit→Act→World→Prop
 | .goto _,_,_=>False
 | e,a,w=>Q e a w
variable {w : World}
theorem wp_scope_plain {P:Program}{a:Act}{Q:Exit→Act→World→Prop}{c:Code} (h:c.wp P (noGoto Q) a w):(Code.scope c).wp P Q a w :=
 wp_scope_gotos 0 (Code.wp_mono (fun e a w he=>by cases e <;> first | exact he | exact (he:False).elim) h)
theorem size_frm:(Tryz.prog.info? 212).map (·.size)=some 45:=by kernel_rfl
theorem fr_neq {p q:Nat} (hp:Cel w p) (hq:Cel w q):(binOp .neq 172 (.pointer (some ⟨p,0,none⟩)) (.pointer (some ⟨q,0,none⟩))).run Tryz.prog w=.ok (.bool (!decide (p=q))) w:=by
 have hs:=size_frm
 cases hi:Tryz.prog.info? 212 with
 | none=>rw [hi] at hs;cases hs
 | some i =>
  rw [hi] at hs
  simp at hs
  have h:=run_equal_ptr (P:=Tryz.prog) (w:=w) Tryz.underlying172 hi (by omega) hp hq
  simp only [binOp]
  simp [h]
theorem fnil_neq (a:Addr):(binOp .neq 172 (.pointer none) (.pointer (some a))).run Tryz.prog w=.ok (.bool true) w:=by
 have h:∀ d:Nat,(Op.equalIn (d+1) 172 (.pointer none) (.pointer (some a))).run Tryz.prog w=.ok false w:=fun d=>by
  simp [Op.equalIn,run_underlying Tryz.underlying172]
 have h2:(Op.equal 172 (.pointer none) (.pointer (some a))).run Tryz.prog w=.ok false w:=h 9999
 simp only [binOp]
 simp [h2]
theorem do_ent (k:Nat) (h1:1≤k) (h2:k < 23) (args:Array Value) (W:World):(callFunc (doF k) args).run Tryz.prog W=.ok (.enter (doF k) args) W:=by
 obtain rfl | rfl | rfl | rfl | rfl | rfl | rfl | rfl | rfl | rfl | rfl | rfl | rfl | rfl | rfl | rfl | rfl | rfl | rfl | rfl | rfl | rfl:k=1∨k=2∨k=3∨k=4∨k=5∨k=6∨k=7∨k=8∨k=9∨k=10∨k=11∨k=12∨k=13∨k=14∨k=15∨k=16∨k=17∨k=18∨k=19∨k=20∨k=21∨k=22:=by omega
 all_goals simp [doF,go_sem]
def NoD:Nat→Prop:=fun _=>False
theorem run_told (k:Nat) (m:Im) (v:Vl):runM k (.told m v)=.told m v:=by cases k <;> rfl
theorem run_stop (k:Nat) (m:Im) (e:Int):runM k (.stop m e)=.stop m e:=by cases k <;> rfl
theorem kind_rng {k:Nat} (h:k∈kinds):1≤kindOf k∧kindOf k < 23:=by
 simp only [kinds,List.mem_cons,List.not_mem_nil,or_false] at h
 rcases h with rfl | rfl | rfl | rfl | rfl | rfl | rfl | rfl | rfl | rfl | rfl | rfl | rfl | rfl | rfl | rfl | rfl | rfl | rfl | rfl | rfl | rfl <;> decide
def FOn (w0:World) (m0:Im) (K0:Kd) (rb:Nat) (R:Go1) (gk:Nat) (wr:World):Prop:=∃ m K fuel bs fs,Sg NoD w0 m0 K0 rb wr m K fuel bs fs∧(Go1.on m fuel fs).Ok∧fuel≤3000∧2*fuel+fs.length < gk∧runM gk (.on m fuel fs)=R
def FTold (w0:World) (m0:Im) (K0:Kd) (rb:Nat) (R:Go1) (wr:World):Prop:=∃ m v,R=.told m v∧WPost NoD w0 m0 K0 rb (.told m v) (.returned (.tuple #[])) wr
def FInv (w0:World) (m0:Im) (K0:Kd) (rb:Nat) (R:Go1) (gk:Nat) (wr:World):Prop:=FOn w0 m0 K0 rb R gk wr∨FTold w0 m0 K0 rb R wr
def FTop (w0:World) (m0:Im) (K0:Kd) (rb:Nat) (R:Go1) (fb gk:Nat) (wr:World):Prop:=∃ m K fuel mk bs f fs,Sg NoD w0 m0 K0 rb wr m K fuel ((fb,mk)::bs) (f::fs)∧(Go1.on m fuel (f::fs)).Ok∧fuel≤3000∧2*fuel+(f::fs).length < gk∧runM gk (.on m fuel (f::fs))=R
variable {w0 : World}
variable {m0 : Im}
variable {K0 : Kd}
theorem FOn.top {rb:Nat}{R:Go1}{gk:Nat}{wr:World} (h:FOn w0 m0 K0 rb R gk wr):∃ fb,FTop w0 m0 K0 rb R fb gk wr∧wr.cell? ⟨rb,24,none⟩=some (.pointer (some ⟨fb,0,none⟩))∧rb < wr.heap.size:=by
 obtain ⟨m,K,fuel,bs,fs,h1,h2,h3,h4,h5⟩:=h
 cases fs with
 | nil=>exact h2.2.1.elim
 | cons f fs =>
  cases bs with
  | nil=>exact absurd h1.len (by simp)
  | cons p bs=>exact ⟨p.1,⟨m,K,fuel,p.2,bs,f,fs,h1,h2,h3,h4,h5⟩,h1.run.ct,h1.run.cel.lt⟩
theorem frames_any {rb:Nat} (h0:Glo w0) (R:Go1) (w:World) (N:Nat) (hst:FOn w0 m0 K0 rb R N w) :
 Calls Tryz.prog 92 #[.pointer (some ⟨rb,0,none⟩)] w (WPost NoD w0 m0 K0 rb R):=by
 go_enter Tryz.func92,Tryz.ntmps92
 go_wp2
 refine wp_scope_plain ?_
 go_wp2
 refine wp_label ?_
 go_wp2
 go_loopg [] N (fun gk wr=>FInv w0 m0 K0 rb R gk wr)
 case atStart=>exact .inl hst
 case round =>
  rcases hrel with hrel | ⟨m,v,hR,hp⟩
  · obtain ⟨fb,htop,ct,hrl⟩:=hrel.top
    obtain ⟨go,hgo⟩:∃ go,go=gk:=⟨_,rfl⟩
    subst hgo
    clear hrel
    have HT:Hid (FTop w0 m0 K0 rb R fb go wr):=htop
    clear htop
    go_wp2
    go_loopg [] go (fun gj wi=>FTop w0 m0 K0 rb R fb gj wi∧gj≤go)
    case atStart=>exact ⟨HT.out,Nat.le_refl _⟩
    case round =>
     obtain ⟨⟨m,K,fuel,mk,bs,f,fs,hs,hok,hfu,hme,hrun⟩,hle⟩:=hrel
     obtain ⟨gj,rfl⟩:∃ gj,gk=gj+1:=⟨gk - 1,by omega⟩
     have hraw:=hs.frs.1.raw
     have c0:=hraw.c0
     have cp:=hraw.cp
     have s2:=hraw.c2
     have s3:=hraw.c3
     have hmt:=hs.stp.kim.cor.mt mk hs.frs.1.isM
     obtain ⟨hh,hmb⟩:=hmt.blk
     have hw40:=hmt.len
     rw [hs.frs.1.ws] at hmb hw40
     have mc:wr.cell? ⟨mk,0,none⟩=some (.slice (K.k.md mk).p f.ws.length (K.k.md mk).cap):=by simp only [World.cell?,hmb];rfl
     have l1:=hs.run.cel.lt
     have l2:=hraw.cel.lt
     have l3:=hmt.cel.lt
     have hok2:=step_ok hok
     have hrun2:runM gj (stepM m fuel (f::fs))=R:=hrun
     have h32:fs.length+1≤32:=hok.2.2
     have hfs:=hok.2.1.2
     have hroom:∀ g gs,fs=g::gs→g.st.length < 16:=fun g gs e=>by
      have:=reach_le (hfs g (by rw [e];simp)).at_
      omega
     cases hx:f.ws[f.pc]? with
     | none =>
      have hge:¬ f.pc < f.ws.length:=fun e=>by rw [List.getElem?_eq_getElem e] at hx;cases hx
      have hlt:¬ ((f.pc:Int) < (f.ws.length:Int)):=by omega
      have hstp:stepM m fuel (f::fs)=tellTo m fuel f.self fs:=by simp [stepM,hx]
      rw [hstp] at hok2 hrun2
      have htell:=tell_any (hs.below (Below.refl _ _).drew) h0 f.self (by omega) hroom
      unfold Vl.val at htell
      have HX:Hid ((tellTo m fuel f.self fs).Ok∧runM gj (tellTo m fuel f.self fs)=R∧2*fuel+fs.length+1 < gj+1):=⟨hok2,hrun2,hme⟩
      clear hraw hs hmt hmb hok hrun hok2 hrun2 hstp hx hfs hroom hme HT
      go_wp2_with fail
      refine wp_region_noPanic ?_
      refine wp_region_held_drew (S:=(fun w'=>w'.cell? ⟨fb,0,none⟩=some (.pointer (some ⟨mk,0,none⟩))∧w'.cell? ⟨fb,10,none⟩=some (.int .i64 (f.pc:Nat))∧w'.cell? ⟨mk,0,none⟩=some (.slice (K.k.md mk).p f.ws.length (K.k.md mk).cap))) (by kernel_rfl) (by go_keep) (fun hHeld=>?_)
      refine tkH 0 ?_
      refine tkH 1 ?_
      refine tkH 2 ?_
      refine tkH 3 ?_
      refine tkH 4 ?_
      refine tkH 5 ?_
      refine tkH 6 ?_
      refine tkH 7 ?_
      refine tkH 8 ?_
      refine tkH 9 ?_
      refine tkH 10 ?_
      refine tkH 11 ?_
      refine tkL 12 ?_
      refine wpAnyH_done (by kernel_rfl) ?_ _
      refine NoPanic.normal ?_
      go_wp2_with fail
      refine htell.mono ?_
      intro e w3 hp
      cases fs with
      | nil =>
       obtain ⟨rfl,hr⟩:=hp
       have HP:Hid _:=hr
       clear hr htell
       go_wp2
       go_roundg gj
       case measure=>omega
       case rel =>
        have h1:=HX.out.2.1
        rw [show tellTo m fuel f.self []=.told m f.self from rfl,run_told] at h1
        exact .inr ⟨m,f.self,h1.symm,rfl,HP.out⟩
      | cons g gs =>
       obtain ⟨rfl,hr⟩:=hp
       have HP:Hid _:=hr
       clear hr htell
       go_wp2
       go_roundg gj
       case measure=>omega
       case rel =>
        obtain ⟨K',bs',h3⟩:=HP.out
        exact .inl ⟨m,K',fuel,bs',_,h3,HX.out.1,hfu,by have:=HX.out.2.2;simp only [List.length_cons] at this ⊢;omega,HX.out.2.1⟩
     | some x =>
      have hpc:f.pc < f.ws.length:=(List.getElem?_eq_some_iff.1 hx).1
      have hlt:(f.pc:Int) < (f.ws.length:Int):=by omega
      have hkr:=kind_rng (hok.2.1.1.good.fine f.pc x hx).kind
      cases fuel with
      | zero =>
       have hstp:stepM m 0 (f::fs)=.stop m 2:=by simp [stepM,hx]
       rw [hstp,run_stop] at hrun2
       have hb:=burn_no (hs.run.same (w':=wr.drew) rfl)
       have HX:Hid (Step w0 wr m0 K0 m K):=hs.stp
       subst hrun2
       clear hraw hs hmt hmb hok hrun hok2 hstp hx hfs hroom hme HT
       go_wp2_with fail
       refine wp_region_noPanic ?_
       refine wp_region_held_drew (S:=(fun w'=>w'.cell? ⟨fb,0,none⟩=some (.pointer (some ⟨mk,0,none⟩))∧w'.cell? ⟨fb,10,none⟩=some (.int .i64 (f.pc:Nat))∧w'.cell? ⟨mk,0,none⟩=some (.slice (K.k.md mk).p f.ws.length (K.k.md mk).cap))) (by kernel_rfl) (by go_keep) (fun hHeld=>?_)
       refine tkH 0 ?_
       refine tkH 1 ?_
       refine tkH 2 ?_
       refine tkH 3 ?_
       refine tkH 4 ?_
       refine tkH 5 ?_
       refine tkH 6 ?_
       refine tkH 7 ?_
       refine tkH 8 ?_
       refine tkH 9 ?_
       refine tkH 10 ?_
       refine tkH 11 ?_
       refine tkL 12 ?_
       refine wpAnyH_done (by kernel_rfl) ?_ _
       refine NoPanic.normal ?_
       go_wp2_with fail
       refine hb.mono ?_
       rintro e w3 ⟨rfl,rfl⟩
       clear hb
       go_wp2
       exact ⟨rfl,rfl,K,HX.out.trans (Step.below HX.out.kim (Below.refl _ _).drew)⟩
      | succ fu =>
       have hstp:stepM m (fu+1) (f::fs)=wordM m fu x.1 { f with pc:=f.pc+1 } fs:=by simp [stepM,hx]
       have hwsz:=word_sz m fu x.1 { f with pc:=f.pc+1 } fs
       rw [hstp] at hok2 hrun2
       have hb:=burn_ok (hs.run.same (w':=wr.drew) rfl) (by omega)
       obtain ⟨W3,hW3⟩:∃ W3,W3=wr.drew.setCell ⟨rb,26,none⟩ (.int .i64 (fu:Nat)):=⟨_,rfl⟩
       rw [← hW3] at hb
       have hs3:Sg NoD w0 m0 K0 rb W3 m K fu ((fb,mk)::bs) (f::fs):=by
        refine (hs.below (Below.refl _ _).drew).runs h0 (fuel':=fu) ?_ ?_
        · rw [hW3];exact (Chg.refl _ (fun k=>k=rb)).setCell _ _ (fun _=>rfl)
        · rw [hW3];exact (hs.run.same (w':=wr.drew) rfl).setFuel fu
       have hraw3:=hs3.frs.1.raw
       have d0:=hraw3.c0
       have dp:=hraw3.cp
       have hmt3:=hs3.stp.kim.cor.mt mk hs3.frs.1.isM
       obtain ⟨hh3,hmb3⟩:=hmt3.blk
       rw [hs3.frs.1.ws] at hmb3
       have hpp:=hmt3.mat.head (by rw [hs3.frs.1.ws];omega)
       have dm:W3.cell? ⟨mk,0,none⟩=some (.slice (some ⟨(K.k.md mk).g,0,none⟩) f.ws.length (K.k.md mk).cap):=by rw [← hpp];simp only [World.cell?,hmb3];rfl
       have hxx:(K.k.md mk).ws[f.pc]?=some x:=by rw [hs3.frs.1.ws];exact hx
       have g0:=hmt3.mat.c0 f.pc x hxx
       have g1:=hmt3.mat.c1 f.pc x hxx
       have g2:=hmt3.mat.c2 f.pc x hxx
       have g3:=hmt3.mat.c3 f.pc x hxx
       have g4:=hmt3.mat.c4 f.pc x hxx
       have g5:=hmt3.mat.c5 f.pc x hxx
       obtain ⟨pl,hpl⟩:∃ pl,pl=(if f.pc < (K.k.md mk).ws.length∧sendsW x.1=true then some (⟨(K.k.md mk).pl f.pc,0,none⟩:Addr) else none):=⟨_,rfl⟩
       rw [← hpl] at g5
       have hpl2:sendsW x.1=true→∃ p,pl=some ⟨p,0,none⟩∧(p,ofL x.1.sel)∈K.k.L:=fun e=>⟨(K.k.md mk).pl f.pc,by rw [hpl,if_pos ⟨by rw [hs3.frs.1.ws];exact hpc,e⟩],hmt3.pls f.pc x hxx e⟩
       have uf:∀ o,W3.frozen? ⟨fb,o,none⟩=false:=fun o=>hraw3.cel.free o
       have hgl:=(hmt3.mat.cel (by rw [hs3.frs.1.ws];omega)).lt
       have l13:=hs3.run.cel.lt
       have l23:=hraw3.cel.lt
       have l33:=hmt3.cel.lt
       have H3:Hid _:=hs3
       have HX:Hid ((Go1.on m (fu+1) (f::fs)).Ok∧(wordM m fu x.1 { f with pc:=f.pc+1 } fs).Ok∧runM gj (wordM m fu x.1 { f with pc:=f.pc+1 } fs)=R∧2*(fu+1)+(fs.length+1) < gj+1∧f.ws[f.pc]?=some x∧(wordM m fu x.1 { f with pc:=f.pc+1 } fs).Sz fu (fs.length+2)):=⟨hok,hok2,hrun2,hme,hx,hwsz⟩
       have HPL:Hid _:=hpl2
       clear hraw hs hmt hmb hok hrun hrun2 hok2 hstp hx hroom hme HT hs3 hraw3 hmt3 hmb3 hxx hpl hpl2 hwsz hpp hW3
       go_wp2_with fail
       refine wp_region_noPanic ?_
       refine wp_region_held_drew (S:=(fun w'=>w'.cell? ⟨fb,0,none⟩=some (.pointer (some ⟨mk,0,none⟩))∧w'.cell? ⟨fb,10,none⟩=some (.int .i64 (f.pc:Nat))∧w'.cell? ⟨mk,0,none⟩=some (.slice (K.k.md mk).p f.ws.length (K.k.md mk).cap))) (by kernel_rfl) (by go_keep) (fun hHeld=>?_)
       refine tkH 0 ?_
       refine tkH 1 ?_
       refine tkH 2 ?_
       refine tkH 3 ?_
       refine tkH 4 ?_
       refine tkH 5 ?_
       refine tkH 6 ?_
       refine tkH 7 ?_
       refine tkH 8 ?_
       refine tkH 9 ?_
       refine tkH 10 ?_
       refine tkH 11 ?_
       refine tkL 12 ?_
       refine wpAnyH_done (by kernel_rfl) ?_ _
       refine NoPanic.normal ?_
       go_wp2_with fail
       refine hb.mono ?_
       rintro e w3 ⟨rfl,rfl⟩
       clear hb c0 cp s2 s3 mc l1 l2 l3
       go_wp2_with fail
       refine wp_region_noPanic ?_
       refine wp_region_held_drew (S:=(fun w'=>w'.cell? ⟨fb,0,none⟩=some (.pointer (some ⟨mk,0,none⟩))∧w'.cell? ⟨fb,10,none⟩=some (.int .i64 (f.pc:Nat))∧w'.cell? ⟨mk,0,none⟩=some (.slice (some ⟨(K.k.md mk).g,0,none⟩) f.ws.length (K.k.md mk).cap)∧w'.cell? ⟨(K.k.md mk).g,f.pc*6,none⟩=some (.int .i64 (kindOf x.1.k:Nat))∧w'.cell? ⟨(K.k.md mk).g,f.pc*6+1,none⟩=some (.int .i64 x.1.n)∧w'.cell? ⟨(K.k.md mk).g,f.pc*6+2,none⟩=some (.string (ofL x.1.a))∧w'.cell? ⟨(K.k.md mk).g,f.pc*6+3,none⟩=some (.string (ofL x.1.sel))∧w'.cell? ⟨(K.k.md mk).g,f.pc*6+4,none⟩=some (.string (ofL x.1.b))∧w'.cell? ⟨(K.k.md mk).g,f.pc*6+5,none⟩=some (.pointer pl))) (by kernel_rfl) (by go_keep) (fun hHeld=>?_)
       refine tkH 0 ?_
       refine tkH 1 ?_
       refine tkH 2 ?_
       refine tkH 3 ?_
       refine tkH 4 ?_
       refine tkH 5 ?_
       refine tkH 6 ?_
       refine tkH 7 ?_
       refine tkH 8 ?_
       refine tkH 9 ?_
       refine tkL 10 ?_
       refine wpAnyH_ready (rs:=[11,13]) (by kernel_rfl) (by simp) ?_
       refine (AllReadyH.cons (o:=_) rfl (fun Kmac hKmac=>?Wd1) (AllReadyH.cons (o:=_) rfl (fun Kmac hKmac=>?Wd2) AllReadyH.nil))
       case Wd1 =>
        go_simp
        refine hKmac.go fun hHeld=>?_
        clear hKmac Kmac
        try refine lyH ?_
        refine tkL 12 ?_
        refine rdH 13 fun Kmac hKmac=>?_
        go_simp
        refine hKmac.go fun hHeld=>?_
        clear hKmac Kmac
        try refine lyH ?_
        refine rdH 14 fun Kmac hKmac=>?_
        go_simp
        refine hKmac.go fun hHeld=>?_
        clear hKmac Kmac
        try refine lyH ?_
        refine wpAnyH_done (by kernel_rfl) ?_ _
        refine NoPanic.normal ?_
        go_wp2_with fail
        obtain ⟨W4,hW4⟩:∃ W4,W4=w3.setCell ⟨fb,10,none⟩ (.int .i64 ((f.pc:Int)+1)):=⟨_,rfl⟩
        rw [← hW4]
        have h4:Sg NoD w0 m0 K0 rb W4 m K fu ((fb,mk)::bs) ({ f with pc:=f.pc+1 }::fs):=by
         refine H3.out.top h0 (f':={ f with pc:=f.pc+1 }) ?_ ?_ rfl rfl
         · rw [hW4];exact (Chg.refl _ (fun k=>k=fb)).setCell _ _ (fun _=>rfl)
         · rw [hW4];exact H3.out.frs.1.raw.goto (f.pc+1)
        have hz4:w3.heap.size=W4.heap.size:=by rw [hW4];simp [World.setCell]
        obtain ⟨W5,hW5⟩:∃ W5,W5=W4.alloc (.cells (wcs x.1 pl) 146):=⟨_,rfl⟩
        have B:=(h4.look (Df:=fun k=>k=fb) (fun k e=>by rw [e];have:=h4.lo fb (by simp);exact ⟨this.1,this.2.1,this.2.2,h4.frs.1.raw.cel⟩)).box x.1 pl hW5
        unfold wcs at hW5
        rw [← hW5,hz4]
        obtain ⟨zb,hzb⟩:∃ zb,zb=W4.heap.size:=⟨_,rfl⟩
        have hat:=B.blk
        rw [← hzb] at hat
        rw [← hzb]
        obtain ⟨kd,hkd⟩:∃ kd,kd=kindOf x.1.k:=⟨_,rfl⟩
        have b0:W5.cell? ⟨zb,0,none⟩=some (.int .i64 (kd:Nat)):=by rw [hkd];simp only [World.cell?,hat];rfl
        have b1:W5.cell? ⟨zb,1,none⟩=some (.int .i64 x.1.n):=by simp only [World.cell?,hat];rfl
        have b2:W5.cell? ⟨zb,2,none⟩=some (.string (ofL x.1.a)):=by simp only [World.cell?,hat];rfl
        have b3:W5.cell? ⟨zb,3,none⟩=some (.string (ofL x.1.sel)):=by simp only [World.cell?,hat];rfl
        have b4:W5.cell? ⟨zb,4,none⟩=some (.string (ofL x.1.b)):=by simp only [World.cell?,hat];rfl
        have b5:W5.cell? ⟨zb,5,none⟩=some (.pointer pl):=by simp only [World.cell?,hat];rfl
        have bd:W5.cell? ⟨rb,1+kd,none⟩=some (.func (.func (doF kd)) #[] #[]):=by rw [hkd];exact B.sg.run.cd _ hkr.1 hkr.2
        have hdo:=do_any (B.sg.below (Below.refl _ _).drew.drew) h0 x pl HX.out.1.2.1.1 hfs h32 HX.out.2.2.2.2.1 HPL.out
        have hent:=do_ent kd (by rw [hkd];exact hkr.1) (by rw [hkd];exact hkr.2) #[.pointer (some ⟨rb,0,none⟩),wval x.1 pl] W5.drew.drew
        rw [← hkd] at hdo
        rw [← hkd] at hkr
        obtain ⟨hk1,hk2⟩:=hkr
        have hl5:=(B.sg.lo rb (by simp)).2.1
        unfold wval wcs at hdo hent
        rw [← hkd] at hdo hent ⊢
        have hk3:(kd:Int) < 23:=by omega
        clear B h4 hW4 hW5 hz4 hat hzb hkd d0 dp dm g0 g1 g2 g3 g4 g5 hgl l13 l23 l33 H3 uf
        refine wp_region_held_drew (S:=(fun _=>True)) (by kernel_rfl) (by go_keep) (fun hHeld=>?_)
        refine tkH 0 ?_
        refine tkH 1 ?_
        refine tkH 3 ?_
        refine tkH 4 ?_
        refine tkL 7 ?_
        refine wpAnyH_ready (rs:=[2,8]) (by kernel_rfl) (by simp) ?_
        refine (AllReadyH.cons (o:=_) rfl (fun Kmac hKmac=>?Wf1) (AllReadyH.cons (o:=_) rfl (fun Kmac hKmac=>?Wf2) AllReadyH.nil))
        case' Wf1 =>
         go_simp
         refine hKmac.go fun hHeld=>?_
         clear hKmac Kmac
         try refine lyH ?_
         refine tkL 5 ?_
         refine wpAnyH_ready (rs:=[6,8]) (by kernel_rfl) (by simp) ?_
         refine (AllReadyH.cons (o:=_) rfl (fun Kmac hKmac=>?Wg1) (AllReadyH.cons (o:=_) rfl (fun Kmac hKmac=>?Wg2) AllReadyH.nil))
         case' Wg1 =>
          go_simp
          refine hKmac.go fun hHeld=>?_
          clear hKmac Kmac
          try refine lyH ?_
          refine rdH 8 fun Kmac hKmac=>?_
          go_simp
          refine hKmac.go fun hHeld=>?_
          clear hKmac Kmac
          try refine lyH ?_
          refine ?lg
         case' Wg2 =>
          go_simp
          refine hKmac.go fun hHeld=>?_
          clear hKmac Kmac
          try refine lyH ?_
          refine rdH 6 fun Kmac hKmac=>?_
          go_simp
          refine hKmac.go fun hHeld=>?_
          clear hKmac Kmac
          try refine lyH ?_
          refine ?lg
        case' Wf2 =>
         go_simp
         refine hKmac.go fun hHeld=>?_
         clear hKmac Kmac
         try refine lyH ?_
         refine rdH 2 fun Kmac hKmac=>?_
         go_simp
         refine hKmac.go fun hHeld=>?_
         clear hKmac Kmac
         try refine lyH ?_
         refine tkL 5 ?_
         refine rdH 6 fun Kmac hKmac=>?_
         go_simp
         refine hKmac.go fun hHeld=>?_
         clear hKmac Kmac
         try refine lyH ?_
         refine ?lh
        all_goals
         refine rdH 9 fun Kmac hKmac=>?_
         go_simp
         refine hdo.mono ?_
         intro e w6 hwp
         clear hdo hent b0 b1 b2 b3 b4 b5 bd hk1 hk2 hk3 hl5 HPL
         cases hg:wordM m fu x.1 { f with pc:=f.pc+1 } fs with
         | stop m' n' =>
          rw [hg] at hwp
          obtain ⟨rfl,K',hst'⟩:=hwp
          have hR:=HX.out.2.2.1
          rw [hg,run_stop] at hR
          subst hR
          exact ⟨rfl,rfl,K',hst'⟩
         | told m' v =>
          rw [hg] at hwp
          obtain ⟨rfl,hq⟩:=hwp
          have HP:Hid _:=hq
          obtain ⟨K',hst',hce,hnt,-,-⟩:=hq
          have hl6:=hce.lt
          have HG:Hid _:=hg
          clear hst' hce hg
          refine hKmac.go fun hHeld=>?_
          clear hKmac Kmac
          try refine lyH ?_
          refine wpAnyH_done (by kernel_rfl) ?_ _
          have hnn:=fnil_neq (w:=w6) ⟨fb,0,none⟩
          go_wp2
          go_roundg gj
          case measure=>omega
          case rel =>
           have h1:=HX.out.2.2.1
           rw [HG.out,run_told] at h1
           exact .inr ⟨m',v,h1.symm,rfl,HP.out⟩
         | on m' fuel' fs' =>
          rw [hg] at hwp
          obtain ⟨rfl,K',bs',h6⟩:=hwp
          have hc:=(h6.dead fb rfl).2.2.2
          have hY:=HX.out
          rw [hg] at hY
          obtain ⟨-,hok6,hrun6,hme6,-,hsz6⟩:=hY
          obtain ⟨hfe,hle6⟩:=hsz6
          cases fs' with
          | nil=>exact hok6.2.1.elim
          | cons g gs =>
           cases bs' with
           | nil=>exact absurd h6.len (by simp)
           | cons q bs' =>
            obtain ⟨qb,qk⟩:=q
            have ct6:w6.cell? ⟨rb,24,none⟩=some (.pointer (some ⟨qb,0,none⟩)):=h6.run.ct
            have hl6:=h6.run.cel.lt
            have hne:=fr_neq h6.frs.1.raw.cel hc
            have h7:=h6.look (Df:=NoD) (fun k e=>(e:False).elim)
            have HT7:Hid (FTop w0 m0 K0 rb R qb gj w6):=⟨m',K',fuel',qk,bs',g,gs,h7,hok6,by omega,by simp only [List.length_cons] at hle6 ⊢;omega,hrun6⟩
            have HO7:Hid (FOn w0 m0 K0 rb R gj w6):=⟨m',K',fuel',_,_,h7,hok6,by omega,by simp only [List.length_cons] at hle6 ⊢;omega,hrun6⟩
            clear h6 h7 hc hg hok6 hrun6
            by_cases hqb:qb=fb
            · subst hqb
              have hne2:(binOp .neq 172 (.pointer (some ⟨qb,0,none⟩)) (.pointer (some ⟨qb,0,none⟩))).run Tryz.prog w6=.ok (.bool false) w6:=by rw [hne];simp
              clear hne
              refine hKmac.go fun hHeld=>?_
              clear hKmac Kmac
              try refine lyH ?_
              refine wpAnyH_done (by kernel_rfl) ?_ _
              go_wp2
              go_roundg gj
              case measure=>omega
              case rel=>exact ⟨HT7.out,by omega⟩
            · have hne2:(binOp .neq 172 (.pointer (some ⟨qb,0,none⟩)) (.pointer (some ⟨fb,0,none⟩))).run Tryz.prog w6=.ok (.bool true) w6:=by rw [hne];simp [hqb]
              clear hne
              refine hKmac.go fun hHeld=>?_
              clear hKmac Kmac
              try refine lyH ?_
              refine wpAnyH_done (by kernel_rfl) ?_ _
              go_wp2
              go_roundg gj
              case measure=>omega
              case rel=>exact .inl HO7.out
       case Wd2 =>
        go_simp
        refine hKmac.go fun hHeld=>?_
        clear hKmac Kmac
        try refine lyH ?_
        refine rdH 11 fun Kmac hKmac=>?_
        go_simp
        refine hKmac.go fun hHeld=>?_
        clear hKmac Kmac
        try refine lyH ?_
        refine tkL 12 ?_
        refine rdH 14 fun Kmac hKmac=>?_
        go_simp
        refine hKmac.go fun hHeld=>?_
        clear hKmac Kmac
        try refine lyH ?_
        refine wpAnyH_done (by kernel_rfl) ?_ _
        refine NoPanic.normal ?_
        go_wp2_with fail
        obtain ⟨W4,hW4⟩:∃ W4,W4=w3.setCell ⟨fb,10,none⟩ (.int .i64 ((f.pc:Int)+1)):=⟨_,rfl⟩
        rw [← hW4]
        have h4:Sg NoD w0 m0 K0 rb W4 m K fu ((fb,mk)::bs) ({ f with pc:=f.pc+1 }::fs):=by
         refine H3.out.top h0 (f':={ f with pc:=f.pc+1 }) ?_ ?_ rfl rfl
         · rw [hW4];exact (Chg.refl _ (fun k=>k=fb)).setCell _ _ (fun _=>rfl)
         · rw [hW4];exact H3.out.frs.1.raw.goto (f.pc+1)
        have hz4:w3.heap.size=W4.heap.size:=by rw [hW4];simp [World.setCell]
        obtain ⟨W5,hW5⟩:∃ W5,W5=W4.alloc (.cells (wcs x.1 pl) 146):=⟨_,rfl⟩
        have B:=(h4.look (Df:=fun k=>k=fb) (fun k e=>by rw [e];have:=h4.lo fb (by simp);exact ⟨this.1,this.2.1,this.2.2,h4.frs.1.raw.cel⟩)).box x.1 pl hW5
        unfold wcs at hW5
        rw [← hW5,hz4]
        obtain ⟨zb,hzb⟩:∃ zb,zb=W4.heap.size:=⟨_,rfl⟩
        have hat:=B.blk
        rw [← hzb] at hat
        rw [← hzb]
        obtain ⟨kd,hkd⟩:∃ kd,kd=kindOf x.1.k:=⟨_,rfl⟩
        have b0:W5.cell? ⟨zb,0,none⟩=some (.int .i64 (kd:Nat)):=by rw [hkd];simp only [World.cell?,hat];rfl
        have b1:W5.cell? ⟨zb,1,none⟩=some (.int .i64 x.1.n):=by simp only [World.cell?,hat];rfl
        have b2:W5.cell? ⟨zb,2,none⟩=some (.string (ofL x.1.a)):=by simp only [World.cell?,hat];rfl
        have b3:W5.cell? ⟨zb,3,none⟩=some (.string (ofL x.1.sel)):=by simp only [World.cell?,hat];rfl
        have b4:W5.cell? ⟨zb,4,none⟩=some (.string (ofL x.1.b)):=by simp only [World.cell?,hat];rfl
        have b5:W5.cell? ⟨zb,5,none⟩=some (.pointer pl):=by simp only [World.cell?,hat];rfl
        have bd:W5.cell? ⟨rb,1+kd,none⟩=some (.func (.func (doF kd)) #[] #[]):=by rw [hkd];exact B.sg.run.cd _ hkr.1 hkr.2
        have hdo:=do_any (B.sg.below (Below.refl _ _).drew.drew) h0 x pl HX.out.1.2.1.1 hfs h32 HX.out.2.2.2.2.1 HPL.out
        have hent:=do_ent kd (by rw [hkd];exact hkr.1) (by rw [hkd];exact hkr.2) #[.pointer (some ⟨rb,0,none⟩),wval x.1 pl] W5.drew.drew
        rw [← hkd] at hdo
        rw [← hkd] at hkr
        obtain ⟨hk1,hk2⟩:=hkr
        have hl5:=(B.sg.lo rb (by simp)).2.1
        unfold wval wcs at hdo hent
        rw [← hkd] at hdo hent ⊢
        have hk3:(kd:Int) < 23:=by omega
        clear B h4 hW4 hW5 hz4 hat hzb hkd d0 dp dm g0 g1 g2 g3 g4 g5 hgl l13 l23 l33 H3 uf
        refine wp_region_held_drew (S:=(fun _=>True)) (by kernel_rfl) (by go_keep) (fun hHeld=>?_)
        refine tkH 0 ?_
        refine tkH 1 ?_
        refine tkH 3 ?_
        refine tkH 4 ?_
        refine tkL 7 ?_
        refine wpAnyH_ready (rs:=[2,8]) (by kernel_rfl) (by simp) ?_
        refine (AllReadyH.cons (o:=_) rfl (fun Kmac hKmac=>?Wx1) (AllReadyH.cons (o:=_) rfl (fun Kmac hKmac=>?Wx2) AllReadyH.nil))
        case' Wx1 =>
         go_simp
         refine hKmac.go fun hHeld=>?_
         clear hKmac Kmac
         try refine lyH ?_
         refine tkL 5 ?_
         refine wpAnyH_ready (rs:=[6,8]) (by kernel_rfl) (by simp) ?_
         refine (AllReadyH.cons (o:=_) rfl (fun Kmac hKmac=>?Wy1) (AllReadyH.cons (o:=_) rfl (fun Kmac hKmac=>?Wy2) AllReadyH.nil))
         case' Wy1 =>
          go_simp
          refine hKmac.go fun hHeld=>?_
          clear hKmac Kmac
          try refine lyH ?_
          refine rdH 8 fun Kmac hKmac=>?_
          go_simp
          refine hKmac.go fun hHeld=>?_
          clear hKmac Kmac
          try refine lyH ?_
          refine ?ly
         case' Wy2 =>
          go_simp
          refine hKmac.go fun hHeld=>?_
          clear hKmac Kmac
          try refine lyH ?_
          refine rdH 6 fun Kmac hKmac=>?_
          go_simp
          refine hKmac.go fun hHeld=>?_
          clear hKmac Kmac
          try refine lyH ?_
          refine ?ly
        case' Wx2 =>
         go_simp
         refine hKmac.go fun hHeld=>?_
         clear hKmac Kmac
         try refine lyH ?_
         refine rdH 2 fun Kmac hKmac=>?_
         go_simp
         refine hKmac.go fun hHeld=>?_
         clear hKmac Kmac
         try refine lyH ?_
         refine tkL 5 ?_
         refine rdH 6 fun Kmac hKmac=>?_
         go_simp
         refine hKmac.go fun hHeld=>?_
         clear hKmac Kmac
         try refine lyH ?_
         refine ?lx
        all_goals
         refine rdH 9 fun Kmac hKmac=>?_
         go_simp
         refine hdo.mono ?_
         intro e w6 hwp
         clear hdo hent b0 b1 b2 b3 b4 b5 bd hk1 hk2 hk3 hl5 HPL
         cases hg:wordM m fu x.1 { f with pc:=f.pc+1 } fs with
         | stop m' n' =>
          rw [hg] at hwp
          obtain ⟨rfl,K',hst'⟩:=hwp
          have hR:=HX.out.2.2.1
          rw [hg,run_stop] at hR
          subst hR
          exact ⟨rfl,rfl,K',hst'⟩
         | told m' v =>
          rw [hg] at hwp
          obtain ⟨rfl,hq⟩:=hwp
          have HP:Hid _:=hq
          obtain ⟨K',hst',hce,hnt,-,-⟩:=hq
          have hl6:=hce.lt
          have HG:Hid _:=hg
          clear hst' hce hg
          refine hKmac.go fun hHeld=>?_
          clear hKmac Kmac
          try refine lyH ?_
          refine wpAnyH_done (by kernel_rfl) ?_ _
          have hnn:=fnil_neq (w:=w6) ⟨fb,0,none⟩
          go_wp2
          go_roundg gj
          case measure=>omega
          case rel =>
           have h1:=HX.out.2.2.1
           rw [HG.out,run_told] at h1
           exact .inr ⟨m',v,h1.symm,rfl,HP.out⟩
         | on m' fuel' fs' =>
          rw [hg] at hwp
          obtain ⟨rfl,K',bs',h6⟩:=hwp
          have hc:=(h6.dead fb rfl).2.2.2
          have hY:=HX.out
          rw [hg] at hY
          obtain ⟨-,hok6,hrun6,hme6,-,hsz6⟩:=hY
          obtain ⟨hfe,hle6⟩:=hsz6
          cases fs' with
          | nil=>exact hok6.2.1.elim
          | cons g gs =>
           cases bs' with
           | nil=>exact absurd h6.len (by simp)
           | cons q bs' =>
            obtain ⟨qb,qk⟩:=q
            have ct6:w6.cell? ⟨rb,24,none⟩=some (.pointer (some ⟨qb,0,none⟩)):=h6.run.ct
            have hl6:=h6.run.cel.lt
            have hne:=fr_neq h6.frs.1.raw.cel hc
            have h7:=h6.look (Df:=NoD) (fun k e=>(e:False).elim)
            have HT7:Hid (FTop w0 m0 K0 rb R qb gj w6):=⟨m',K',fuel',qk,bs',g,gs,h7,hok6,by omega,by simp only [List.length_cons] at hle6 ⊢;omega,hrun6⟩
            have HO7:Hid (FOn w0 m0 K0 rb R gj w6):=⟨m',K',fuel',_,_,h7,hok6,by omega,by simp only [List.length_cons] at hle6 ⊢;omega,hrun6⟩
            clear h6 h7 hc hg hok6 hrun6
            by_cases hqb:qb=fb
            · subst hqb
              have hne2:(binOp .neq 172 (.pointer (some ⟨qb,0,none⟩)) (.pointer (some ⟨qb,0,none⟩))).run Tryz.prog w6=.ok (.bool false) w6:=by rw [hne];simp
              clear hne
              refine hKmac.go fun hHeld=>?_
              clear hKmac Kmac
              try refine lyH ?_
              refine wpAnyH_done (by kernel_rfl) ?_ _
              go_wp2
              go_roundg gj
              case measure=>omega
              case rel=>exact ⟨HT7.out,by omega⟩
            · have hne2:(binOp .neq 172 (.pointer (some ⟨qb,0,none⟩)) (.pointer (some ⟨fb,0,none⟩))).run Tryz.prog w6=.ok (.bool true) w6:=by rw [hne];simp [hqb]
              clear hne
              refine hKmac.go fun hHeld=>?_
              clear hKmac Kmac
              try refine lyH ?_
              refine wpAnyH_done (by kernel_rfl) ?_ _
              go_wp2
              go_roundg gj
              case measure=>omega
              case rel=>exact .inl HO7.out
  · have ct:wr.cell? ⟨rb,24,none⟩=some (.pointer none):=by obtain ⟨_,_,_,_,h,_⟩:=hp;exact h
    have hrl:rb < wr.heap.size:=by obtain ⟨_,_,_,h,_⟩:=hp;exact h.lt
    obtain ⟨_,hp⟩:=hp
    have HP:Hid _:=hp
    subst hR
    clear hp
    go_wp2
    go_end0
    exact ⟨rfl,HP.out⟩
end Go.Proofs.YtkghmgoefiepeaaGreatDoor.reads
