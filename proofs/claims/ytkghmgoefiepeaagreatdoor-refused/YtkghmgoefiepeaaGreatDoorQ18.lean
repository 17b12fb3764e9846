import Derived.Laws.CopyRow
import Derived.Test.YtkghmgoefiepeaaGreatDoorQ0
import Derived.Test.YtkghmgoefiepeaaGreatDoorQ17
set_option linter.unusedSimpArgs false
set_option linter.unusedVariables false
set_option maxHeartbeats 4000000
set_option maxRecDepth 100000
namespace Go.Proofs.YtkghmgoefiepeaaGreatDoor.reads
open Go.ChangeShapes Go.WideShapes Go.ChangeAt Go.RowKit Kn Go.Proofs.YtkghmgoefiepeaaGreatDoor.img
theorem rcells_len (rs:List Rw4):(rcells rs).length=rs.length*4:=by
 induction rs with
 | nil=>rfl
 | cons r rs ih=>simp [rcells,Rw4.cells] at ih ⊢;omega
theorem rcells_get:∀ (rs:List Rw4) (i:Nat) (r:Rw4) (j:Nat),rs[i]?=some r→j < 4→(rcells rs)[i*4+j]?=r.cells[j]?
 | [],i,r,j,h,_=>by simp at h
 | y::l,0,r,j,h,hj=>by
  simp at h;subst h
  rw [Nat.zero_mul,Nat.zero_add]
  show (y.cells++rcells l)[j]?=_
  exact List.getElem?_append_left (by simpa [Rw4.cells] using hj)
 | y::l,i+1,r,j,h,hj=>by
  have ih:=rcells_get l i r j (by simpa using h) hj
  show (y.cells++rcells l)[(i+1)*4+j]?=_
  rw [List.getElem?_append_right (by simp [Rw4.cells];omega)]
  rw [show (i+1)*4+j - y.cells.length=i*4+j from by simp [Rw4.cells];omega]
  exact ih
structure RowsAt (w:World) (q:Nat) (rs:List Rw4):Prop where
 cel:Cel w q
 c0:∀ i r,rs[i]?=some r→w.cell? ⟨q,i*4,none⟩=some (.pointer r.fr)
 c1:∀ i r,rs[i]?=some r→w.cell? ⟨q,i*4+1,none⟩=some (.string r.sel)
 c2:∀ i r,rs[i]?=some r→w.cell? ⟨q,i*4+2,none⟩=some (.pointer r.hm)
 c3:∀ i r,rs[i]?=some r→w.cell? ⟨q,i*4+3,none⟩=some (.pointer r.mt)
variable {w : World}
theorem Mm.Ok.rows {q cap:Nat}{rs:List Rw4} (h:(Mm.many q cap rs).Ok w):RowsAt w q rs:=by
 have hc:=fun k v=>World.ownsRow.cells h (g:=q) rfl k v
 have key:∀ i r j v,rs[i]?=some r→j < 4→r.cells[j]?=some v→w.cell? ⟨q,i*4+j,none⟩=some v:=by
  intro i r j v hr hj hv
  have:=hc (i*4+j) v (by rw [rcells_get rs i r j hr hj];exact hv)
  have hadd:(⟨q,0,none⟩:Addr).add (i*4+j)=⟨q,i*4+j,none⟩:=by unfold Addr.add;split <;> simp_all
  rw [hadd] at this
  exact this
 refine ⟨?_,fun i r hr=>key i r 0 _ hr (by omega) rfl,fun i r hr=>key i r 1 _ hr (by omega) rfl,fun i r hr=>key i r 2 _ hr (by omega) rfl,fun i r hr=>key i r 3 _ hr (by omega) rfl⟩
 rcases h.2 with ⟨h2,_⟩ | ⟨g,cap',cur,h2,hb,hg,_⟩
 · cases h2
 · injection h2 with h2 _ _
   injection h2 with h2
   injection h2 with h2 _ _
   subst h2
   exact ⟨_,_,hg⟩
variable {w' : World}
theorem RowsAt.same {q:Nat}{rs:List Rw4} (h:RowsAt w q rs) (e:w'.heap[q]?=w.heap[q]?):RowsAt w' q rs:=by
 have hc:∀ o,w'.cell? ⟨q,o,none⟩=w.cell? ⟨q,o,none⟩:=fun o=>World.cell?_of_block e
 exact ⟨h.cel.same e,fun i r hr=>(hc _).trans (h.c0 i r hr),fun i r hr=>(hc _).trans (h.c1 i r hr),fun i r hr=>(hc _).trans (h.c2 i r hr),fun i r hr=>(hc _).trans (h.c3 i r hr)⟩
theorem Mm.Ok.same {q cap:Nat}{rs:List Rw4} (h:(Mm.many q cap rs).Ok w) (e:w'.heap[q]?=w.heap[q]?):(Mm.many q cap rs).Ok w':=by
 refine ⟨h.1,?_⟩
 rcases h.2 with ⟨h2,h3⟩ | ⟨g,cap',cur,h2,hb,hg,h4⟩
 · exact .inl ⟨h2,h3⟩
 · refine .inr ⟨g,cap',cur,h2,hb,?_,h4⟩
   injection h2 with h2 _ _
   injection h2 with h2
   injection h2 with h2 _ _
   subst h2
   exact e.trans hg
theorem recall_many (q cap d:Nat) (rs:List Rw4) (s:ByteArray) (w:World) (hn:rs.length≤6) (hok:(Mm.many q cap rs).Ok w) (hr:∀ r∈rs,RowIn w r) (hd:Cel w d) :
 Calls Tryz.prog 194 #[.agg #[.slice (some ⟨q,0,none⟩) rs.length cap],.agg #[.pointer (some ⟨d,0,none⟩),.string s]] w fun e w'=>∃ h m k,e=.returned (.tuple #[.agg #[.pointer h,.pointer m],.bool k]) ∧
  (k=true→∃ r∈rs,r.fr=some ⟨d,0,none⟩∧r.sel=s∧h=r.hm∧m=r.mt)∧Below w.heap.size w w':=by
 have HR:Hid (RowsAt w q rs∧(∀ r∈rs,RowIn w r)∧Cel w d):=⟨hok.rows,hr,hd⟩
 have hql:=hok.rows.cel.lt
 clear hok hr hd
 go_enter Tryz.func194,Tryz.ntmps194
 go_wp2
 go_loopw [11] (fun i wr=>∃ k:Nat,i=.int .i64 k∧k≤rs.length∧wr.heap[w.heap.size+1]?=some (.cells #[.pointer (some ⟨d,0,none⟩),.string s] 59)∧wr.heap[w.heap.size+1+1]?=some (.cells #[.pointer none,.pointer none] 62)∧Below w.heap.size w wr) (fun i _=>rs.length - (intOf i).toNat)
 case atStart =>
  refine ⟨0,rfl,by omega,?_,?_,below3 _ _ _ _⟩
  · have:=(MapKept.heap_alloc (w.alloc (.cells #[.slice (some ⟨q,0,none⟩) rs.length cap] 262)) (.cells #[.pointer (some ⟨d,0,none⟩),.string s] 59)).1
    rw [World.size_alloc] at this
    exact (Below.heap_alloc _ _ _ (by simp)).trans this
  · have:=(MapKept.heap_alloc ((w.alloc (.cells #[.slice (some ⟨q,0,none⟩) rs.length cap] 262)).alloc (.cells #[.pointer (some ⟨d,0,none⟩),.string s] 59)) (.cells #[.pointer none,.pointer none] 62)).1
    rw [World.size_alloc,World.size_alloc] at this
    exact this
 case round =>
  obtain ⟨k,rfl,hk,hy,hz,hb⟩:=hrel
  have HY:Hid (wr.heap[w.heap.size+1]?=some (.cells #[.pointer (some ⟨d,0,none⟩),.string s] 59)∧wr.heap[w.heap.size+1+1]?=some (.cells #[.pointer none,.pointer none] 62)∧Below w.heap.size w wr):=⟨hy,hz,hb⟩
  have hzl:w.heap.size+1+1 < wr.heap.size:=(Array.getElem?_eq_some_iff.1 hz).1
  have hyl:w.heap.size+1 < wr.heap.size:=by omega
  have y0:wr.cell? ⟨w.heap.size+1,0,none⟩=some (.pointer (some ⟨d,0,none⟩)):=by simp only [World.cell?,hy];rfl
  have y1:wr.cell? ⟨w.heap.size+1,1,none⟩=some (.string s):=by simp only [World.cell?,hy];rfl
  have z0:wr.cell? ⟨w.heap.size+1+1,0,none⟩=some (.pointer none):=by simp only [World.cell?,hz];rfl
  have z1:wr.cell? ⟨w.heap.size+1+1,1,none⟩=some (.pointer none):=by simp only [World.cell?,hz];rfl
  have zf:∀ o,wr.frozen? ⟨w.heap.size+1+1,o,none⟩=false:=fun o=>Cel.free ⟨_,_,hz⟩ o
  by_cases hkn:k < rs.length
  · obtain ⟨r,hrk⟩:∃ r,rs[k]?=some r:=⟨_,List.getElem?_eq_getElem hkn⟩
    have hrm:r∈rs:=List.mem_of_getElem? hrk
    obtain ⟨hrows,hin,hd⟩:=HR.out
    have hrw:=hrows.same (hb.block q hql)
    obtain ⟨c,hrc,hcc⟩:=hin r hrm
    have c0:=hrw.c0 k r hrk
    have c1:=hrw.c1 k r hrk
    have c2:=hrw.c2 k r hrk
    have c3:=hrw.c3 k r hrk
    rw [hrc] at c0
    have hqr:=hrw.cel.lt
    have HM:Hid (r∈rs∧r.fr=cptr c):=⟨hrm,hrc⟩
    have hcW:∀ b,c=some b→Cel (wr.alloc (.cells #[.pointer (cptr c),.string r.sel,.pointer r.hm,.pointer r.mt] 64)) b:=fun b h=>((hcc b h).same (hb.block b (hcc b h).lt)).alloc _
    have heq:=eq_cases _ c d r.sel s hcW ((hd.same (hb.block d hd.lt)).alloc (.cells #[.pointer (cptr c),.string r.sel,.pointer r.hm,.pointer r.mt] 64))
    clear hrows hin hd hrw hcc hy hz hb hrm hrc hcW hrk
    have h6:(rs.length:Int)≤6:=by omega
    rcases heq with ⟨h1,h2⟩ | ⟨h1,h3,h2⟩ | ⟨h1,h3,h2⟩
    · clear h2
      go_wp2
      go_roundw
      case rel=>exact ⟨k+1,by go_num,by omega,(Below.heap_alloc _ _ _ (by omega)).trans HY.out.1,(Below.heap_alloc _ _ _ hzl).trans HY.out.2.1,HY.out.2.2.alloc HY.out.2.2.size _⟩
      case measure=>simp [intOf] <;> omega
    · clear h2
      go_wp2
      go_roundw
      case rel=>exact ⟨k+1,by go_num,by omega,(Below.heap_alloc _ _ _ (by omega)).trans HY.out.1,(Below.heap_alloc _ _ _ hzl).trans HY.out.2.1,HY.out.2.2.alloc HY.out.2.2.size _⟩
      case measure=>simp [intOf] <;> omega
    · have HH:Hid (hits c d r.sel s=true):=h2
      clear h2
      have t0:∀ o,(((wr.setCell ⟨w.heap.size+1+1,0,none⟩ (.pointer r.hm)).setCell ⟨w.heap.size+1+1,1,none⟩ (.pointer r.mt)).alloc o).cell? ⟨w.heap.size+1+1,0,none⟩=some (.pointer r.hm):=fun o=>(World.cell?_of_block (a:=⟨w.heap.size+1+1,0,none⟩) (Below.heap_alloc _ o _ (by simp [World.setCell];omega))).trans ((cs_other (by intro e;injection e with e1 e2;omega)).trans (cs_same z0))
      have t1:∀ o,(((wr.setCell ⟨w.heap.size+1+1,0,none⟩ (.pointer r.hm)).setCell ⟨w.heap.size+1+1,1,none⟩ (.pointer r.mt)).alloc o).cell? ⟨w.heap.size+1+1,1,none⟩=some (.pointer r.mt):=fun o=>(World.cell?_of_block (a:=⟨w.heap.size+1+1,1,none⟩) (Below.heap_alloc _ o _ (by simp [World.setCell];omega))).trans (cs_same ((cs_other (by intro e;injection e with e1 e2;omega)).trans z1))
      have HT0:Hid _:=t0
      have HT1:Hid _:=t1
      clear t0 t1
      go_wp2
      refine bodyPost_ret (results_find (z:=w.heap.size+1+1) Tryz.results194 (.pointer r.hm) (.pointer r.mt) _ rfl rfl ?_ ?_) rfl ⟨r.hm,r.mt,true,rfl,fun _=>?_,?_⟩
      · exact HT0.out _
      · exact HT1.out _
      · have hh:=HH.out
        simp only [hits,Bool.and_eq_true,decide_eq_true_eq] at hh
        refine ⟨r,HM.out.1,by rw [HM.out.2,hh.1];rfl,hh.2,rfl,rfl⟩
      · exact (((HY.out.2.2.setCell (p:=⟨w.heap.size+1+1,0,none⟩) (by show w.heap.size≤w.heap.size+1+1;omega) _).setCell (p:=⟨w.heap.size+1+1,1,none⟩) (by show w.heap.size≤w.heap.size+1+1;omega) _)).alloc (by simp [World.setCell];omega) _
  · obtain rfl:k=rs.length:=by omega
    clear hy hz hb
    go_wp2
    refine bodyPost_ret (results_find (z:=w.heap.size+1+1) Tryz.results194 (.pointer none) (.pointer none) _ rfl rfl ?_ ?_) rfl ⟨none,none,false,rfl,fun h=>(by cases h),?_⟩
    · exact (cs_other (by intro e;injection e with e1 e2;omega)).trans (cs_same z0)
    · exact cs_same ((cs_other (by intro e;injection e with e1 e2;omega)).trans z1)
    · exact (HY.out.2.2.setCell (by show w.heap.size≤w.heap.size+1+1;omega) _).setCell (by show w.heap.size≤w.heap.size+1+1;omega) _
theorem info_row:(Tryz.prog.info? 64).map (fun i=>(i.zero,i.size,i.bytes))=some (some (.agg #[.pointer none,.string ⟨#[]⟩,.pointer none,.pointer none]),4,40):=by kernel_rfl
theorem rcells_one (r:Rw4):∀ u∈r.cells,u.oneCell'=true:=by
 intro u hu
 simp only [Rw4.cells,List.mem_cons,List.not_mem_nil,or_false] at hu
 rcases hu with rfl | rfl | rfl | rfl <;> rfl
theorem rcells_snoc (rs:List Rw4) (r:Rw4):rcells (rs++[r])=rcells rs++r.cells:=by simp [rcells]
theorem learn_many_only (q cap:Nat) (rs:List Rw4) (r:Rw4) (w:World):Calls Tryz.prog 193 #[.agg #[.slice (some ⟨q,0,none⟩) rs.length cap],r.val,.int .i64 rs.length] w fun e w'=>e=.returned Mm.only.val∧Below w.heap.size w w':=by
 unfold Rw4.val
 go_enter Tryz.func193,Tryz.ntmps193
 go_wp2
 go_ret
 exact ⟨rfl,below2 _ _ _⟩
theorem learn_many (q cap:Nat) (rs:List Rw4) (r:Rw4) (n:Int) (w:World) (hn:n≠rs.length) (h6:rs.length≤6) (hok:(Mm.many q cap rs).Ok w) :
 Calls Tryz.prog 193 #[.agg #[.slice (some ⟨q,0,none⟩) rs.length cap],r.val,.int .i64 n] w fun e w'=>∃ q' cap',e=.returned (Mm.many q' cap' (rs++[r])).val∧(Mm.many q' cap' (rs++[r])).Ok w'∧(q'=q∨w.heap.size≤q')∧Chg w w' (fun k=>k=q):=by
 obtain ⟨i0,hi,hz0,hz1,hz2⟩:=info_parts info_row
 have hne:((rs.length:Int)==n)=false:=by simp;omega
 have HOK:Hid ((Mm.many q cap rs).Ok w):=hok
 clear hok hn
 unfold Rw4.val
 go_enter Tryz.func193,Tryz.ntmps193
 have hnews:∀ j u,r.cells[j]?=some u→(((w.alloc (.cells #[.slice (some ⟨q,0,none⟩) rs.length cap] 262)).alloc (.cells #[.pointer r.fr,.string r.sel,.pointer r.hm,.pointer r.mt] 64)).alloc (.cells #[.pointer r.fr,.string r.sel,.pointer r.hm,.pointer r.mt] 64)).cell? ((⟨w.heap.size+1+1,0,none⟩:Addr).add j)=some u:=by
  have:=cells_laid ((w.alloc (.cells #[.slice (some ⟨q,0,none⟩) rs.length cap] 262)).alloc (.cells #[.pointer r.fr,.string r.sel,.pointer r.hm,.pointer r.mt] 64)) r.cells 64
  simp only [World.size_alloc] at this
  exact this
 have HNW:Hid _:=hnews
 clear hnews
 go_wp2_with (first
  | (at_builtin;refine wpList_append_own_at _ rfl _ _ 139 rfl 0 64 i0 (.agg #[.pointer none,.string ⟨#[]⟩,.pointer none,.pointer none]) 4 40 Tryz.underlying139 hi hz0 hz1 hz2 rfl (by decide) _ rs.length (rcells rs) rfl (((HOK.out.alloc _).alloc _).alloc _) ⟨w.heap.size+1+1,0,none⟩ 1 1 r.cells rfl rfl HNW.out (rcells_one _) (by unfold maxLen;omega) (by omega) (Nat.zero_le _) ?_)
  | go_in)
 intro v2 W5 hown2 hg5 _ hblk
 obtain ⟨g,cap',hv2⟩:∃ g cap',v2=.slice (some ⟨g,0,none⟩) (rs.length+1) cap':=by
  rcases hown2.2 with ⟨_,h0⟩ | ⟨g,cap',cur,h2,_⟩
  · omega
  · exact ⟨g,cap',h2⟩
 subst hv2
 have HW:Hid ((Mm.many g cap' (rs++[r])).Ok W5∧(g=q∨w.heap.size≤g)∧Chg w W5 (fun k=>k=q)):=by
  have hx1:(Mm.many g cap' (rs++[r])).Ok W5∧(g=q∨w.heap.size≤g)∧Chg w W5 (fun k=>k=q):=by
   refine ⟨?_,?_,?_⟩
   · show W5.ownsRow 0 64 4 (.slice (some ⟨g,0,none⟩) (rs++[r]).length cap') (rs++[r]).length (rcells (rs++[r]))
     rw [rcells_snoc,List.length_append]
     exact hown2
   · rcases hblk with h | h
     · left;simpa [Value.ownBlock] using h
     · right;simp [Value.ownBlock] at h;omega
   · exact (((Chg.refl w _).alloc _).alloc _).alloc _ |>.then (Chg.of_grown hg5) (fun k _ e=>e)
  exact hx1
 clear hown2 hg5 hblk
 go_wp2
 go_ret
 exact ⟨g,cap',by simp [Mm.val],HW.out.1,HW.out.2.1,HW.out.2.2⟩
structure RIn (w:World) (q cap n:Nat) (R:Nat→Rw4):Prop where
 blk:∃ cur,w.heap[q]?=some (.cells cur 64 (0,0))∧cur.size=cap*4
 le:n≤cap
 max:cap≤maxLen
 c0:∀ i,i < n→w.cell? ⟨q,i*4,none⟩=some (.pointer (R i).fr)
 c1:∀ i,i < n→w.cell? ⟨q,i*4+1,none⟩=some (.string (R i).sel)
 c2:∀ i,i < n→w.cell? ⟨q,i*4+2,none⟩=some (.pointer (R i).hm)
 c3:∀ i,i < n→w.cell? ⟨q,i*4+3,none⟩=some (.pointer (R i).mt)
theorem RIn.cel {q cap n:Nat}{R:Nat→Rw4} (h:RIn w q cap n R):Cel w q:=by obtain ⟨cur,h,_⟩:=h.blk;exact ⟨_,_,h⟩
theorem RIn.same {q cap n:Nat}{R:Nat→Rw4} (h:RIn w q cap n R) (e:w'.heap[q]?=w.heap[q]?):RIn w' q cap n R:=by
 have hc:∀ o,w'.cell? ⟨q,o,none⟩=w.cell? ⟨q,o,none⟩:=fun o=>World.cell?_of_block e
 obtain ⟨cur,h1,h2⟩:=h.blk
 exact ⟨⟨cur,e.trans h1,h2⟩,h.le,h.max,fun i hi=>(hc _).trans (h.c0 i hi),fun i hi=>(hc _).trans (h.c1 i hi),fun i hi=>(hc _).trans (h.c2 i hi),fun i hi=>(hc _).trans (h.c3 i hi)⟩
theorem RIn.of_ok {q cap:Nat}{rs:List Rw4} (h:(Mm.many q cap rs).Ok w):RIn w q cap rs.length (fun i=>rs[i]?.getD noRow):=by
 have hr:=h.rows
 rcases h.2 with ⟨h2,_⟩ | ⟨g,cap',cur,h2,hb,hg,hn,hmx,hsz,htk⟩
 · cases h2
 · injection h2 with h2 _ h4
   injection h2 with h2
   injection h2 with h2 _ _
   subst h2 h4
   refine ⟨⟨cur,hg,hsz⟩,hn,hmx,fun i hi=>?_,fun i hi=>?_,fun i hi=>?_,fun i hi=>?_⟩
   all_goals
    have hx:rs[i]?=some rs[i]:=List.getElem?_eq_getElem hi
    simp only [hx,Option.getD_some]
   · exact hr.c0 i _ hx
   · exact hr.c1 i _ hx
   · exact hr.c2 i _ hx
   · exact hr.c3 i _ hx
theorem RIn.ok {q cap n:Nat}{R:Nat→Rw4} (h:RIn w q cap n R) {rs:List Rw4} (hl:rs.length≤n) (hR:∀ i r,rs[i]?=some r→R i=r):(Mm.many q cap rs).Ok w:=by
 obtain ⟨cur,h1,h2⟩:=h.blk
 have hle:=h.le
 refine ⟨rcells_len rs,.inr ⟨q,cap,cur,rfl,Nat.zero_le _,h1,by omega,h.max,h2,?_⟩⟩
 have hcell:∀ o,w.cell? ⟨q,o,none⟩=cur[o]?:=fun o=>by simp only [World.cell?,h1];simp
 apply List.ext_getElem?
 intro o
 by_cases ho:o < rs.length*4
 · rw [List.getElem?_take_of_lt ho,Array.getElem?_toList]
   have hi:o / 4 < rs.length:=by omega
   have hx:rs[o / 4]?=some rs[o / 4]:=List.getElem?_eq_getElem hi
   have hg:=rcells_get rs (o / 4) _ (o % 4) hx (Nat.mod_lt _ (by omega))
   rw [show o / 4*4+o % 4=o from by omega] at hg
   rw [hg,← hcell]
   have hRi:=hR _ _ hx
   have hm:o % 4=0∨o % 4=1∨o % 4=2∨o % 4=3:=by omega
   rcases hm with e | e | e | e
   · have:=h.c0 (o / 4) (by omega)
     rw [show o / 4*4=o from by omega,hRi] at this
     rw [e,this];rfl
   · have:=h.c1 (o / 4) (by omega)
     rw [show o / 4*4+1=o from by omega,hRi] at this
     rw [e,this];rfl
   · have:=h.c2 (o / 4) (by omega)
     rw [show o / 4*4+2=o from by omega,hRi] at this
     rw [e,this];rfl
   · have:=h.c3 (o / 4) (by omega)
     rw [show o / 4*4+3=o from by omega,hRi] at this
     rw [e,this];rfl
 · rw [List.getElem?_eq_none (by simp;omega),List.getElem?_eq_none (by rw [rcells_len];omega)]
theorem RIn.put {q cap n:Nat}{R:Nat→Rw4} (h:RIn w q cap n R) {i:Nat} (hi:i < n) (r:Rw4) :
 RIn ((((w.setCell ⟨q,i*4,none⟩ (.pointer r.fr)).setCell ⟨q,i*4+1,none⟩ (.string r.sel)).setCell ⟨q,i*4+2,none⟩ (.pointer r.hm)).setCell ⟨q,i*4+3,none⟩ (.pointer r.mt)) q cap n (fun j=>if j=i then r else R j):=by
 have ho:∀ (W:World) (v:Value) (o p:Nat),o≠p→(W.setCell ⟨q,p,none⟩ v).cell? ⟨q,o,none⟩=W.cell? ⟨q,o,none⟩:=fun W v o p hne=>cs_other (by intro e;injection e with e1 e2;omega)
 have hb:∀ (W:World) (p:Nat) (v:Value),(∃ cur,W.heap[q]?=some (.cells cur 64 (0,0))∧cur.size=cap*4)→∃ cur,(W.setCell ⟨q,p,none⟩ v).heap[q]?=some (.cells cur 64 (0,0))∧cur.size=cap*4:=by
  rintro W p v ⟨cur,h1,h2⟩
  exact ⟨cur.setIfInBounds p v,by simp only [World.setCell,Array.getElem?_modify,if_pos,h1];rfl,by simpa using h2⟩
 refine ⟨hb _ _ _ (hb _ _ _ (hb _ _ _ (hb _ _ _ h.blk))),h.le,h.max,fun j hj=>?_,fun j hj=>?_,fun j hj=>?_,fun j hj=>?_⟩
 · by_cases e:j=i
   · subst e
     rw [ho _ _ _ _ (by omega),ho _ _ _ _ (by omega),ho _ _ _ _ (by omega),cs_same (h.c0 j hj)]
     simp
   · rw [ho _ _ _ _ (by omega),ho _ _ _ _ (by omega),ho _ _ _ _ (by omega),ho _ _ _ _ (by omega),h.c0 j hj]
     simp [e]
 · by_cases e:j=i
   · subst e
     rw [ho _ _ _ _ (by omega),ho _ _ _ _ (by omega),cs_same ((ho _ _ _ _ (by omega)).trans (h.c1 j hj))]
     simp
   · rw [ho _ _ _ _ (by omega),ho _ _ _ _ (by omega),ho _ _ _ _ (by omega),ho _ _ _ _ (by omega),h.c1 j hj]
     simp [e]
 · by_cases e:j=i
   · subst e
     rw [ho _ _ _ _ (by omega),cs_same (((ho _ _ _ _ (by omega)).trans (ho _ _ _ _ (by omega))).trans (h.c2 j hj))]
     simp
   · rw [ho _ _ _ _ (by omega),ho _ _ _ _ (by omega),ho _ _ _ _ (by omega),ho _ _ _ _ (by omega),h.c2 j hj]
     simp [e]
 · by_cases e:j=i
   · subst e
     rw [cs_same ((((ho _ _ _ _ (by omega)).trans (ho _ _ _ _ (by omega))).trans (ho _ _ _ _ (by omega))).trans (h.c3 j hj))]
     simp
   · rw [ho _ _ _ _ (by omega),ho _ _ _ _ (by omega),ho _ _ _ _ (by omega),ho _ _ _ _ (by omega),h.c3 j hj]
     simp [e]
theorem clear_rows (w:World) (q cap n i:Nat) (R:Nat→Rw4) (ty:TypeId) (h:RIn w q cap n R) (hi:i < n) :
 ∃ w',(Builtin.clear_ #[139] ty #[.slice (some ⟨q,i*4,none⟩) (n - i) (cap - i)]).run Tryz.prog w=.ok (.tuple #[]) w'∧RIn w' q cap i R∧w.grownBy w' (some q):=by
 obtain ⟨cur,h1,h2⟩:=h.blk
 have hle:=h.le
 obtain ⟨m,hm⟩:∃ m,n - i=m+1:=⟨n - i - 1,by omega⟩
 have hzl:(Builtin.zeroCells #[Value.pointer none,.string ⟨#[]⟩,.pointer none,.pointer none] (n - i)).toList.length=(n - i)*4:=by simp [Builtin.zeroCells]
 have hst:=run_storeCells_at (P:=Tryz.prog) q (i*4) 64 (Builtin.zeroCells #[Value.pointer none,.string ⟨#[]⟩,.pointer none,.pointer none] (n - i)).toList 0 cur w h1 (by rw [hzl];omega) (by
  intro v hv
  simp only [Builtin.zeroCells,Array.toList_map,List.mem_map] at hv
  obtain ⟨k,_,rfl⟩:=hv
  have hk:k % 4=0∨k % 4=1∨k % 4=2∨k % 4=3:=by omega
  show (#[Value.pointer none,.string ⟨#[]⟩,.pointer none,.pointer none][k % 4]!).oneCell'=true
  rcases hk with e | e | e | e <;> rw [e] <;> rfl)
 obtain ⟨zs,hzs⟩:∃ zs,(Builtin.zeroCells #[Value.pointer none,.string ⟨#[]⟩,.pointer none,.pointer none] (n - i)).toList=zs:=⟨_,rfl⟩
 rw [hzs] at hst hzl
 rw [Nat.add_zero,hzl] at hst
 have hlen:(cur.toList.take (i*4)++zs++cur.toList.drop (i*4+(n - i)*4)).toArray.size=cap*4:=by simp [hzl];omega
 have hheap:=setRow_heap w q cur (cur.toList.take (i*4)++zs++cur.toList.drop (i*4+(n - i)*4)).toArray 64 (0,0) h1
 have hget:∀ o,o < i*4→(cur.toList.take (i*4)++zs++cur.toList.drop (i*4+(n - i)*4)).toArray[o]?=cur[o]?:=fun o ho=>by
  simp only [List.getElem?_toArray]
  rw [List.append_assoc,List.getElem?_append_left (by simp;omega),List.getElem?_take_of_lt ho,Array.getElem?_toList]
 have hcell:∀ o,o < i*4→(w.setRow q (cur.toList.take (i*4)++zs++cur.toList.drop (i*4+(n - i)*4)).toArray).cell? ⟨q,o,none⟩=w.cell? ⟨q,o,none⟩:=fun o ho=>by
  simp only [World.cell?,hheap,h1]
  simpa using hget o ho
 refine ⟨w.setRow q (cur.toList.take (i*4)++zs++cur.toList.drop (i*4+(n - i)*4)).toArray,?_,⟨⟨_,hheap,hlen⟩,by omega,h.max,fun j hj=>?_,fun j hj=>?_,fun j hj=>?_,fun j hj=>?_⟩,⟨rfl,rfl,rfl,by simp [World.setRow],fun k _ hk=>setRow_other _ _ _ _ (fun e=>hk (by rw [e]))⟩⟩
 · have hv:(zeroValue 64).run Tryz.prog w=.ok (.agg #[Value.pointer none,.string ⟨#[]⟩,.pointer none,.pointer none]) w:=Tryz.zeroValue64 w
   rw [hm] at hst hzs ⊢
   simp [Builtin.clear_,run_underlying Tryz.underlying139,hv,Value.cells,hzs,hst]
 · rw [hcell _ (by omega)];exact h.c0 j (by omega)
 · rw [hcell _ (by omega)];exact h.c1 j (by omega)
 · rw [hcell _ (by omega)];exact h.c2 j (by omega)
 · rw [hcell _ (by omega)];exact h.c3 j (by omega)
theorem index_rows (q cap n f:Nat) (cp:Array Value) (φ:Rw4→Bool) (I:World→Prop) (Q:Rw4→Prop) (R:Nat→Rw4) (w:World) (h:RIn w q cap n R) (h6:n≤6) (hf:Leans f cp φ I Q) (hQ:∀ i,i < n→Q (R i)) (hI:∀ W,Chg w W (fun _=>False)→I W) :
 Calls Tryz.prog 196 #[.slice (some ⟨q,0,none⟩) n cap,.func (.func f) #[] cp] w fun e w'=>∃ r:Int,e=.returned (.int .i64 r)∧Below w.heap.size w w' ∧
  ((r=-1∧∀ i,i < n→φ (R i)=false)∨∃ k:Nat,r=k∧k < n∧φ (R k)=true∧∀ i,i < k→φ (R i)=false):=by
 have HT:Hid _:=h
 have hql:=h.cel.lt
 clear h
 go_enter Tryz.func196,Tryz.ntmps196
 go_wp2
 go_loopw [8] (fun i wr=>∃ k:Nat,i=.int .i64 k∧k≤n∧(∀ i,i < k→φ (R i)=false)∧Below w.heap.size w wr) (fun i _=>n - (intOf i).toNat)
 case atStart=>exact ⟨0,rfl,by omega,fun i hi=>by omega,Below.refl _ _⟩
 case round =>
  obtain ⟨k,rfl,hk,hno,hb⟩:=hrel
  have HR:Hid ((∀ i,i < k→φ (R i)=false)∧Below w.heap.size w wr):=⟨hno,hb⟩
  clear hno
  by_cases hkn:k < n
  · have hrw:=HT.out.same (hb.block q hql)
    have c0:=hrw.c0 k hkn
    have c1:=hrw.c1 k hkn
    have c2:=hrw.c2 k hkn
    have c3:=hrw.c3 k hkn
    have hent:=hf.ent
    have hsay:=hf.says wr (R k) (hI _ (Chg.of_below hb _)) (hQ k hkn)
    unfold Rw4.val at hsay
    have h6i:(n:Int)≤6:=by omega
    clear hrw hb
    go_wp2_with fail
    refine hsay.mono ?_
    rintro e w2 ⟨rfl,hb2⟩
    have HB2:Hid (Below w.heap.size w w2):=HR.out.2.trans (hb2.mono HR.out.2.size)
    clear hb2 c0 c1 c2 c3 hsay hent
    cases hp:φ (R k) with
    | true =>
     have HP:Hid _:=hp
     clear hp
     go_wp2
     go_ret
     exact ⟨k,rfl,HB2.out,.inr ⟨k,rfl,hkn,HP.out,HR.out.1⟩⟩
    | false =>
     have HP:Hid _:=hp
     clear hp
     go_wp2
     go_roundw
     case rel =>
      refine ⟨k+1,by go_num,by omega,fun i hi=>?_,HB2.out⟩
      by_cases e:i=k
      · subst e;exact HP.out
      · exact HR.out.1 i (by omega)
     case measure=>simp [intOf] <;> omega
  · obtain rfl:k=n:=by omega
    clear hb
    go_wp2
    go_ret
    exact ⟨-1,rfl,HR.out.2,.inl ⟨rfl,HR.out.1⟩⟩
theorem take_filter (p:Rw4→Bool) (rs:List Rw4) (j:Nat) (r:Rw4) (h:rs[j]?=some r):(rs.take (j+1)).filter p=(rs.take j).filter p++(if p r=true then [r] else []):=by
 rw [List.take_add_one,h,List.filter_append]
 congr 1
 by_cases e:p r=true <;> simp [e]
theorem delete_rows (q cap f:Nat) (cp:Array Value) (φ:Rw4→Bool) (I:World→Prop) (Q:Rw4→Prop) (rs:List Rw4) (w:World) (h:(Mm.many q cap rs).Ok w) (h6:rs.length≤6) (hf:Leans f cp φ I Q) (hQ:∀ r∈rs,Q r) (hI:∀ W,Chg w W (fun k=>k=q)→I W) :
 Calls Tryz.prog 195 #[.slice (some ⟨q,0,none⟩) rs.length cap,.func (.func f) #[] cp] w fun e w'=>∃ rs',rs'=rs.filter (fun r=>!φ r)∧e=.returned (.slice (some ⟨q,0,none⟩) rs'.length cap)∧(Mm.many q cap rs').Ok w'∧Chg w w' (fun k=>k=q):=by
 have hR:=RIn.of_ok h
 have HT:Hid _:=hR
 have HOK:Hid ((Mm.many q cap rs).Ok w):=h
 have hcap:=hR.le
 have hcm:=hR.max
 have hget:∀ i,i < rs.length→rs[i]?.getD noRow∈rs:=fun i hi=>by rw [List.getElem?_eq_getElem hi];exact List.getElem_mem hi
 have HQ:Hid (∀ i,i < rs.length→Q (rs[i]?.getD noRow)):=by
  have hx1:∀ i,i < rs.length→Q (rs[i]?.getD noRow):=fun i hi=>hQ _ (hget i hi)
  exact hx1
 clear h hR hget hQ
 go_enter Tryz.func195,Tryz.ntmps195
 go_wp2_with fail
 refine (index_rows q cap rs.length f cp φ I Q _ w HT.out h6 hf HQ.out (fun W hW=>hI W (hW.mono (fun _ _ h=>h.elim)))).mono ?_
 rintro e w1 ⟨r,rfl,hb1,hres⟩
 rcases hres with ⟨rfl,hno⟩ | ⟨k0,rfl,hk0,hk1,hk2⟩
 · go_wp2
   go_ret
   have hfl:rs.filter (fun r=>!φ r)=rs:=List.filter_eq_self.2 (fun r hr=>by
    obtain ⟨i,hi,rfl⟩:=List.getElem_of_mem hr
    have:=hno i hi
    rw [List.getElem?_eq_getElem hi] at this
    simp at this
    simp [this])
   refine ⟨rs,hfl.symm,rfl,HOK.out.same (hb1.block q HT.out.cel.lt),Chg.of_below hb1 _⟩
 · have HK:Hid (φ (rs[k0]?.getD noRow)=true∧∀ i,i < k0→φ (rs[i]?.getD noRow)=false):=⟨hk1,hk2⟩
   have HB1:Hid _:=hb1
   have hql:=HT.out.cel.lt
   have hki:(k0:Int) < 6:=by omega
   have hne:((k0:Int)==-1)=false:=by simp
   clear hk1 hk2 hb1
   go_wp2
   go_loopw [5,6] (fun a b wr=>∃ (k j:Nat) (R:Nat→Rw4),a=.int .i64 k∧b=.int .i64 j∧k < j∧j≤rs.length∧k=((rs.take j).filter (fun r=>!φ r)).length∧RIn wr q cap rs.length R ∧
    (∀ t r,((rs.take j).filter (fun r=>!φ r))[t]?=some r→R t=r)∧(∀ t,j≤t→t < rs.length→R t=rs[t]?.getD noRow)∧Chg w wr (fun k=>k=q)) (fun _ b _=>rs.length - (intOf b).toNat)
   case atStart =>
    obtain ⟨h1,h2⟩:=HK.out
    have hx:rs[k0]?=some rs[k0]:=List.getElem?_eq_getElem hk0
    have hkeep:(rs.take k0).filter (fun r=>!φ r)=rs.take k0:=List.filter_eq_self.2 (fun r hr=>by
     obtain ⟨i,hi,rfl⟩:=List.getElem_of_mem hr
     have hi':i < k0:=by simp at hi;omega
     have:=h2 i hi'
     rw [List.getElem?_eq_getElem (by omega)] at this
     simp at this
     simp [this])
    have hP:(rs.take (k0+1)).filter (fun r=>!φ r)=rs.take k0:=by
     rw [take_filter _ rs k0 _ hx,hkeep]
     rw [hx] at h1
     simp at h1
     simp [h1]
    refine ⟨k0,k0+1,fun i=>rs[i]?.getD noRow,rfl,by go_num,by omega,by omega,by rw [hP];simp;omega,HT.out.same (HB1.out.block q hql),fun t r htr=>?_,fun t _ _=>rfl,Chg.of_below HB1.out _⟩
    rw [hP] at htr
    have ht:t < k0:=by have:=(List.getElem?_eq_some_iff.1 htr).1;simp at this;omega
    rw [List.getElem?_take_of_lt ht] at htr
    simp [htr]
   case round =>
    obtain ⟨k,j,R,rfl,rfl,hkj,hjn,hkl,hri,hR1,hR2,hch⟩:=hrel
    have HR:Hid (k=((rs.take j).filter (fun r=>!φ r)).length∧RIn wr q cap rs.length R ∧
     (∀ t r,((rs.take j).filter (fun r=>!φ r))[t]?=some r→R t=r)∧(∀ t,j≤t→t < rs.length→R t=rs[t]?.getD noRow)∧Chg w wr (fun k=>k=q)):=⟨hkl,hri,hR1,hR2,hch⟩
    have h6i:(rs.length:Int)≤6:=by omega
    have hkn:k < rs.length:=by omega
    by_cases hjl:j < rs.length
    · have c0:=hri.c0 j hjl
      have c1:=hri.c1 j hjl
      have c2:=hri.c2 j hjl
      have c3:=hri.c3 j hjl
      have hRj:R j=rs[j]?.getD noRow:=hR2 j (Nat.le_refl _) hjl
      have hx:rs[j]?=some rs[j]:=List.getElem?_eq_getElem hjl
      rw [hx] at hRj
      simp only [Option.getD_some] at hRj
      have HX:Hid (rs[j]?=some (R j)):=by
       have hx1:rs[j]?=some (R j):=by rw [hRj];exact hx
       exact hx1
      have hqr:=hri.cel.lt
      have hent:=hf.ent
      have hsay:=hf.says (wr.alloc (.cells #[.pointer (R j).fr,.string (R j).sel,.pointer (R j).hm,.pointer (R j).mt] 64)) (R j) (hI _ (hch.alloc _)) (by rw [hRj];have:=HQ.out j hjl;rw [hx] at this;exact this)
      unfold Rw4.val at hsay
      clear hkl hri hR1 hR2 hch hRj hx
      go_wp2_with fail
      refine hsay.mono ?_
      rintro e w2 ⟨rfl,hb2⟩
      have hw2:w2.heap[q]?=wr.heap[q]?:=(hb2.block q (by simp;omega)).trans (Below.heap_alloc wr _ q hqr)
      have hzl:wr.heap.size < w2.heap.size:=by have:=hb2.size;simp at this;omega
      have hz:w2.heap[wr.heap.size]?=some (.cells #[.pointer (R j).fr,.string (R j).sel,.pointer (R j).hm,.pointer (R j).mt] 64):=(hb2.block _ (by simp)).trans (MapKept.heap_alloc wr _).1
      have HW:Hid (RIn w2 q cap rs.length R∧Chg w w2 (fun k=>k=q)):=⟨HR.out.2.1.same hw2,(HR.out.2.2.2.2.alloc _).trans (Chg.of_below hb2 _)⟩
      clear hb2 hw2 c0 c1 c2 c3 hsay hent
      cases hp:φ (R j) with
      | true =>
       have HP:Hid _:=hp
       clear hp hz
       go_wp2
       go_roundw
       case rel =>
        obtain ⟨hkl,hri,hR1,hR2,hch⟩:=HR.out
        have hf1:=take_filter (fun r=>!φ r) rs j (R j) HX.out
        rw [HP.out] at hf1
        simp at hf1
        exact ⟨k,j+1,R,rfl,by go_num,by omega,by omega,by rw [hf1];exact hkl,HW.out.1,fun t r htr=>hR1 t r (by rw [hf1] at htr;exact htr),fun t h1 h2=>hR2 t (by omega) h2,HW.out.2⟩
       case measure=>simp [intOf] <;> omega
      | false =>
       have HP:Hid _:=hp
       have z0:w2.cell? ⟨wr.heap.size,0,none⟩=some (.pointer (R j).fr):=by simp only [World.cell?,hz];rfl
       have z1:w2.cell? ⟨wr.heap.size,1,none⟩=some (.string (R j).sel):=by simp only [World.cell?,hz];rfl
       have z2:w2.cell? ⟨wr.heap.size,2,none⟩=some (.pointer (R j).hm):=by simp only [World.cell?,hz];rfl
       have z3:w2.cell? ⟨wr.heap.size,3,none⟩=some (.pointer (R j).mt):=by simp only [World.cell?,hz];rfl
       have k0':=HW.out.1.c0 k hkn
       have k1':=HW.out.1.c1 k hkn
       have k2':=HW.out.1.c2 k hkn
       have k3':=HW.out.1.c3 k hkn
       have kf:=fun o=>HW.out.1.cel.free o
       have hki2:(k:Int) < 6:=by omega
       clear hp hz
       go_wp2
       go_roundw
       case rel =>
        obtain ⟨hkl,hri,hR1,hR2,hch⟩:=HR.out
        have hf1:=take_filter (fun r=>!φ r) rs j (R j) HX.out
        rw [HP.out] at hf1
        simp at hf1
        refine ⟨k+1,j+1,_,by go_num,by go_num,by omega,by omega,by rw [hf1];simp;exact hkl,HW.out.1.put hkn (R j),fun t r htr=>?_,fun t h1 h2=>?_,(((HW.out.2.setCell _ _ (fun _=>rfl)).setCell _ _ (fun _=>rfl)).setCell _ _ (fun _=>rfl)).setCell _ _ (fun _=>rfl)⟩
        · rw [hf1] at htr
          by_cases e:t=k
          · subst e
            rw [List.getElem?_append_right (by omega),← hkl] at htr
            simp at htr
            simp [htr]
          · simp only [e,if_false]
            have ht:t < k:=by
             have:=(List.getElem?_eq_some_iff.1 htr).1
             simp at this
             omega
            rw [List.getElem?_append_left (by omega)] at htr
            exact hR1 t r htr
        · have:t≠k:=by omega
          simp only [this,if_false]
          exact hR2 t (by omega) h2
       case measure=>simp [intOf] <;> omega
    · obtain rfl:j=rs.length:=by omega
      obtain ⟨wc,hclr,hric,hgc⟩:=clear_rows wr q cap rs.length k R 0 hri hkn
      have hadd:(⟨q,0,none⟩:Addr).add (k*4)=⟨q,k*4,none⟩:=by unfold Addr.add;split <;> simp_all
      have hkc:(k:Int)≤(cap:Int):=by omega
      have HC:Hid (RIn wc q cap k R∧wr.grownBy wc (some q)):=⟨hric,hgc⟩
      clear hkl hri hR1 hR2 hch hric hgc
      go_wp2
      go_ret
      obtain ⟨hkl,hri,hR1,hR2,hch⟩:=HR.out
      rw [List.take_length] at hkl hR1
      exact ⟨_,rfl,by rw [← hkl];rfl,HC.out.1.ok (by omega) hR1,hch.then (Chg.of_grown HC.out.2) (fun k _ e=>e)⟩
theorem forget_many (q cap f:Nat) (cp:Array Value) (φ:Rw4→Bool) (I:World→Prop) (Q:Rw4→Prop) (rs:List Rw4) (w:World) (h:(Mm.many q cap rs).Ok w) (h6:rs.length≤6) (hf:Leans f cp φ I Q) (hQ:∀ r∈rs,Q r) (hI:∀ W,Chg w W (fun k=>k=q)→I W) :
 Calls Tryz.prog 192 #[.agg #[.slice (some ⟨q,0,none⟩) rs.length cap],.func (.func f) #[] cp] w fun e w'=>e=.returned (Mm.many q cap (rs.filter (fun r=>!φ r))).val∧(Mm.many q cap (rs.filter (fun r=>!φ r))).Ok w'∧Chg w w' (fun k=>k=q):=by
 obtain ⟨rs',hrs⟩:∃ rs',rs.filter (fun r=>!φ r)=rs':=⟨_,rfl⟩
 rw [hrs]
 have hql:=h.rows.cel.lt
 have hdel:=delete_rows q cap f cp φ I Q rs (w.alloc (.cells #[.slice (some ⟨q,0,none⟩) rs.length cap] 262)) (h.same (Below.heap_alloc w _ q hql)) h6 hf hQ (fun W hW=>hI W (((Chg.refl w _).alloc _).then hW (fun k _ e=>e)))
 rw [hrs] at hdel
 have HRS:Hid _:=hrs
 clear hrs h
 go_enter Tryz.func192,Tryz.ntmps192
 go_wp2_with fail
 refine hdel.mono ?_
 rintro e w1 ⟨rs2,hr2,rfl,hok,hch⟩
 subst hr2
 have HX:Hid ((Mm.many q cap rs2).Ok w1∧Chg w w1 (fun k=>k=q)):=⟨hok,((Chg.refl w _).alloc _).then hch (fun k _ e=>e)⟩
 clear hok hch
 go_wp2
 go_ret
 exact ⟨rfl,HX.out.1,HX.out.2⟩
end Go.Proofs.YtkghmgoefiepeaaGreatDoor.reads
