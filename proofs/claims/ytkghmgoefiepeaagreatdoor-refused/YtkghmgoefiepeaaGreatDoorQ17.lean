import Derived.Maps.AppendAt
import Derived.Test.YtkghmgoefiepeaaGreatDoorQ0
import Derived.Test.YtkghmgoefiepeaaGreatDoorQ16
set_option linter.unusedSimpArgs false
set_option linter.unusedVariables false
set_option maxHeartbeats 4000000
set_option maxRecDepth 100000
namespace Go.Proofs.YtkghmgoefiepeaaGreatDoor.reads
open Go.ChangeShapes Go.WideShapes Go.ChangeAt Go.RowKit Kn Go.Proofs.YtkghmgoefiepeaaGreatDoor.img
def cptr (c:Option Nat):Option Addr:=c.map (fun b=>⟨b,0,none⟩)
def RowIn (w:World) (r:Rw4):Prop:=∃ c,r.fr=cptr c∧∀ b,c=some b→Cel w b
theorem size_cls:(Tryz.prog.info? 101).map (·.size)=some 5:=by kernel_rfl
theorem eqin_ptr (w:World) (c:Option Nat) (d:Nat) (hc:∀ b,c=some b→Cel w b) (hd:Cel w d) :
 (Op.equalIn 9999 57 (.pointer (cptr c)) (.pointer (some ⟨d,0,none⟩))).run Tryz.prog w=.ok (decide (c=some d)) w:=by
 have hs:=size_cls
 cases hi:Tryz.prog.info? 101 with
 | none=>rw [hi] at hs;cases hs
 | some i =>
  rw [hi] at hs
  simp at hs
  cases c with
  | none =>
   have h0:∀ n:Nat,(Op.equalIn (n+1) 57 (.pointer none) (.pointer (some ⟨d,0,none⟩))).run Tryz.prog w=.ok false w:=fun n=>by simp [Op.equalIn,run_underlying Tryz.underlying57]
   rw [show cptr none=none from rfl,h0 9998]
   simp
  | some b =>
   have hsa:=run_sameAddr (P:=Tryz.prog) (hc b rfl) hd
   have h0:∀ n:Nat,(Op.equalIn (n+1) 57 (.pointer (some ⟨b,0,none⟩)) (.pointer (some ⟨d,0,none⟩))).run Tryz.prog w=.ok (decide (b=d)) w:=fun n=>by
    simp [Op.equalIn,run_underlying Tryz.underlying57,Go.sizeOf,typeInfo,hi,hs,hsa]
   rw [show cptr (some b)=some ⟨b,0,none⟩ from rfl,h0 9998]
   simp
def hits (c:Option Nat) (d:Nat) (t s:ByteArray):Bool:=decide (c=some d)&&decide (t=s)
theorem eq_cases (w:World) (c:Option Nat) (d:Nat) (t s:ByteArray) (hc:∀ b,c=some b→Cel w b) (hd:Cel w d) :
 ((Op.equalIn 9999 57 (.pointer (cptr c)) (.pointer (some ⟨d,0,none⟩))).run Tryz.prog w=.ok false w∧hits c d t s=false) ∨
 ((Op.equalIn 9999 57 (.pointer (cptr c)) (.pointer (some ⟨d,0,none⟩))).run Tryz.prog w=.ok true w∧¬ t.toList=s.toList∧hits c d t s=false) ∨
 ((Op.equalIn 9999 57 (.pointer (cptr c)) (.pointer (some ⟨d,0,none⟩))).run Tryz.prog w=.ok true w∧t.toList=s.toList∧hits c d t s=true):=by
 have h:=eqin_ptr w c d hc hd
 by_cases e1:c=some d
 · rw [show decide (c=some d)=true from by simp [e1]] at h
   by_cases e2:t=s
   · exact .inr (.inr ⟨h,by rw [e2],by simp [hits,e1,e2]⟩)
   · exact .inr (.inl ⟨h,fun e=>by have:=ba_apart e2;rw [beq_eq_false_iff_ne] at this;exact this e,by simp [hits,e1,e2]⟩)
 · rw [show decide (c=some d)=false from by simp [e1]] at h
   exact .inl ⟨h,by simp [hits,e1]⟩
inductive Mm where
 | no
 | one (r:Rw4)
 | many (q cap:Nat) (rs:List Rw4)
 | only
def Rw4.cells (r:Rw4):List Value:=[.pointer r.fr,.string r.sel,.pointer r.hm,.pointer r.mt]
def rcells (rs:List Rw4):List Value:=rs.flatMap (·.cells)
def Mm.val:Mm→Value
 | .no=>.iface 194 (.agg #[])
 | .one r=>.iface 259 r.val
 | .many q cap rs=>.iface 262 (.agg #[.slice (some ⟨q,0,none⟩) rs.length cap])
 | .only=>.iface 206 (.agg #[])
def Mm.rows:Mm→List Rw4
 | .one r=>[r]
 | .many _ _ rs=>rs
 | _=>[]
def Mm.Ok (w:World):Mm→Prop
 | .many q cap rs=>w.ownsRow 0 64 4 (.slice (some ⟨q,0,none⟩) rs.length cap) rs.length (rcells rs)
 | _=>True
variable {w : World}
theorem results_find {fn:Func}{p k:Tmp} (h:fn.results=#[.cell p 62,.tmp k]) {tmps:Array Value}{z:Nat} (v0 v1 v:Value) (hp:tmps.getD p undef=.pointer (some ⟨z,0,none⟩)) (hk:tmps.getD k undef=v) (z0:w.cell? ⟨z,0,none⟩=some v0) (z1:w.cell? ⟨z,1,none⟩=some v1) :
 (results fn tmps).run Tryz.prog w=.ok (.tuple #[.agg #[v0,v1],v]) w:=by
 have hp2:tmps[p]?.getD undef=.pointer (some ⟨z,0,none⟩):=by rw [← hp];simp
 have hk2:tmps[k]?.getD undef=v:=by rw [← hk];simp
 simp [results,h,hp2,hk2,go_sem,z0,z1]
theorem new_cell (w:World) (cs:Array Value) (t:TypeId) (z k:Nat) (hz:z=w.heap.size):(w.alloc (.cells cs t)).cell? ⟨z,k,none⟩=cs[k]?:=by
 subst hz
 simp only [World.cell?,(MapKept.heap_alloc w (.cells cs t)).1]
 simp
theorem below3 (w:World) (o1 o2 o3:Obj):Below w.heap.size w (((w.alloc o1).alloc o2).alloc o3):=(((Below.refl _ _).alloc (Nat.le_refl _) _).alloc (by simp) _).alloc (by simp;omega) _
theorem recall_no (c s:Value) (w:World):Calls Tryz.prog 184 #[.agg #[],.agg #[c,s]] w fun e w'=>e=.returned (.tuple #[.agg #[.pointer none,.pointer none],.bool false])∧Below w.heap.size w w':=by
 go_enter Tryz.func184,Tryz.ntmps184
 go_wp2
 refine bodyPost_ret (results_find Tryz.results184 _ _ _ rfl rfl (new_cell _ _ _ _ 0 (by simp)) (new_cell _ _ _ _ 1 (by simp))) rfl ⟨rfl,below3 _ _ _ _⟩
theorem recall_only (c s:Value) (w:World):Calls Tryz.prog 187 #[.agg #[],.agg #[c,s]] w fun e w'=>e=.returned (.tuple #[.agg #[.pointer none,.pointer none],.bool false])∧Below w.heap.size w w':=by
 go_enter Tryz.func187,Tryz.ntmps187
 go_wp2
 refine bodyPost_ret (results_find Tryz.results187 _ _ _ rfl rfl (new_cell _ _ _ _ 0 (by simp)) (new_cell _ _ _ _ 1 (by simp))) rfl ⟨rfl,below3 _ _ _ _⟩
theorem recall_one (r:Rw4) (c:Option Nat) (d:Nat) (s:ByteArray) (w:World) (hr:r.fr=cptr c) (hc:∀ b,c=some b→Cel w b) (hd:Cel w d) :
 Calls Tryz.prog 191 #[r.val,.agg #[.pointer (some ⟨d,0,none⟩),.string s]] w fun e w'=>e=.returned (.tuple #[.agg #[.pointer r.hm,.pointer r.mt],.bool (hits c d r.sel s)])∧Below w.heap.size w w':=by
 unfold Rw4.val
 rw [hr]
 go_enter Tryz.func191,Tryz.ntmps191
 go_wp2
 have hx:(((w.alloc (.cells #[.pointer (cptr c),.string r.sel,.pointer r.hm,.pointer r.mt] 259)).alloc (.cells #[.pointer (some ⟨d,0,none⟩),.string s] 59)).alloc (.cells #[.pointer none,.pointer none] 62)).heap[w.heap.size]?=some (.cells #[.pointer (cptr c),.string r.sel,.pointer r.hm,.pointer r.mt] 259) :=
  (Below.heap_alloc _ _ _ (by simp;omega)).trans ((Below.heap_alloc _ _ _ (by simp)).trans (MapKept.heap_alloc w _).1)
 have hy:(((w.alloc (.cells #[.pointer (cptr c),.string r.sel,.pointer r.hm,.pointer r.mt] 259)).alloc (.cells #[.pointer (some ⟨d,0,none⟩),.string s] 59)).alloc (.cells #[.pointer none,.pointer none] 62)).heap[w.heap.size+1]?=some (.cells #[.pointer (some ⟨d,0,none⟩),.string s] 59):=by
  have:=(MapKept.heap_alloc (w.alloc (.cells #[.pointer (cptr c),.string r.sel,.pointer r.hm,.pointer r.mt] 259)) (.cells #[.pointer (some ⟨d,0,none⟩),.string s] 59)).1
  rw [World.size_alloc] at this
  exact (Below.heap_alloc _ _ _ (by simp)).trans this
 have hz:(((w.alloc (.cells #[.pointer (cptr c),.string r.sel,.pointer r.hm,.pointer r.mt] 259)).alloc (.cells #[.pointer (some ⟨d,0,none⟩),.string s] 59)).alloc (.cells #[.pointer none,.pointer none] 62)).heap[w.heap.size+1+1]?=some (.cells #[.pointer none,.pointer none] 62):=by
  have:=(MapKept.heap_alloc ((w.alloc (.cells #[.pointer (cptr c),.string r.sel,.pointer r.hm,.pointer r.mt] 259)).alloc (.cells #[.pointer (some ⟨d,0,none⟩),.string s] 59)) (.cells #[.pointer none,.pointer none] 62)).1
  rw [World.size_alloc,World.size_alloc] at this
  exact this
 have hb:=below3 w (.cells #[.pointer (cptr c),.string r.sel,.pointer r.hm,.pointer r.mt] 259) (.cells #[.pointer (some ⟨d,0,none⟩),.string s] 59) (.cells #[.pointer none,.pointer none] 62)
 revert hx hy hz hb
 generalize ((w.alloc (.cells #[.pointer (cptr c),.string r.sel,.pointer r.hm,.pointer r.mt] 259)).alloc (.cells #[.pointer (some ⟨d,0,none⟩),.string s] 59)).alloc (.cells #[.pointer none,.pointer none] 62)=W0
 intro hx hy hz hb
 have hc0:∀ b,c=some b→Cel W0.drew b:=fun b hb'=>(hc b hb').same (hb.block b (hc b hb').lt)
 have hd0:Cel W0.drew d:=hd.same (hb.block d hd.lt)
 have heq:=eq_cases W0.drew c d r.sel s hc0 hd0
 have heqA:=eqin_ptr W0.drew c d hc0 hd0
 have heqB:=eqin_ptr ((W0.setCell ⟨w.heap.size+1+1,0,none⟩ (.pointer r.hm)).setCell ⟨w.heap.size+1+1,1,none⟩ (.pointer r.mt)).drew c d (fun b hb'=>(((hc0 b hb').setCell _ _).setCell _ _).same rfl) ((hd0.setCell _ _).setCell _ _ |>.same rfl)
 have x0:W0.cell? ⟨w.heap.size,0,none⟩=some (.pointer (cptr c)):=by simp only [World.cell?,hx];rfl
 have x1:W0.cell? ⟨w.heap.size,1,none⟩=some (.string r.sel):=by simp only [World.cell?,hx];rfl
 have x2:W0.cell? ⟨w.heap.size,2,none⟩=some (.pointer r.hm):=by simp only [World.cell?,hx];rfl
 have x3:W0.cell? ⟨w.heap.size,3,none⟩=some (.pointer r.mt):=by simp only [World.cell?,hx];rfl
 have y0:W0.cell? ⟨w.heap.size+1,0,none⟩=some (.pointer (some ⟨d,0,none⟩)):=by simp only [World.cell?,hy];rfl
 have y1:W0.cell? ⟨w.heap.size+1,1,none⟩=some (.string s):=by simp only [World.cell?,hy];rfl
 have z0:W0.cell? ⟨w.heap.size+1+1,0,none⟩=some (.pointer none):=by simp only [World.cell?,hz];rfl
 have z1:W0.cell? ⟨w.heap.size+1+1,1,none⟩=some (.pointer none):=by simp only [World.cell?,hz];rfl
 have zf:∀ o,W0.frozen? ⟨w.heap.size+1+1,o,none⟩=false:=fun o=>Cel.free ⟨_,_,hz⟩ o
 have hzl:w.heap.size+1+1 < W0.heap.size:=(Array.getElem?_eq_some_iff.1 hz).1
 clear hx hy hz hc hd
 have HB:Hid _:=hb
 clear hb
 have t0:((W0.setCell ⟨w.heap.size+1+1,0,none⟩ (.pointer r.hm)).setCell ⟨w.heap.size+1+1,1,none⟩ (.pointer r.mt)).cell? ⟨w.heap.size+1+1,0,none⟩=some (.pointer r.hm):=(cs_other (by intro e;injection e with e1 e2;omega)).trans (cs_same z0)
 have t1:((W0.setCell ⟨w.heap.size+1+1,0,none⟩ (.pointer r.hm)).setCell ⟨w.heap.size+1+1,1,none⟩ (.pointer r.mt)).cell? ⟨w.heap.size+1+1,1,none⟩=some (.pointer r.mt):=cs_same ((cs_other (by intro e;injection e with e1 e2;omega)).trans z1)
 clear hc0 hd0
 rcases heq with ⟨h1,h2⟩ | ⟨h1,h3,h2⟩ | ⟨h1,h3,h2⟩
 all_goals
  rw [h1] at heqA
  injection heqA with heqA
  rw [← heqA] at heqB
  clear heqA
  go_region
  all_goals
   go_wp2
   refine bodyPost_ret (results_find (z:=w.heap.size+1+1) Tryz.results191 (.pointer r.hm) (.pointer r.mt) _ rfl rfl ?_ ?_) rfl ⟨?_,?_⟩
   · exact t0
   · exact t1
   · first | rfl | (rw [h2];rfl)
   · exact (HB.out.drew.setCell (by show w.heap.size≤w.heap.size+1+1;omega) _).setCell (by show w.heap.size≤w.heap.size+1+1;omega) _
theorem below2 (w:World) (o1 o2:Obj):Below w.heap.size w ((w.alloc o1).alloc o2):=((Below.refl _ _).alloc (Nat.le_refl _) _).alloc (by simp) _
theorem learn_only (r:Rw4) (n:Int) (w:World):Calls Tryz.prog 186 #[.agg #[],r.val,.int .i64 n] w fun e w'=>e=.returned Mm.only.val∧Below w.heap.size w w':=by
 unfold Rw4.val
 go_enter Tryz.func186,Tryz.ntmps186
 go_wp2
 go_ret
 exact ⟨rfl,below2 _ _ _⟩
theorem learn_no (r:Rw4) (n:Int) (w:World):Calls Tryz.prog 183 #[.agg #[],r.val,.int .i64 n] w fun e w'=>e=.returned (if n=0 then Mm.only else Mm.one r).val∧Below w.heap.size w w':=by
 unfold Rw4.val
 by_cases h:n=0
 · subst h
   go_enter Tryz.func183,Tryz.ntmps183
   go_wp2
   go_ret
   exact ⟨rfl,below2 _ _ _⟩
 · have hn:(n==0)=false:=by simpa using h
   have HN:Hid _:=h
   clear h
   go_enter Tryz.func183,Tryz.ntmps183
   go_wp2
   go_ret
   exact ⟨by first | rfl | (rw [if_neg HN.out];rfl),below2 _ _ _⟩
theorem learn_one_only (o r:Rw4) (w:World):Calls Tryz.prog 190 #[o.val,r.val,.int .i64 1] w fun e w'=>e=.returned Mm.only.val∧Below w.heap.size w w':=by
 unfold Rw4.val
 go_enter Tryz.func190,Tryz.ntmps190
 go_wp2
 go_ret
 exact ⟨rfl,below2 _ _ _⟩
theorem learn_one_many (o r:Rw4) (n:Int) (w:World) (h:n≠1):Calls Tryz.prog 190 #[o.val,r.val,.int .i64 n] w fun e w'=>∃ q,e=.returned (Mm.many q 2 [o,r]).val∧Below w.heap.size w w'∧w.heap.size≤q∧(Mm.many q 2 [o,r]).Ok w':=by
 unfold Rw4.val
 have hn:(n==1)=false:=by simpa using h
 clear h
 go_enter Tryz.func190,Tryz.ntmps190
 go_wp2
 go_ret
 have hz:=(MapKept.heap_alloc ((w.alloc (.cells #[.pointer o.fr,.string o.sel,.pointer o.hm,.pointer o.mt] 259)).alloc (.cells #[.pointer r.fr,.string r.sel,.pointer r.hm,.pointer r.mt] 64)) (.cells #[.pointer o.fr,.string o.sel,.pointer o.hm,.pointer o.mt,.pointer r.fr,.string r.sel,.pointer r.hm,.pointer r.mt] 64)).1
 rw [World.size_alloc,World.size_alloc] at hz
 exact ⟨w.heap.size+1+1,rfl,below3 _ _ _ _,by omega,rfl,.inr ⟨_,2,_,rfl,Nat.zero_le _,hz,by simp,by unfold maxLen;omega,rfl,rfl⟩⟩
theorem forget_only (v:Value) (w:World):Calls Tryz.prog 185 #[.agg #[],v] w fun e w'=>e=.returned Mm.only.val∧Below w.heap.size w w':=by
 go_enter Tryz.func185,Tryz.ntmps185
 go_wp2
 go_ret
 exact ⟨rfl,(Below.refl _ _).alloc (Nat.le_refl _) _⟩
theorem forget_no (v:Value) (w:World):Calls Tryz.prog 182 #[.agg #[],v] w fun e w'=>e=.returned Mm.no.val∧Below w.heap.size w w':=by
 go_enter Tryz.func182,Tryz.ntmps182
 go_wp2
 go_ret
 exact ⟨rfl,(Below.refl _ _).alloc (Nat.le_refl _) _⟩
theorem forget_one (o:Rw4) (f:Nat) (cp:Array Value) (φ:Rw4→Bool) (I:World→Prop) (Q:Rw4→Prop) (w:World) (hf:Leans f cp φ I Q) (hQ:Q o) (hI:∀ W,Chg w W (fun _=>False)→I W) :
 Calls Tryz.prog 189 #[o.val,.func (.func f) #[] cp] w fun e w'=>e=.returned (if φ o=true then Mm.no else Mm.one o).val∧Below w.heap.size w w':=by
 obtain ⟨v,hv⟩:∃ v,(if φ o=true then Mm.no else Mm.one o).val=v:=⟨_,rfl⟩
 rw [hv]
 have HV:Hid _:=hv
 clear hv
 have hent:=hf.ent
 have hsay:=hf.says (w.alloc (.cells #[.pointer o.fr,.string o.sel,.pointer o.hm,.pointer o.mt] 259)) o (hI _ ((Chg.refl w _).alloc _)) hQ
 unfold Rw4.val at hsay ⊢
 go_enter Tryz.func189,Tryz.ntmps189
 go_wp2_with fail
 refine hsay.mono ?_
 rintro e w1 ⟨rfl,hb1⟩
 have hx:w1.heap[w.heap.size]?=some (.cells #[.pointer o.fr,.string o.sel,.pointer o.hm,.pointer o.mt] 259):=(hb1.block _ (by simp)).trans (MapKept.heap_alloc w _).1
 have HB:Hid (Below w.heap.size w w1):=((Below.refl _ w).alloc (Nat.le_refl _) _).trans (hb1.mono (by simp))
 have x0:w1.cell? ⟨w.heap.size,0,none⟩=some (.pointer o.fr):=by simp only [World.cell?,hx];rfl
 have x1:w1.cell? ⟨w.heap.size,1,none⟩=some (.string o.sel):=by simp only [World.cell?,hx];rfl
 have x2:w1.cell? ⟨w.heap.size,2,none⟩=some (.pointer o.hm):=by simp only [World.cell?,hx];rfl
 have x3:w1.cell? ⟨w.heap.size,3,none⟩=some (.pointer o.mt):=by simp only [World.cell?,hx];rfl
 clear hx hb1 hent hsay
 cases hp:φ o with
 | true =>
  go_wp2
  go_ret
  exact ⟨by rw [← HV.out,hp];rfl,HB.out⟩
 | false =>
  go_wp2
  go_ret
  exact ⟨by rw [← HV.out,hp];rfl,HB.out⟩
end Go.Proofs.YtkghmgoefiepeaaGreatDoor.reads
