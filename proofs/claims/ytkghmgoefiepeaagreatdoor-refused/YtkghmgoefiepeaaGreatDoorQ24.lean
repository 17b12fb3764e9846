import Derived.Lib.Strings
import Derived.Lib.BufferWrite
import Derived.Lib.UnsafeStr
import Derived.Deep.RegionHeld3
import Derived.Deep.DrawnRows
import Derived.Test.YtkghmgoefiepeaaGreatDoorQ0
import Derived.Test.YtkghmgoefiepeaaGreatDoorQ15
import Derived.Test.YtkghmgoefiepeaaGreatDoorQ14
set_option linter.unusedSimpArgs false
set_option linter.unusedVariables false
set_option maxHeartbeats 4000000
set_option maxRecDepth 100000
namespace Go.Proofs.YtkghmgoefiepeaaGreatDoor.reads
open Go.ChangeShapes Go.WideShapes Go.ChangeAt Go.RowKit Kn
theorem info_byte:(Tryz.prog.info? 5).map (fun i=>(i.zero,i.size,i.bytes))=some (some (.int .u8 0),1,1):=by kernel_rfl
theorem byte_cells:Tryz.prog.cellsOf 5=1:=by kernel_rfl
theorem byte_size:(Tryz.prog.info? 5).map (·.size)=some 1:=by kernel_rfl
theorem mk_bytes (n:Nat) (hn:n≤140737488355328) (w:World):(Instr.makeSlice 200 (.int .i64 (n:Int)) (.int .i64 (n:Int))).run Tryz.prog w=.ok (.slice (some ⟨w.heap.size,0,none⟩) n n) (w.alloc (.cells (Array.replicate n (.int .u8 0)) 5)):=by
 obtain ⟨i0,hi,h0,h1,h2⟩:=info_parts info_byte
 have h:=run_make (P:=Tryz.prog) w 200 5 i0 _ Tryz.underlying200 hi h0 .i64 .i64 (n:Int) (n:Int) (by omega) (by omega) (by rw [h2];omega) (by omega)
 rw [h,Int.toNat_natCast,h1]
 show Result.ok _ (w.alloc (.cells (madeCells #[.int .u8 0] (n*1)) _))=_
 rw [made_one,Nat.mul_one]
def bytesLaid (w:World) (s:ByteArray):World:=(w.alloc (.cells (Array.replicate s.size (.int .u8 0)) 5)).setRow w.heap.size (Lib.byteCells s.data.toList).toArray
theorem bytesLaid_heap (w:World) (s:ByteArray):(bytesLaid w s).heap[w.heap.size]?=some (.cells (Lib.byteCells s.data.toList).toArray 5 (0,0)):=setRow_heap _ _ _ _ _ (0,0) (MapKept.heap_alloc w _).1
theorem bytesLaid_below (w:World) (s:ByteArray):Below w.heap.size w (bytesLaid w s) :=
 ((Below.refl _ w).alloc (Nat.le_refl _) _).trans ⟨rfl,rfl,rfl,by simp [bytesLaid,World.setRow],fun k hk=>setRow_other _ _ _ _ (by omega)⟩
theorem copy_bytes (w:World) (s:ByteArray) (t1 t2:TypeId):(Builtin.copy_ #[200,t1] t2 #[.slice (some ⟨w.heap.size,0,none⟩) s.size s.size,.string s]).run Tryz.prog (w.alloc (.cells (Array.replicate s.size (.int .u8 0)) 5))=.ok (goInt s.size) (bytesLaid w s):=by
 have h:=Lib.run_copy_row_string (P:=Tryz.prog) (w.alloc (.cells (Array.replicate s.size (.int .u8 0)) 5)) 200 t1 t2 5 w.heap.size 0 s.size s.size s (Array.replicate s.size (.int .u8 0)) 5 Tryz.underlying200 byte_size (MapKept.heap_alloc w _).1 (Nat.le_refl _) (by simp)
 have e:((Array.replicate s.size (Value.int .u8 0)).toList.take 0++Lib.byteCells s.data.toList++(Array.replicate s.size (Value.int .u8 0)).toList.drop (0+s.size)).toArray=(Lib.byteCells s.data.toList).toArray:=by
  rw [List.take_zero,List.nil_append,List.drop_of_length_le (by simp),List.append_nil]
 rw [h,e]
 rfl
theorem text_of (w:World) (s:ByteArray) (t1 t2:TypeId) (h0:s.size≠0) (hs:s.size≤140737488355328):(Builtin.unsafeString_ #[201,t1] t2 #[.pointer (some ⟨w.heap.size,0,none⟩),.int .i64 s.size]).run Tryz.prog (bytesLaid w s)=.ok (.string s) ((bytesLaid w s).freeze ⟨w.heap.size,0,none⟩ s.size):=by
 have hl:s.data.toList.length=s.size:=(Lib.size_eq s).symm
 have h:=Lib.run_unsafeString_row (P:=Tryz.prog) (bytesLaid w s) 201 t1 t2 5 Tryz.underlying201 byte_cells w.heap.size (Lib.byteCells s.data.toList).toArray.size (by unfold World.shape?;rw [bytesLaid_heap]) s.data.toList
  (fun e=>h0 (by rw [← hl,e];rfl)) (by simp [Lib.byteCells_length]) (by omega)
  (fun j x hx=>Lib.cells_of_row (bytesLaid_heap w s) (Lib.byteCells s.data.toList).toArray.size j _ (by rw [List.take_of_length_le (by simp [Lib.byteCells])];simp [Lib.byteCells,hx]))
 rw [hl] at h
 exact h
theorem lite_any (s:ByteArray) (w:World) (hs:s.size≤140737488355328) :
 Calls Tryz.prog 74 #[.string s] w fun e w'=>e=.returned (.string s)∧Below w.heap.size w w':=by
 by_cases h0:s.size=0
 · have hs:s=⟨#[]⟩:=by
    cases s with | mk a =>
    congr 1
    exact Array.eq_empty_of_size_eq_zero h0
   subst hs
   go_enter Tryz.func74,Tryz.ntmps74
   go_wp2
   go_ret
   exact ⟨rfl,Below.refl _ _⟩
 · have t0:((s.size:Int)==0)=false:=beq_eq_false_iff_ne.2 (by omega)
   have hp:(0:Int) < (s.size:Int):=by omega
   have hmk:=mk_bytes s.size hs
   have hcp:=copy_bytes w s
   have hus:=fun t1 t2=>text_of w s t1 t2 h0 hs
   go_enter Tryz.func74,Tryz.ntmps74
   go_wp2
   go_ret
   exact ⟨rfl,Lib.below_freeze (bytesLaid_below w s) (p:=⟨w.heap.size,0,none⟩) (Nat.le_refl _) _⟩
theorem clone_any (s:ByteArray) (w:World) (hs:s.size≤140737488355328) :
 Calls Tryz.prog 38 #[.string s] w fun e w'=>e=.returned (.string s)∧Below w.heap.size w w':=by
 go_enter Tryz.func38,Tryz.ntmps38
 go_wp2_with fail
 refine (lite_any s w hs).mono ?_
 rintro e w' ⟨rfl,hb⟩
 go_wp2
 go_ret
 exact ⟨rfl,hb⟩
end Go.Proofs.YtkghmgoefiepeaaGreatDoor.reads
namespace Go.Proofs.YtkghmgoefiepeaaGreatDoor.reads
open Go.ChangeShapes Go.WideShapes Go.ChangeAt Go.RowKit Kn Go.Proofs.YtkghmgoefiepeaaGreatDoor.img
theorem lookup_cls (w:World) (mb:Nat) (l:List (ByteArray×Value)) (h:SMap w mb l) (s:ByteArray):(Instr.lookup 55 (.map (some mb)) (.string s) false).run Tryz.prog w=.ok ((l.lookup s).getD (.pointer none)) w :=
 run_lookup h.str Tryz.underlying55 Tryz.underlying9 (Tryz.zeroValue57 w) s
theorem class_bad (s t:ByteArray) (n:Int) (b:Nat) (w:World) (hs:s.size≤140737488355328) (h:className (bl s)=false∨n < 0) :
 Calls Tryz.prog 15 #[.pointer (some ⟨b,0,none⟩),.string s,.string t,.int .i64 n] w fun e w'=>e=.returned (.int .i64 1)∧Below w.heap.size w w':=by
 cases hc:className (bl s) with
 | false =>
  have HC:Hid _:=hc
  clear hc h
  go_enter Tryz.func15,Tryz.ntmps15
  go_wp2_with fail
  refine (isClassName_any s _ hs).mono ?_
  rintro e w1 ⟨rfl,hb1⟩
  rw [HC.out]
  go_wp2
  go_ret
  exact ⟨rfl,hb1⟩
 | true =>
  have hn:n < 0:=by rcases h with h | h;rw [hc] at h;cases h;exact h
  have HC:Hid _:=hc
  clear hc h
  go_enter Tryz.func15,Tryz.ntmps15
  go_wp2_with fail
  refine (isClassName_any s _ hs).mono ?_
  rintro e w1 ⟨rfl,hb1⟩
  rw [HC.out]
  go_wp2
  go_ret
  exact ⟨rfl,hb1⟩
theorem class_err (s t:ByteArray) (n:Int) (b mb:Nat) (l:List (ByteArray×Value)) (w:World) (hs:s.size≤140737488355328) (hc:className (bl s)=true) (hn:0≤n) (h0:w.cell? ⟨b,0,none⟩=some (.map (some mb))) (hm:SMap w mb l) (r:Int)
 (hr:((∃ p,l.lookup s=some (.pointer (some p)))∧r=3)∨(l.lookup s=none∧l.lookup t=none∧r=2) ∨
  (∃ a tot,l.lookup s=none∧l.lookup t=some (.pointer (some ⟨a,0,none⟩))∧w.cell? ⟨a,3,none⟩=some (.int .i64 tot)∧0≤tot∧tot≤10∧((10 - tot < n∧r=9)∨(n≤10 - tot∧l.length=12∧r=10)))) :
 Calls Tryz.prog 15 #[.pointer (some ⟨b,0,none⟩),.string s,.string t,.int .i64 n] w fun e w'=>e=.returned (.int .i64 r)∧Below w.heap.size w w':=by
 have HC:Hid _:=hc
 have HM:Hid (SMap w mb l):=hm
 have hbl:=World.block_lt_of_cell? w ⟨b,0,none⟩ h0
 clear hc hm
 rcases hr with ⟨⟨p,hl⟩,rfl⟩ | ⟨hl,ht,rfl⟩ | ⟨a,tot,hl,ht,ha,ht0,ht1,hcase⟩
 · go_enter Tryz.func15,Tryz.ntmps15
   go_wp2_with fail
   refine (isClassName_any s _ hs).mono ?_
   rintro e w1 ⟨rfl,hb1⟩
   rw [HC.out]
   have c0:=(hb1.cell (p:=⟨b,0,none⟩) hbl).trans h0
   have hm1:=HM.out.same (hb1.block _ HM.out.lt)
   have lk1:=lookup_cls w1 mb l hm1 s
   rw [hl] at lk1
   simp only [Option.getD_some] at lk1
   clear hm1 h0 hl
   go_wp2
   go_ret
   exact ⟨rfl,hb1⟩
 · go_enter Tryz.func15,Tryz.ntmps15
   go_wp2_with fail
   refine (isClassName_any s _ hs).mono ?_
   rintro e w1 ⟨rfl,hb1⟩
   rw [HC.out]
   have c0:=(hb1.cell (p:=⟨b,0,none⟩) hbl).trans h0
   have hm1:=HM.out.same (hb1.block _ HM.out.lt)
   have lk1:=lookup_cls w1 mb l hm1 s
   have lk2:=lookup_cls w1 mb l hm1 t
   rw [hl] at lk1
   rw [ht] at lk2
   simp only [Option.getD_none] at lk1 lk2
   clear hm1 h0 hl ht
   go_wp2
   go_ret
   exact ⟨rfl,hb1⟩
 · have hal:=World.block_lt_of_cell? w ⟨a,3,none⟩ ha
   rcases hcase with ⟨hbig,rfl⟩ | ⟨hfit,hlen,rfl⟩
   · go_enter Tryz.func15,Tryz.ntmps15
     go_wp2_with fail
     refine (isClassName_any s _ hs).mono ?_
     rintro e w1 ⟨rfl,hb1⟩
     rw [HC.out]
     have c0:=(hb1.cell (p:=⟨b,0,none⟩) hbl).trans h0
     have ca:=(hb1.cell (p:=⟨a,3,none⟩) hal).trans ha
     have hm1:=HM.out.same (hb1.block _ HM.out.lt)
     have lk1:=lookup_cls w1 mb l hm1 s
     have lk2:=lookup_cls w1 mb l hm1 t
     rw [hl] at lk1
     rw [ht] at lk2
     simp only [Option.getD_none,Option.getD_some] at lk1 lk2
     have hwr:IntKind.i64.wrap (10 - tot)=10 - tot:=by rw [IntKind.wrap_i64];omega
     clear hm1 h0 hl ht ha
     go_wp2
     go_ret
     exact ⟨rfl,hb1⟩
   · go_enter Tryz.func15,Tryz.ntmps15
     go_wp2_with fail
     refine (isClassName_any s _ hs).mono ?_
     rintro e w1 ⟨rfl,hb1⟩
     rw [HC.out]
     have c0:=(hb1.cell (p:=⟨b,0,none⟩) hbl).trans h0
     have ca:=(hb1.cell (p:=⟨a,3,none⟩) hal).trans ha
     have hm1:=HM.out.same (hb1.block _ HM.out.lt)
     have lk1:=lookup_cls w1 mb l hm1 s
     have lk2:=lookup_cls w1 mb l hm1 t
     rw [hl] at lk1
     rw [ht] at lk2
     simp only [Option.getD_none,Option.getD_some] at lk1 lk2
     have hlen1:=cmap_len hm1.str
     rw [hlen] at hlen1
     have hwr:IntKind.i64.wrap (10 - tot)=10 - tot:=by rw [IntKind.wrap_i64];omega
     clear hm1 h0 hl ht ha
     go_wp2
     go_ret
     exact ⟨rfl,hb1⟩
theorem class_ok (s t:ByteArray) (n tot:Int) (b mb a:Nat) (l:List (ByteArray×Value)) (w:World) (hs:s.size≤140737488355328) (hc:className (bl s)=true) (hn:0≤n) (h0:w.cell? ⟨b,0,none⟩=some (.map (some mb))) (hm:SMap w mb l)
 (hl:l.lookup s=none) (ht:l.lookup t=some (.pointer (some ⟨a,0,none⟩))) (ha:w.cell? ⟨a,3,none⟩=some (.int .i64 tot)) (ht0:0≤tot) (ht1:tot≤10) (hfit:n≤10 - tot) (hlen:l.length < 12) :
 Calls Tryz.prog 15 #[.pointer (some ⟨b,0,none⟩),.string s,.string t,.int .i64 n] w fun e w'=>e=.returned (.int .i64 0)∧∃ cm,w.heap.size≤cm∧SMap w' mb (put l s (.pointer (some ⟨cm+1,0,none⟩))) ∧
  w'.heap[cm]?=some (.map #[] 0)∧w'.heap[cm+1]?=some (.cells #[.string s,.int .i64 l.length,.pointer (some ⟨a,0,none⟩),.int .i64 (tot+n),.map (some cm)] 101)∧Chg w w' (fun k=>k=mb):=by
 have HC:Hid _:=hc
 have HM:Hid (SMap w mb l):=hm
 have hbl:=World.block_lt_of_cell? w ⟨b,0,none⟩ h0
 have hal:=World.block_lt_of_cell? w ⟨a,3,none⟩ ha
 have hml:=hm.lt
 clear hc hm
 go_enter Tryz.func15,Tryz.ntmps15
 go_wp2_with fail
 refine (isClassName_any s _ hs).mono ?_
 rintro e w1 ⟨rfl,hb1⟩
 rw [HC.out]
 have c0:=(hb1.cell (p:=⟨b,0,none⟩) hbl).trans h0
 have ca:=(hb1.cell (p:=⟨a,3,none⟩) hal).trans ha
 have hm1:=HM.out.same (hb1.block _ HM.out.lt)
 have lk1:=lookup_cls w1 mb l hm1 s
 have lk2:=lookup_cls w1 mb l hm1 t
 rw [hl] at lk1
 rw [ht] at lk2
 simp only [Option.getD_none,Option.getD_some] at lk1 lk2
 have hlen1:=cmap_len hm1.str
 have hl12:((l.length:Int)==12)=false:=by simp;omega
 have hwr:IntKind.i64.wrap (10 - tot)=10 - tot:=by rw [IntKind.wrap_i64];omega
 have hwr2:IntKind.i64.wrap (tot+n)=tot+n:=by rw [IntKind.wrap_i64];omega
 have HM1:Hid (SMap w1 mb l):=hm1
 have bl1:b < w1.heap.size:=Nat.lt_of_lt_of_le hbl hb1.size
 have al1:a < w1.heap.size:=Nat.lt_of_lt_of_le hal hb1.size
 have HB1:Hid _:=hb1
 clear hm1 h0 hl ht ha hb1
 go_wp2_with fail
 refine wp_region_noPanic ?_
 refine wp_region_held_drew (S:=(fun w'=>w'.cell? ⟨b,0,none⟩=some (.map (some mb))∧w'.cell? ⟨a,3,none⟩=some (.int .i64 tot))) (by kernel_rfl) (by go_keep) (fun hHeld=>?_)
 refine tkH 0 ?_
 refine tkH 1 ?_
 refine tkH 3 ?_
 refine tkH 4 ?_
 refine tkH 5 ?_
 refine tkH 6 ?_
 refine tkH 7 ?_
 refine tkH 8 ?_
 refine tkL 9 ?_
 try simp only [hwr2]
 refine rdH 2 fun Kmac hKmac=>?_
 go_simp
 refine (clone_any s _ hs).mono ?_;rintro e w2 ⟨rfl,hb2⟩;have HM2:Hid (SMap w2 mb l):=(HM1.out.same (w':=w1.drew) rfl).same (hb2.block _ HM1.out.lt);have HB2:Hid (Below w1.heap.size w1 w2):=undrew hb2;have c02:=(hb2.cell (p:=⟨b,0,none⟩) bl1).trans c0;have ca2:=(hb2.cell (p:=⟨a,3,none⟩) al1).trans ca;clear hb2 c0 ca
 try go_wp2_with fail
 refine hKmac.go fun hHeld=>?_
 clear hKmac Kmac
 try refine lyH ?_
 refine rdH 10 fun Kmac hKmac=>?_
 go_simp
 refine (addClass_any b mb l s (some ⟨a,0,none⟩) (tot+n) w2 c02 HM2.out).mono ?_;rintro e w3 ⟨rfl,hm3,hmp,hcl,hg3⟩;have c03:w3.cell? ⟨b,0,none⟩=some (.map (some mb)):=(World.cell?_of_block (a:=⟨b,0,none⟩) (hg3.block b (World.block_lt_of_cell? w2 ⟨b,0,none⟩ c02) (fun e=>by injection e with e;obtain ⟨es,ck,h1,_⟩:=HM2.out;rw [← e] at h1;simp [World.cell?,h1] at c02))).trans c02;have ca3:w3.cell? ⟨a,3,none⟩=some (.int .i64 tot):=(World.cell?_of_block (a:=⟨a,3,none⟩) (hg3.block a (World.block_lt_of_cell? w2 ⟨a,3,none⟩ ca2) (fun e=>by injection e with e;obtain ⟨es,ck,h1,_⟩:=HM2.out;rw [← e] at h1;simp [World.cell?,h1] at ca2))).trans ca2
 try go_wp2_with fail
 refine hKmac.go fun hHeld=>?_
 clear hKmac Kmac
 try refine lyH ?_
 refine wpAnyH_done (by kernel_rfl) ?_ _
 refine NoPanic.normal ?_
 go_wp2
 go_ret
 have hb1:=HB1.out
 have hb2:=HB2.out
 exact ⟨rfl,w2.heap.size,Nat.le_trans hb1.size hb2.size,hm3,hmp,hcl,((Chg.of_below hb1 _).trans (Chg.of_below hb2 _)).trans (Chg.of_grown hg3)⟩
end Go.Proofs.YtkghmgoefiepeaaGreatDoor.reads
