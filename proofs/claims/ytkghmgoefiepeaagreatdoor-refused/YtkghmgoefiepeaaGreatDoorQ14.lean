import Derived.Test.YtkghmgoefiepeaaGreatDoorProg
import Derived.WalkKit
import Derived.ProofKit
import Derived.OpenShut
import Derived.BigRegion
import Derived.Deep.RegionHeld3
import Derived.Test.YtkghmgoefiepeaaGreatDoorQ0
set_option linter.unusedSimpArgs false
set_option linter.unusedVariables false
set_option maxHeartbeats 4000000
set_option maxRecDepth 100000
namespace Go.Proofs.YtkghmgoefiepeaaGreatDoor.img
open Go.ChangeShapes Go.WideShapes Go.ChangeAt Go.RowKit Kn
variable {w : World}
theorem cmap_len {mb:Nat}{l:List (ByteArray×Value)} (h:StrMap w mb l) (ty:TypeId):(Builtin.len_ #[55] ty #[.map (some mb)]).run Tryz.prog w=.ok (.int .i64 (l.length:Nat)) w:=by
 obtain ⟨es,clock,hb,hl⟩:=h
 have e:es.size=l.length:=by simpa using congrArg List.length hl
 rw [run_len_map w 55 ty mb es clock (by kernel_rfl) hb,e]
 rfl
theorem grown_trans {a w w':World}{row:Option Nat} (h:a.grownBy w row) (k:w.grownBy w' row):a.grownBy w' row :=
 ⟨k.os.trans h.os,k.tape.trans h.tape,k.output.trans h.output,Nat.le_trans h.size k.size,fun i hi hne=>(k.block i (Nat.lt_of_lt_of_le hi h.size) hne).trans (h.block i hi hne)⟩
theorem addClass_any (b mb:Nat) (l:List (ByteArray×Value)) (s:ByteArray) (p:Option Addr) (n:Int) (w:World) (hb:w.cell? ⟨b,0,none⟩=some (.map (some mb))) (hm:SMap w mb l) :
 Calls Tryz.prog 20 #[.pointer (some ⟨b,0,none⟩),.string s,.pointer p,.int .i64 n] w fun e w'=>e=.returned (.tuple #[]) ∧
  SMap w' mb (put l s (.pointer (some ⟨w.heap.size+1,0,none⟩)))∧w'.heap[w.heap.size]?=some (.map #[] 0) ∧
  w'.heap[w.heap.size+1]?=some (.cells #[.string s,.int .i64 l.length,.pointer p,.int .i64 n,.map (some w.heap.size)] 101)∧w.grownBy w' (some mb):=by
 have hmm:=@run_makeMap Tryz.prog
 have hmA:SMap (w.alloc (.map #[] 0)) mb l:=hm.same (Below.heap_alloc _ _ _ hm.lt)
 have hlen1:=cmap_len (w:=w.drew) (hm.same (w':=w.drew) rfl).str
 have hlen2:=cmap_len (w:=(w.alloc (.map #[] 0)).drew) (hmA.same (w':=(w.alloc (.map #[] 0)).drew) rfl).str
 obtain ⟨w1,hrun,hm1,hg1,hsz1⟩:=Kn.run_put (P:=Tryz.prog) (w:=((w.alloc (.map #[] 0)).alloc (.cells #[.string s,.int .i64 l.length,.pointer p,.int .i64 n,.map (some w.heap.size)] 101)).drew)
  ((hmA.same (Below.heap_alloc _ (.cells #[.string s,.int .i64 l.length,.pointer p,.int .i64 n,.map (some w.heap.size)] 101) _ hmA.lt)).same rfl)
  Tryz.underlying55 Tryz.underlying9 s (.pointer (some ⟨w.heap.size+1,0,none⟩))
 have hml:=hm.lt
 have hw1:w1.heap[w.heap.size]?=some (.map #[] 0)∧w1.heap[w.heap.size+1]?=some (.cells #[.string s,.int .i64 l.length,.pointer p,.int .i64 n,.map (some w.heap.size)] 101):=by
  have h2:=(MapKept.heap_alloc (w.alloc (.map #[] 0)) (.cells #[.string s,.int .i64 l.length,.pointer p,.int .i64 n,.map (some w.heap.size)] 101)).1
  rw [World.size_alloc] at h2
  refine ⟨(hg1.block _ (by simp;omega) (by simp;omega)).trans ((Below.heap_alloc _ _ _ (by simp)).trans (MapKept.heap_alloc w _).1),(hg1.block _ (by simp) (by simp;omega)).trans h2⟩
 have hg2:w.grownBy w1 (some mb):=grown_trans (grown_trans (World.grownBy_alloc w _ _) (World.grownBy_alloc _ _ _)) ⟨hg1.os,hg1.tape,hg1.output,hg1.size,hg1.block⟩
 have hb1:w1.cell? ⟨b,0,none⟩=some (.map (some mb)):=by
  have hbl:=World.block_lt_of_cell? w ⟨b,0,none⟩ hb
  refine (World.cell?_of_block (a:=⟨b,0,none⟩) (hg2.block b hbl ?_)).trans hb
  intro e;injection e with e
  obtain ⟨es,c,h1,h2,_⟩:=hm
  rw [← e] at h1
  simp [World.cell?,h1] at hb
 have HW:Hid (SMap w1 mb (put l s (.pointer (some ⟨w.heap.size+1,0,none⟩)))∧(w1.heap[w.heap.size]?=some (.map #[] 0)∧w1.heap[w.heap.size+1]?=some (.cells #[.string s,.int .i64 l.length,.pointer p,.int .i64 n,.map (some w.heap.size)] 101))∧w.grownBy w1 (some mb)):=⟨hm1,hw1,hg2⟩
 clear hm1 hw1 hg2 hg1 hm hsz1 hmA
 go_enter Tryz.func20,Tryz.ntmps20
 go_wp2
 have hb2:(w.alloc (.map #[] 0)).drew.cell? ⟨b,0,none⟩=some (.map (some mb)):=by go_keep
 have hbl:=World.block_lt_of_cell? w ⟨b,0,none⟩ hb
 go_region
 all_goals
  go_end0
  exact ⟨rfl,HW.out.1,HW.out.2.1.1,HW.out.2.1.2,HW.out.2.2⟩
def noRows:Nat→List Value
 | 0=>[]
 | n+1=>.pointer none::.string ⟨#[]⟩::.pointer none::.pointer none::noRows n
def newTable (n:Int):Array Value:=(noRows 64++[Value.int .i64 n]).toArray
def newImg (mb sb:Nat) (p n:Int):Array Value:=(.map (some mb)::.slice none 0 0::.int .i64 0::.int .i64 0::.int .i64 p::.map (some sb)::(noRows 64++[Value.int .i64 n])).toArray
theorem upon_eq {P:Program}{o:Oper}{a:Act}{K:Act→World→Prop}{Q:Exit→Act→World→Prop}{r r':Result Next} (h:r=r') (h2:Oper.upon P o a K Q r'):Oper.upon P o a K Q r:=h ▸ h2
def nmAny:ByteArray:=⟨#[65,110,121]⟩
def nmInt:ByteArray:=⟨#[73,110,116]⟩
theorem put_two (p q:Value):Kn.put (Kn.put [] ⟨#[65,110,121]⟩ p) ⟨#[73,110,116]⟩ q=[(nmAny,p),(nmInt,q)]:=by
 have e:((⟨#[73,110,116]⟩:ByteArray)==⟨#[65,110,121]⟩)=false:=(beq_ba_false _ _).2 (by simp)
 simp [Kn.put,e,nmAny,nmInt]
structure NewAt (w':World) (s j:Nat) (a0 a1:Int):Prop where
 img:w'.heap[s+2]?=some (.cells (newImg s (s+1) a0 a1) 70)
 cls:SMap w' s [(nmAny,.pointer (some ⟨s+4,0,none⟩)),(nmInt,.pointer (some ⟨j+1,0,none⟩))]
 snd:w'.heap[s+1]?=some (.map #[] 0)
 anyM:w'.heap[s+3]?=some (.map #[] 0)
 anyC:w'.heap[s+4]?=some (.cells #[.string nmAny,.int .i64 0,.pointer none,.int .i64 0,.map (some (s+3))] 101)
 intM:w'.heap[j]?=some (.map #[] 0)
 intC:w'.heap[j+1]?=some (.cells #[.string nmInt,.int .i64 1,.pointer (some ⟨s+4,0,none⟩),.int .i64 0,.map (some j)] 101)
 lo:s+5≤j
theorem lookup_any (w:World) (p:Value) (t:TypeId) (mb:Nat) (h:SMap w mb (put [] ⟨#[65,110,121]⟩ p)):(Instr.lookup 55 (.map (some mb)) (.string ⟨#[65,110,121]⟩) false).run Tryz.prog w=.ok p w:=by
 have h1:=run_lookup h.str Tryz.underlying55 Tryz.underlying9 (Tryz.zeroValue57 w) ⟨#[65,110,121]⟩
 rw [h1]
 have e1:((⟨#[65,110,121]⟩:ByteArray)==⟨#[65,110,121]⟩)=true:=(beq_ba _ _).2 rfl
 simp [put,List.lookup,e1]
theorem new_ok (a0 a1:Int) (w:World) (h0:0≤a0) (h1:a0≤6) (h2:1≤a1) (h3:a1≤64) (h4:(bits BinOp.and IntKind.i64 a1 (a1 - 1)==0)=true) :
 Calls Tryz.prog 7 #[.int .i64 a0,.int .i64 a1] w fun e w'=>e=.returned (.tuple #[.pointer (some ⟨w.heap.size+2,0,none⟩),.int .i64 0])∧(∃ j,NewAt w' w.heap.size j a0 a1)∧Below w.heap.size w w':=by
 have hmm:=@run_makeMap Tryz.prog
 go_enter Tryz.func7,Tryz.ntmps7
 go_wp2_with fail
 first
  | (refine upon_eq (r' := .ok (.value (.agg (newTable a1))) ((w.alloc (.map #[] 0)).alloc (.map #[] 0))) (by kernel_rfl) ?_
     go_wp2_with fail
     refine upon_eq (r':=.ok (.value (.agg (newImg w.heap.size (w.heap.size+1) a0 a1))) ((w.alloc (.map #[] 0)).alloc (.map #[] 0))) (by kernel_rfl) ?_
     go_wp2_with fail)
  | rw [show Array.foldl (fun cs x=>cs.setIfInBounds (6+x.snd) x.fst) (((Tryz.zeroCells70.setIfInBounds 0 (Value.map (some w.heap.size))).setIfInBounds 4 (Value.int IntKind.i64 a0)).setIfInBounds 5 (Value.map (some (w.heap.size+1)))) (Tryz.zeroCells67.setIfInBounds 256 (Value.int IntKind.i64 a1)).zipIdx 0 257=newImg w.heap.size (w.heap.size+1) a0 a1 from by kernel_rfl]
 have hW0:(((w.alloc (.map #[] 0)).alloc (.map #[] 0)).alloc (.cells (newImg w.heap.size (w.heap.size+1) a0 a1) 70)).heap.size=w.heap.size+3:=by simp
 have k0:SMap (((w.alloc (.map #[] 0)).alloc (.map #[] 0)).alloc (.cells (newImg w.heap.size (w.heap.size+1) a0 a1) 70)) w.heap.size []:=sMap_empty (((Below.heap_alloc _ _ _ (by simp;omega)).trans (Below.heap_alloc _ _ _ (by simp))).trans (MapKept.heap_alloc w _).1)
 have k1:(((w.alloc (.map #[] 0)).alloc (.map #[] 0)).alloc (.cells (newImg w.heap.size (w.heap.size+1) a0 a1) 70)).heap[w.heap.size+1]?=some (.map #[] 0):=by
  have:=(MapKept.heap_alloc (w.alloc (.map #[] 0)) (.map #[] 0)).1
  rw [World.size_alloc] at this
  exact (Below.heap_alloc _ _ _ (by simp)).trans this
 have k2:(((w.alloc (.map #[] 0)).alloc (.map #[] 0)).alloc (.cells (newImg w.heap.size (w.heap.size+1) a0 a1) 70)).heap[w.heap.size+2]?=some (.cells (newImg w.heap.size (w.heap.size+1) a0 a1) 70):=by
  have:=(MapKept.heap_alloc ((w.alloc (.map #[] 0)).alloc (.map #[] 0)) (.cells (newImg w.heap.size (w.heap.size+1) a0 a1) 70)).1
  rw [World.size_alloc,World.size_alloc] at this
  exact this
 have hb0:Below w.heap.size w (((w.alloc (.map #[] 0)).alloc (.map #[] 0)).alloc (.cells (newImg w.heap.size (w.heap.size+1) a0 a1) 70)):=(((Below.refl _ _).alloc (Nat.le_refl _) _).alloc (by simp) _).alloc (by simp;omega) _
 revert hW0 k0 k1 k2 hb0
 generalize ((w.alloc (.map #[] 0)).alloc (.map #[] 0)).alloc (.cells (newImg w.heap.size (w.heap.size+1) a0 a1) 70)=W0
 intro hW0 k0 k1 k2 hb0
 have c0:W0.cell? ⟨w.heap.size+2,0,none⟩=some (.map (some w.heap.size)):=by simp only [World.cell?,k2];rfl
 refine (addClass_any (w.heap.size+2) w.heap.size [] ⟨#[65,110,121]⟩ none 0 W0 c0 k0).mono ?_
 rintro e w1 ⟨rfl,m1,a1',a2',g1⟩
 rw [hW0] at m1 a1' a2'
 have hs1:w.heap.size+5≤w1.heap.size:=by have:=(Array.getElem?_eq_some_iff.1 a2').1;omega
 have k1':=(g1.block (w.heap.size+1) (by omega) (by simp)).trans k1
 have k2':=(g1.block (w.heap.size+2) (by omega) (by simp)).trans k2
 have hb1:Below w.heap.size w w1:=hb0.grown g1 (by omega) (by simp)
 have c1:w1.cell? ⟨w.heap.size+2,0,none⟩=some (.map (some w.heap.size)):=by simp only [World.cell?,k2'];rfl
 have lk:=lookup_any w1 _ 0 w.heap.size m1
 have HA:Hid (w1.heap[w.heap.size+3]?=some (.map #[] 0)∧w1.heap[w.heap.size+4]?=some (.cells #[.string nmAny,.int .i64 0,.pointer none,.int .i64 0,.map (some (w.heap.size+3))] 101)):=⟨a1',a2'⟩
 have HK:Hid (w1.heap[w.heap.size+1]?=some (.map #[] 0)∧w1.heap[w.heap.size+2]?=some (.cells (newImg w.heap.size (w.heap.size+1) a0 a1) 70)):=⟨k1',k2'⟩
 have HM:Hid (SMap w1 w.heap.size (put [] ⟨#[65,110,121]⟩ (.pointer (some ⟨w.heap.size+3+1,0,none⟩)))):=m1
 clear a1' a2' k1' k2' k1 k2 k0 hb0 g1 hW0 m1 c0
 go_wp2_with fail
 refine (addClass_any (w.heap.size+2) w.heap.size _ ⟨#[73,110,116]⟩ _ 0 w1 c1 HM.out).mono ?_
 rintro e w2 ⟨rfl,m2,b1,b2,g2⟩
 go_wp2
 go_ret2
 obtain ⟨a1',a2'⟩:=HA.out
 obtain ⟨k1',k2'⟩:=HK.out
 rw [put_two] at m2
 refine ⟨rfl,⟨w1.heap.size,⟨(g2.block _ (by omega) (by simp)).trans k2',m2,(g2.block _ (by omega) (by simp)).trans k1',(g2.block _ (by omega) (by simp)).trans a1',(g2.block _ (by omega) (by simp)).trans a2',b1,?_,hs1⟩⟩,hb1.grown g2 (by omega) (by simp)⟩
 exact b2
end Go.Proofs.YtkghmgoefiepeaaGreatDoor.img
