import Derived.Test.YtkghmgoefiepeaaGreatDoorQ0
import Derived.Test.YtkghmgoefiepeaaGreatDoorQ4
set_option linter.unusedSimpArgs false
set_option linter.unusedVariables false
set_option maxHeartbeats 4000000
set_option maxRecDepth 100000
namespace Go.Proofs.YtkghmgoefiepeaaGreatDoor.reads
open Go.ChangeShapes Go.WideShapes Go.ChangeAt Go.RowKit Kn
def HeadsCells:List Value:=[.string ⟨#[110,101,119]⟩,.int .i64 17,.string ⟨#[98,101]⟩,.int .i64 18,.string ⟨#[100,114,111,112]⟩,.int .i64 19,.string ⟨#[109,111,118,101]⟩,.int .i64 20,.string ⟨#[99,111,112,121]⟩,.int .i64 21]
def HasHeads (w:World):Prop:=∀ i v,HeadsCells[i]?=some v→w.cell? ⟨1,i,none⟩=some v
variable {w w' : World}
theorem HasHeads.below (h:HasHeads w) {B:Nat} (hB:1 < B) (hb:Below B w w'):HasHeads w':=fun i v hv=>(hb.cell (p:=⟨1,i,none⟩) hB).trans (h i v hv)
def HeadsTexts:List (List UInt8):=[[110,101,119],[98,101],[100,114,111,112],[109,111,118,101],[99,111,112,121]]
def headK (l:List UInt8):Nat:=if l=[110,101,119] then 17 else if l=[98,101] then 18 else if l=[100,114,111,112] then 19 else if l=[109,111,118,101] then 20 else if l=[99,111,112,121] then 21 else 0
theorem headK_none (l:List UInt8) (h:∀ j,j < 5→HeadsTexts[j]?≠some l):headK l=0:=by
 have h0:¬ l=[110,101,119]:=fun e=>h 0 (by omega) (by rw [e];rfl)
 have h1:¬ l=[98,101]:=fun e=>h 1 (by omega) (by rw [e];rfl)
 have h2:¬ l=[100,114,111,112]:=fun e=>h 2 (by omega) (by rw [e];rfl)
 have h3:¬ l=[109,111,118,101]:=fun e=>h 3 (by omega) (by rw [e];rfl)
 have h4:¬ l=[99,111,112,121]:=fun e=>h 4 (by omega) (by rw [e];rfl)
 unfold headK
 rw [if_neg h0,if_neg h1,if_neg h2,if_neg h3,if_neg h4]
theorem Heads_ix0 (w:World):(Instr.index 221 (.agg #[.string ⟨#[110,101,119]⟩,.int .i64 17,.string ⟨#[98,101]⟩,.int .i64 18,.string ⟨#[100,114,111,112]⟩,.int .i64 19,.string ⟨#[109,111,118,101]⟩,.int .i64 20,.string ⟨#[99,111,112,121]⟩,.int .i64 21]) (.int .i64 0)).run Tryz.prog w=.ok (.agg #[.string ⟨#[110,101,119]⟩,.int .i64 17]) w:=by kernel_rfl
theorem Heads_ix1 (w:World):(Instr.index 221 (.agg #[.string ⟨#[110,101,119]⟩,.int .i64 17,.string ⟨#[98,101]⟩,.int .i64 18,.string ⟨#[100,114,111,112]⟩,.int .i64 19,.string ⟨#[109,111,118,101]⟩,.int .i64 20,.string ⟨#[99,111,112,121]⟩,.int .i64 21]) (.int .i64 1)).run Tryz.prog w=.ok (.agg #[.string ⟨#[98,101]⟩,.int .i64 18]) w:=by kernel_rfl
theorem Heads_ix2 (w:World):(Instr.index 221 (.agg #[.string ⟨#[110,101,119]⟩,.int .i64 17,.string ⟨#[98,101]⟩,.int .i64 18,.string ⟨#[100,114,111,112]⟩,.int .i64 19,.string ⟨#[109,111,118,101]⟩,.int .i64 20,.string ⟨#[99,111,112,121]⟩,.int .i64 21]) (.int .i64 2)).run Tryz.prog w=.ok (.agg #[.string ⟨#[100,114,111,112]⟩,.int .i64 19]) w:=by kernel_rfl
theorem Heads_ix3 (w:World):(Instr.index 221 (.agg #[.string ⟨#[110,101,119]⟩,.int .i64 17,.string ⟨#[98,101]⟩,.int .i64 18,.string ⟨#[100,114,111,112]⟩,.int .i64 19,.string ⟨#[109,111,118,101]⟩,.int .i64 20,.string ⟨#[99,111,112,121]⟩,.int .i64 21]) (.int .i64 3)).run Tryz.prog w=.ok (.agg #[.string ⟨#[109,111,118,101]⟩,.int .i64 20]) w:=by kernel_rfl
theorem Heads_ix4 (w:World):(Instr.index 221 (.agg #[.string ⟨#[110,101,119]⟩,.int .i64 17,.string ⟨#[98,101]⟩,.int .i64 18,.string ⟨#[100,114,111,112]⟩,.int .i64 19,.string ⟨#[109,111,118,101]⟩,.int .i64 20,.string ⟨#[99,111,112,121]⟩,.int .i64 21]) (.int .i64 4)).run Tryz.prog w=.ok (.agg #[.string ⟨#[99,111,112,121]⟩,.int .i64 21]) w:=by kernel_rfl
theorem classKind_any (s:ByteArray) (w:World) (hs:s.size≤140737488355328) (h:HasHeads w) :
 Calls Tryz.prog 110 #[.string s] w fun e w'=>e=.returned (.int .i64 (headK (bl s):Nat))∧Below w.heap.size w w':=by
 have c0:=h 0 _ rfl
 have c1:=h 1 _ rfl
 have c2:=h 2 _ rfl
 have c3:=h 3 _ rfl
 have c4:=h 4 _ rfl
 have c5:=h 5 _ rfl
 have c6:=h 6 _ rfl
 have c7:=h 7 _ rfl
 have c8:=h 8 _ rfl
 have c9:=h 9 _ rfl
 have ix0:=Heads_ix0
 have ix1:=Heads_ix1
 have ix2:=Heads_ix2
 have ix3:=Heads_ix3
 have ix4:=Heads_ix4
 clear h
 go_enter Tryz.func110,Tryz.ntmps110
 go_wp2
 go_loopw [6] (fun i wr=>∃ k:Nat,i=.int .i64 k∧k≤5∧Below w.heap.size w wr∧(∀ j,j < k→HeadsTexts[j]?≠some (bl s))) (fun i _=>5 - (intOf i).toNat)
 case atStart=>exact ⟨0,rfl,by omega,Below.refl _ _,fun j hj=>by omega⟩
 case round =>
  obtain ⟨k,rfl,hk,hb,hno⟩:=hrel
  have HNo:Hid _:=hno
  have hsz:=hb.size
  clear hno
  have hcase:k=0∨k=1∨k=2∨k=3∨k=4∨k=5:=by omega
  rcases hcase with rfl | rfl | rfl | rfl | rfl | rfl
  · by_cases e:bl s=[110,101,119]
    · have tt:(([110,101,119]:List UInt8)==s.toList)=true:=by rw [ByteArray.toList_eq];exact beq_iff_eq.2 e.symm
      have HR:Hid (headK (bl s)=17):=by
       have hx:headK (bl s)=17:=by rw [e];rfl
       exact hx
      clear e
      go_wp2
      go_ret
      exact ⟨by rw [HR.out];rfl,hb.alloc (by omega) _⟩
    · have tt:(([110,101,119]:List UInt8)==s.toList)=false:=by rw [ByteArray.toList_eq];exact beq_eq_false_iff_ne.2 (fun h=>e h.symm)
      have HE:Hid _:=e
      clear e
      go_wp2
      go_roundw
      case rel =>
       refine ⟨1,rfl,by omega,hb.alloc (by omega) _,fun j hj=>?_⟩
       by_cases ej:j=0
       · subst ej;intro h;injection h with h;exact HE.out h.symm
       · exact HNo.out j (by omega)
      case measure=>simp [intOf]
  · by_cases e:bl s=[98,101]
    · have tt:(([98,101]:List UInt8)==s.toList)=true:=by rw [ByteArray.toList_eq];exact beq_iff_eq.2 e.symm
      have HR:Hid (headK (bl s)=18):=by
       have hx:headK (bl s)=18:=by rw [e];rfl
       exact hx
      clear e
      go_wp2
      go_ret
      exact ⟨by rw [HR.out];rfl,hb.alloc (by omega) _⟩
    · have tt:(([98,101]:List UInt8)==s.toList)=false:=by rw [ByteArray.toList_eq];exact beq_eq_false_iff_ne.2 (fun h=>e h.symm)
      have HE:Hid _:=e
      clear e
      go_wp2
      go_roundw
      case rel =>
       refine ⟨2,rfl,by omega,hb.alloc (by omega) _,fun j hj=>?_⟩
       by_cases ej:j=1
       · subst ej;intro h;injection h with h;exact HE.out h.symm
       · exact HNo.out j (by omega)
      case measure=>simp [intOf]
  · by_cases e:bl s=[100,114,111,112]
    · have tt:(([100,114,111,112]:List UInt8)==s.toList)=true:=by rw [ByteArray.toList_eq];exact beq_iff_eq.2 e.symm
      have HR:Hid (headK (bl s)=19):=by
       have hx:headK (bl s)=19:=by rw [e];rfl
       exact hx
      clear e
      go_wp2
      go_ret
      exact ⟨by rw [HR.out];rfl,hb.alloc (by omega) _⟩
    · have tt:(([100,114,111,112]:List UInt8)==s.toList)=false:=by rw [ByteArray.toList_eq];exact beq_eq_false_iff_ne.2 (fun h=>e h.symm)
      have HE:Hid _:=e
      clear e
      go_wp2
      go_roundw
      case rel =>
       refine ⟨3,rfl,by omega,hb.alloc (by omega) _,fun j hj=>?_⟩
       by_cases ej:j=2
       · subst ej;intro h;injection h with h;exact HE.out h.symm
       · exact HNo.out j (by omega)
      case measure=>simp [intOf]
  · by_cases e:bl s=[109,111,118,101]
    · have tt:(([109,111,118,101]:List UInt8)==s.toList)=true:=by rw [ByteArray.toList_eq];exact beq_iff_eq.2 e.symm
      have HR:Hid (headK (bl s)=20):=by
       have hx:headK (bl s)=20:=by rw [e];rfl
       exact hx
      clear e
      go_wp2
      go_ret
      exact ⟨by rw [HR.out];rfl,hb.alloc (by omega) _⟩
    · have tt:(([109,111,118,101]:List UInt8)==s.toList)=false:=by rw [ByteArray.toList_eq];exact beq_eq_false_iff_ne.2 (fun h=>e h.symm)
      have HE:Hid _:=e
      clear e
      go_wp2
      go_roundw
      case rel =>
       refine ⟨4,rfl,by omega,hb.alloc (by omega) _,fun j hj=>?_⟩
       by_cases ej:j=3
       · subst ej;intro h;injection h with h;exact HE.out h.symm
       · exact HNo.out j (by omega)
      case measure=>simp [intOf]
  · by_cases e:bl s=[99,111,112,121]
    · have tt:(([99,111,112,121]:List UInt8)==s.toList)=true:=by rw [ByteArray.toList_eq];exact beq_iff_eq.2 e.symm
      have HR:Hid (headK (bl s)=21):=by
       have hx:headK (bl s)=21:=by rw [e];rfl
       exact hx
      clear e
      go_wp2
      go_ret
      exact ⟨by rw [HR.out];rfl,hb.alloc (by omega) _⟩
    · have tt:(([99,111,112,121]:List UInt8)==s.toList)=false:=by rw [ByteArray.toList_eq];exact beq_eq_false_iff_ne.2 (fun h=>e h.symm)
      have HE:Hid _:=e
      clear e
      go_wp2
      go_roundw
      case rel =>
       refine ⟨5,rfl,by omega,hb.alloc (by omega) _,fun j hj=>?_⟩
       by_cases ej:j=4
       · subst ej;intro h;injection h with h;exact HE.out h.symm
       · exact HNo.out j (by omega)
      case measure=>simp [intOf]
  · have HR:Hid (headK (bl s)=0):=by
     have hx:headK (bl s)=0:=headK_none (bl s) HNo.out
     exact hx
    go_wp2
    go_ret
    exact ⟨by rw [HR.out];rfl,hb⟩
def PlainsCells:List Value:=[.string ⟨#[115,101,108,102]⟩,.int .i64 2,.string ⟨#[43]⟩,.int .i64 6,.string ⟨#[45]⟩,.int .i64 7,.string ⟨#[42]⟩,.int .i64 8,.string ⟨#[60]⟩,.int .i64 9,.string ⟨#[61]⟩,.int .i64 10,.string ⟨#[112,111,112]⟩,.int .i64 11,.string ⟨#[100,117,112]⟩,.int .i64 12,.string ⟨#[114,101,116]⟩,.int .i64 22]
def HasPlains (w:World):Prop:=∀ i v,PlainsCells[i]?=some v→w.cell? ⟨2,i,none⟩=some v
theorem HasPlains.below (h:HasPlains w) {B:Nat} (hB:2 < B) (hb:Below B w w'):HasPlains w':=fun i v hv=>(hb.cell (p:=⟨2,i,none⟩) hB).trans (h i v hv)
def PlainsTexts:List (List UInt8):=[[115,101,108,102],[43],[45],[42],[60],[61],[112,111,112],[100,117,112],[114,101,116]]
def plainK (l:List UInt8):Nat:=if l=[115,101,108,102] then 2 else if l=[43] then 6 else if l=[45] then 7 else if l=[42] then 8 else if l=[60] then 9 else if l=[61] then 10 else if l=[112,111,112] then 11 else if l=[100,117,112] then 12 else if l=[114,101,116] then 22 else 0
theorem plainK_none (l:List UInt8) (h:∀ j,j < 9→PlainsTexts[j]?≠some l):plainK l=0:=by
 have h0:¬ l=[115,101,108,102]:=fun e=>h 0 (by omega) (by rw [e];rfl)
 have h1:¬ l=[43]:=fun e=>h 1 (by omega) (by rw [e];rfl)
 have h2:¬ l=[45]:=fun e=>h 2 (by omega) (by rw [e];rfl)
 have h3:¬ l=[42]:=fun e=>h 3 (by omega) (by rw [e];rfl)
 have h4:¬ l=[60]:=fun e=>h 4 (by omega) (by rw [e];rfl)
 have h5:¬ l=[61]:=fun e=>h 5 (by omega) (by rw [e];rfl)
 have h6:¬ l=[112,111,112]:=fun e=>h 6 (by omega) (by rw [e];rfl)
 have h7:¬ l=[100,117,112]:=fun e=>h 7 (by omega) (by rw [e];rfl)
 have h8:¬ l=[114,101,116]:=fun e=>h 8 (by omega) (by rw [e];rfl)
 unfold plainK
 rw [if_neg h0,if_neg h1,if_neg h2,if_neg h3,if_neg h4,if_neg h5,if_neg h6,if_neg h7,if_neg h8]
theorem Plains_ix0 (w:World):(Instr.index 222 (.agg #[.string ⟨#[115,101,108,102]⟩,.int .i64 2,.string ⟨#[43]⟩,.int .i64 6,.string ⟨#[45]⟩,.int .i64 7,.string ⟨#[42]⟩,.int .i64 8,.string ⟨#[60]⟩,.int .i64 9,.string ⟨#[61]⟩,.int .i64 10,.string ⟨#[112,111,112]⟩,.int .i64 11,.string ⟨#[100,117,112]⟩,.int .i64 12,.string ⟨#[114,101,116]⟩,.int .i64 22]) (.int .i64 0)).run Tryz.prog w=.ok (.agg #[.string ⟨#[115,101,108,102]⟩,.int .i64 2]) w:=by kernel_rfl
theorem Plains_ix1 (w:World):(Instr.index 222 (.agg #[.string ⟨#[115,101,108,102]⟩,.int .i64 2,.string ⟨#[43]⟩,.int .i64 6,.string ⟨#[45]⟩,.int .i64 7,.string ⟨#[42]⟩,.int .i64 8,.string ⟨#[60]⟩,.int .i64 9,.string ⟨#[61]⟩,.int .i64 10,.string ⟨#[112,111,112]⟩,.int .i64 11,.string ⟨#[100,117,112]⟩,.int .i64 12,.string ⟨#[114,101,116]⟩,.int .i64 22]) (.int .i64 1)).run Tryz.prog w=.ok (.agg #[.string ⟨#[43]⟩,.int .i64 6]) w:=by kernel_rfl
theorem Plains_ix2 (w:World):(Instr.index 222 (.agg #[.string ⟨#[115,101,108,102]⟩,.int .i64 2,.string ⟨#[43]⟩,.int .i64 6,.string ⟨#[45]⟩,.int .i64 7,.string ⟨#[42]⟩,.int .i64 8,.string ⟨#[60]⟩,.int .i64 9,.string ⟨#[61]⟩,.int .i64 10,.string ⟨#[112,111,112]⟩,.int .i64 11,.string ⟨#[100,117,112]⟩,.int .i64 12,.string ⟨#[114,101,116]⟩,.int .i64 22]) (.int .i64 2)).run Tryz.prog w=.ok (.agg #[.string ⟨#[45]⟩,.int .i64 7]) w:=by kernel_rfl
theorem Plains_ix3 (w:World):(Instr.index 222 (.agg #[.string ⟨#[115,101,108,102]⟩,.int .i64 2,.string ⟨#[43]⟩,.int .i64 6,.string ⟨#[45]⟩,.int .i64 7,.string ⟨#[42]⟩,.int .i64 8,.string ⟨#[60]⟩,.int .i64 9,.string ⟨#[61]⟩,.int .i64 10,.string ⟨#[112,111,112]⟩,.int .i64 11,.string ⟨#[100,117,112]⟩,.int .i64 12,.string ⟨#[114,101,116]⟩,.int .i64 22]) (.int .i64 3)).run Tryz.prog w=.ok (.agg #[.string ⟨#[42]⟩,.int .i64 8]) w:=by kernel_rfl
theorem Plains_ix4 (w:World):(Instr.index 222 (.agg #[.string ⟨#[115,101,108,102]⟩,.int .i64 2,.string ⟨#[43]⟩,.int .i64 6,.string ⟨#[45]⟩,.int .i64 7,.string ⟨#[42]⟩,.int .i64 8,.string ⟨#[60]⟩,.int .i64 9,.string ⟨#[61]⟩,.int .i64 10,.string ⟨#[112,111,112]⟩,.int .i64 11,.string ⟨#[100,117,112]⟩,.int .i64 12,.string ⟨#[114,101,116]⟩,.int .i64 22]) (.int .i64 4)).run Tryz.prog w=.ok (.agg #[.string ⟨#[60]⟩,.int .i64 9]) w:=by kernel_rfl
theorem Plains_ix5 (w:World):(Instr.index 222 (.agg #[.string ⟨#[115,101,108,102]⟩,.int .i64 2,.string ⟨#[43]⟩,.int .i64 6,.string ⟨#[45]⟩,.int .i64 7,.string ⟨#[42]⟩,.int .i64 8,.string ⟨#[60]⟩,.int .i64 9,.string ⟨#[61]⟩,.int .i64 10,.string ⟨#[112,111,112]⟩,.int .i64 11,.string ⟨#[100,117,112]⟩,.int .i64 12,.string ⟨#[114,101,116]⟩,.int .i64 22]) (.int .i64 5)).run Tryz.prog w=.ok (.agg #[.string ⟨#[61]⟩,.int .i64 10]) w:=by kernel_rfl
theorem Plains_ix6 (w:World):(Instr.index 222 (.agg #[.string ⟨#[115,101,108,102]⟩,.int .i64 2,.string ⟨#[43]⟩,.int .i64 6,.string ⟨#[45]⟩,.int .i64 7,.string ⟨#[42]⟩,.int .i64 8,.string ⟨#[60]⟩,.int .i64 9,.string ⟨#[61]⟩,.int .i64 10,.string ⟨#[112,111,112]⟩,.int .i64 11,.string ⟨#[100,117,112]⟩,.int .i64 12,.string ⟨#[114,101,116]⟩,.int .i64 22]) (.int .i64 6)).run Tryz.prog w=.ok (.agg #[.string ⟨#[112,111,112]⟩,.int .i64 11]) w:=by kernel_rfl
theorem Plains_ix7 (w:World):(Instr.index 222 (.agg #[.string ⟨#[115,101,108,102]⟩,.int .i64 2,.string ⟨#[43]⟩,.int .i64 6,.string ⟨#[45]⟩,.int .i64 7,.string ⟨#[42]⟩,.int .i64 8,.string ⟨#[60]⟩,.int .i64 9,.string ⟨#[61]⟩,.int .i64 10,.string ⟨#[112,111,112]⟩,.int .i64 11,.string ⟨#[100,117,112]⟩,.int .i64 12,.string ⟨#[114,101,116]⟩,.int .i64 22]) (.int .i64 7)).run Tryz.prog w=.ok (.agg #[.string ⟨#[100,117,112]⟩,.int .i64 12]) w:=by kernel_rfl
theorem Plains_ix8 (w:World):(Instr.index 222 (.agg #[.string ⟨#[115,101,108,102]⟩,.int .i64 2,.string ⟨#[43]⟩,.int .i64 6,.string ⟨#[45]⟩,.int .i64 7,.string ⟨#[42]⟩,.int .i64 8,.string ⟨#[60]⟩,.int .i64 9,.string ⟨#[61]⟩,.int .i64 10,.string ⟨#[112,111,112]⟩,.int .i64 11,.string ⟨#[100,117,112]⟩,.int .i64 12,.string ⟨#[114,101,116]⟩,.int .i64 22]) (.int .i64 8)).run Tryz.prog w=.ok (.agg #[.string ⟨#[114,101,116]⟩,.int .i64 22]) w:=by kernel_rfl
theorem plainKind_any (s:ByteArray) (w:World) (hs:s.size≤140737488355328) (h:HasPlains w) :
 Calls Tryz.prog 111 #[.string s] w fun e w'=>e=.returned (.int .i64 (plainK (bl s):Nat))∧Below w.heap.size w w':=by
 have c0:=h 0 _ rfl
 have c1:=h 1 _ rfl
 have c2:=h 2 _ rfl
 have c3:=h 3 _ rfl
 have c4:=h 4 _ rfl
 have c5:=h 5 _ rfl
 have c6:=h 6 _ rfl
 have c7:=h 7 _ rfl
 have c8:=h 8 _ rfl
 have c9:=h 9 _ rfl
 have c10:=h 10 _ rfl
 have c11:=h 11 _ rfl
 have c12:=h 12 _ rfl
 have c13:=h 13 _ rfl
 have c14:=h 14 _ rfl
 have c15:=h 15 _ rfl
 have c16:=h 16 _ rfl
 have c17:=h 17 _ rfl
 have ix0:=Plains_ix0
 have ix1:=Plains_ix1
 have ix2:=Plains_ix2
 have ix3:=Plains_ix3
 have ix4:=Plains_ix4
 have ix5:=Plains_ix5
 have ix6:=Plains_ix6
 have ix7:=Plains_ix7
 have ix8:=Plains_ix8
 clear h
 go_enter Tryz.func111,Tryz.ntmps111
 go_wp2
 go_loopw [6] (fun i wr=>∃ k:Nat,i=.int .i64 k∧k≤9∧Below w.heap.size w wr∧(∀ j,j < k→PlainsTexts[j]?≠some (bl s))) (fun i _=>9 - (intOf i).toNat)
 case atStart=>exact ⟨0,rfl,by omega,Below.refl _ _,fun j hj=>by omega⟩
 case round =>
  obtain ⟨k,rfl,hk,hb,hno⟩:=hrel
  have HNo:Hid _:=hno
  have hsz:=hb.size
  clear hno
  have hcase:k=0∨k=1∨k=2∨k=3∨k=4∨k=5∨k=6∨k=7∨k=8∨k=9:=by omega
  rcases hcase with rfl | rfl | rfl | rfl | rfl | rfl | rfl | rfl | rfl | rfl
  · by_cases e:bl s=[115,101,108,102]
    · have tt:(([115,101,108,102]:List UInt8)==s.toList)=true:=by rw [ByteArray.toList_eq];exact beq_iff_eq.2 e.symm
      have HR:Hid (plainK (bl s)=2):=by
       have hx:plainK (bl s)=2:=by rw [e];rfl
       exact hx
      clear e
      go_wp2
      go_ret
      exact ⟨by rw [HR.out];rfl,hb.alloc (by omega) _⟩
    · have tt:(([115,101,108,102]:List UInt8)==s.toList)=false:=by rw [ByteArray.toList_eq];exact beq_eq_false_iff_ne.2 (fun h=>e h.symm)
      have HE:Hid _:=e
      clear e
      go_wp2
      go_roundw
      case rel =>
       refine ⟨1,rfl,by omega,hb.alloc (by omega) _,fun j hj=>?_⟩
       by_cases ej:j=0
       · subst ej;intro h;injection h with h;exact HE.out h.symm
       · exact HNo.out j (by omega)
      case measure=>simp [intOf]
  · by_cases e:bl s=[43]
    · have tt:(([43]:List UInt8)==s.toList)=true:=by rw [ByteArray.toList_eq];exact beq_iff_eq.2 e.symm
      have HR:Hid (plainK (bl s)=6):=by
       have hx:plainK (bl s)=6:=by rw [e];rfl
       exact hx
      clear e
      go_wp2
      go_ret
      exact ⟨by rw [HR.out];rfl,hb.alloc (by omega) _⟩
    · have tt:(([43]:List UInt8)==s.toList)=false:=by rw [ByteArray.toList_eq];exact beq_eq_false_iff_ne.2 (fun h=>e h.symm)
      have HE:Hid _:=e
      clear e
      go_wp2
      go_roundw
      case rel =>
       refine ⟨2,rfl,by omega,hb.alloc (by omega) _,fun j hj=>?_⟩
       by_cases ej:j=1
       · subst ej;intro h;injection h with h;exact HE.out h.symm
       · exact HNo.out j (by omega)
      case measure=>simp [intOf]
  · by_cases e:bl s=[45]
    · have tt:(([45]:List UInt8)==s.toList)=true:=by rw [ByteArray.toList_eq];exact beq_iff_eq.2 e.symm
      have HR:Hid (plainK (bl s)=7):=by
       have hx:plainK (bl s)=7:=by rw [e];rfl
       exact hx
      clear e
      go_wp2
      go_ret
      exact ⟨by rw [HR.out];rfl,hb.alloc (by omega) _⟩
    · have tt:(([45]:List UInt8)==s.toList)=false:=by rw [ByteArray.toList_eq];exact beq_eq_false_iff_ne.2 (fun h=>e h.symm)
      have HE:Hid _:=e
      clear e
      go_wp2
      go_roundw
      case rel =>
       refine ⟨3,rfl,by omega,hb.alloc (by omega) _,fun j hj=>?_⟩
       by_cases ej:j=2
       · subst ej;intro h;injection h with h;exact HE.out h.symm
       · exact HNo.out j (by omega)
      case measure=>simp [intOf]
  · by_cases e:bl s=[42]
    · have tt:(([42]:List UInt8)==s.toList)=true:=by rw [ByteArray.toList_eq];exact beq_iff_eq.2 e.symm
      have HR:Hid (plainK (bl s)=8):=by
       have hx:plainK (bl s)=8:=by rw [e];rfl
       exact hx
      clear e
      go_wp2
      go_ret
      exact ⟨by rw [HR.out];rfl,hb.alloc (by omega) _⟩
    · have tt:(([42]:List UInt8)==s.toList)=false:=by rw [ByteArray.toList_eq];exact beq_eq_false_iff_ne.2 (fun h=>e h.symm)
      have HE:Hid _:=e
      clear e
      go_wp2
      go_roundw
      case rel =>
       refine ⟨4,rfl,by omega,hb.alloc (by omega) _,fun j hj=>?_⟩
       by_cases ej:j=3
       · subst ej;intro h;injection h with h;exact HE.out h.symm
       · exact HNo.out j (by omega)
      case measure=>simp [intOf]
  · by_cases e:bl s=[60]
    · have tt:(([60]:List UInt8)==s.toList)=true:=by rw [ByteArray.toList_eq];exact beq_iff_eq.2 e.symm
      have HR:Hid (plainK (bl s)=9):=by
       have hx:plainK (bl s)=9:=by rw [e];rfl
       exact hx
      clear e
      go_wp2
      go_ret
      exact ⟨by rw [HR.out];rfl,hb.alloc (by omega) _⟩
    · have tt:(([60]:List UInt8)==s.toList)=false:=by rw [ByteArray.toList_eq];exact beq_eq_false_iff_ne.2 (fun h=>e h.symm)
      have HE:Hid _:=e
      clear e
      go_wp2
      go_roundw
      case rel =>
       refine ⟨5,rfl,by omega,hb.alloc (by omega) _,fun j hj=>?_⟩
       by_cases ej:j=4
       · subst ej;intro h;injection h with h;exact HE.out h.symm
       · exact HNo.out j (by omega)
      case measure=>simp [intOf]
  · by_cases e:bl s=[61]
    · have tt:(([61]:List UInt8)==s.toList)=true:=by rw [ByteArray.toList_eq];exact beq_iff_eq.2 e.symm
      have HR:Hid (plainK (bl s)=10):=by
       have hx:plainK (bl s)=10:=by rw [e];rfl
       exact hx
      clear e
      go_wp2
      go_ret
      exact ⟨by rw [HR.out];rfl,hb.alloc (by omega) _⟩
    · have tt:(([61]:List UInt8)==s.toList)=false:=by rw [ByteArray.toList_eq];exact beq_eq_false_iff_ne.2 (fun h=>e h.symm)
      have HE:Hid _:=e
      clear e
      go_wp2
      go_roundw
      case rel =>
       refine ⟨6,rfl,by omega,hb.alloc (by omega) _,fun j hj=>?_⟩
       by_cases ej:j=5
       · subst ej;intro h;injection h with h;exact HE.out h.symm
       · exact HNo.out j (by omega)
      case measure=>simp [intOf]
  · by_cases e:bl s=[112,111,112]
    · have tt:(([112,111,112]:List UInt8)==s.toList)=true:=by rw [ByteArray.toList_eq];exact beq_iff_eq.2 e.symm
      have HR:Hid (plainK (bl s)=11):=by
       have hx:plainK (bl s)=11:=by rw [e];rfl
       exact hx
      clear e
      go_wp2
      go_ret
      exact ⟨by rw [HR.out];rfl,hb.alloc (by omega) _⟩
    · have tt:(([112,111,112]:List UInt8)==s.toList)=false:=by rw [ByteArray.toList_eq];exact beq_eq_false_iff_ne.2 (fun h=>e h.symm)
      have HE:Hid _:=e
      clear e
      go_wp2
      go_roundw
      case rel =>
       refine ⟨7,rfl,by omega,hb.alloc (by omega) _,fun j hj=>?_⟩
       by_cases ej:j=6
       · subst ej;intro h;injection h with h;exact HE.out h.symm
       · exact HNo.out j (by omega)
      case measure=>simp [intOf]
  · by_cases e:bl s=[100,117,112]
    · have tt:(([100,117,112]:List UInt8)==s.toList)=true:=by rw [ByteArray.toList_eq];exact beq_iff_eq.2 e.symm
      have HR:Hid (plainK (bl s)=12):=by
       have hx:plainK (bl s)=12:=by rw [e];rfl
       exact hx
      clear e
      go_wp2
      go_ret
      exact ⟨by rw [HR.out];rfl,hb.alloc (by omega) _⟩
    · have tt:(([100,117,112]:List UInt8)==s.toList)=false:=by rw [ByteArray.toList_eq];exact beq_eq_false_iff_ne.2 (fun h=>e h.symm)
      have HE:Hid _:=e
      clear e
      go_wp2
      go_roundw
      case rel =>
       refine ⟨8,rfl,by omega,hb.alloc (by omega) _,fun j hj=>?_⟩
       by_cases ej:j=7
       · subst ej;intro h;injection h with h;exact HE.out h.symm
       · exact HNo.out j (by omega)
      case measure=>simp [intOf]
  · by_cases e:bl s=[114,101,116]
    · have tt:(([114,101,116]:List UInt8)==s.toList)=true:=by rw [ByteArray.toList_eq];exact beq_iff_eq.2 e.symm
      have HR:Hid (plainK (bl s)=22):=by
       have hx:plainK (bl s)=22:=by rw [e];rfl
       exact hx
      clear e
      go_wp2
      go_ret
      exact ⟨by rw [HR.out];rfl,hb.alloc (by omega) _⟩
    · have tt:(([114,101,116]:List UInt8)==s.toList)=false:=by rw [ByteArray.toList_eq];exact beq_eq_false_iff_ne.2 (fun h=>e h.symm)
      have HE:Hid _:=e
      clear e
      go_wp2
      go_roundw
      case rel =>
       refine ⟨9,rfl,by omega,hb.alloc (by omega) _,fun j hj=>?_⟩
       by_cases ej:j=8
       · subst ej;intro h;injection h with h;exact HE.out h.symm
       · exact HNo.out j (by omega)
      case measure=>simp [intOf]
  · have HR:Hid (plainK (bl s)=0):=by
     have hx:plainK (bl s)=0:=plainK_none (bl s) HNo.out
     exact hx
    go_wp2
    go_ret
    exact ⟨by rw [HR.out];rfl,hb⟩
end Go.Proofs.YtkghmgoefiepeaaGreatDoor.reads
