import Derived.StillTailTactics
import Derived.Deep.RegionWith
import Derived.Deep.RegionHeld3
import Derived.Deep.DrawnRows
import Derived.Deep.LoopGhost
import Derived.Test.YtkghmgoefiepeaaGreatDoorQ0
import Derived.Test.YtkghmgoefiepeaaGreatDoorQ1
import Derived.Test.YtkghmgoefiepeaaGreatDoorQ2
import Derived.Test.YtkghmgoefiepeaaGreatDoorQ9
set_option linter.unusedSimpArgs false
set_option linter.unusedVariables false
set_option maxHeartbeats 4000000
set_option maxRecDepth 100000
namespace Go.Proofs.YtkghmgoefiepeaaGreatDoor.reads
open Go.ChangeShapes Go.WideShapes Go.ChangeAt Go.RowKit Kn
theorem plain_kinds (l:List UInt8):kindOf (kPlain l)=plainK l:=by
 unfold kPlain rdPlain plainK
 by_cases h1:l=[115,101,108,102]
 · simp [h1,kindOf]
 · by_cases h2:l=[112,111,112]
   · simp [h2,kindOf]
   · by_cases h3:l=[100,117,112]
     · simp [h3,kindOf]
     · by_cases h4:l=[114,101,116]
       · simp [h4,kindOf]
       · by_cases h5:l=[43]
         · simp [h5,kindOf]
         · by_cases h6:l=[45]
           · simp [h6,kindOf]
           · by_cases h7:l=[42]
             · simp [h7,kindOf]
             · by_cases h8:l=[60]
               · simp [h8,kindOf]
               · by_cases h9:l=[61]
                 · simp [h9,kindOf]
                 · simp [h1,h2,h3,h4,h5,h6,h7,h8,h9,kindOf]
theorem first_at (s:ByteArray) (i:Nat) (hlt:i < s.size):first ((bl s).drop i)=s[i].toNat:=by
 have e:(bl s).drop i=s[i]::(bl s).drop (i+1):=by
  rw [List.drop_eq_getElem_cons (by rw [bl_length];exact hlt)];rfl
 rw [e];rfl
theorem kw_at (s:ByteArray) (i:Nat) (hlt:i < s.size):kw ((bl s).drop i) =
 if s[i].toNat=45 then (if atEndB (bl s) (i+1)=true then some (⟨45,0,[],[],[]⟩,1) else (kNum 110 isDig 4 1 ((bl s).drop (i+1))).map negW)
 else if s[i].toNat=61 then (if (bl s)[i+1]?=some 115 then kNum 112 isDig 1 2 ((bl s).drop (i+1+1)) else some (⟨61,0,[],[],[]⟩,1))
 else if s[i].toNat=94 then kSend 94 1 ((bl s).drop (i+1))
 else if s[i].toNat=62 then kNum 62 isDig 2 1 ((bl s).drop (i+1))
 else if s[i].toNat=63 then kNum 63 isDig 2 1 ((bl s).drop (i+1))
 else if s[i].toNat=43∨s[i].toNat=42∨s[i].toNat=60 then some (⟨s[i].toNat,0,[],[],[]⟩,1)
 else if spanL isSmall 6 ((bl s).drop i)=[] then kNum 110 isDig 4 0 ((bl s).drop i)
 else if (bl s)[i+(spanL isSmall 6 ((bl s).drop i)).length]?=some 58 then kClass (kHead (spanL isSmall 6 ((bl s).drop i))) ((spanL isSmall 6 ((bl s).drop i)).length+1) ((bl s).drop (i+(spanL isSmall 6 ((bl s).drop i)).length+1))
 else if (bl s)[i+(spanL isSmall 6 ((bl s).drop i)).length]?=some 47 then kSend 115 0 ((bl s).drop i)
 else if spanL isSmall 6 ((bl s).drop i)=[97] then kNum 97 isD2 1 1 ((bl s).drop (i+1))
 else if spanL isSmall 6 ((bl s).drop i)=[115] then kNum 103 isDig 1 1 ((bl s).drop (i+1))
 else if kPlain (spanL isSmall 6 ((bl s).drop i))=0 then none else some (⟨kPlain (spanL isSmall 6 ((bl s).drop i)),0,[],[],[]⟩,(spanL isSmall 6 ((bl s).drop i)).length):=by
 have g1:∀ n,((bl s).drop i)[n]?=(bl s)[i+n]?:=fun n=>List.getElem?_drop
 have g2:∀ n,((bl s).drop i).drop n=(bl s).drop (i+n):=fun n=>List.drop_drop
 have g3:(((bl s).drop i).length=1∨((bl s).drop i)[1]?=some 32) ↔ atEndB (bl s) (i+1)=true:=by
  rw [g1,List.length_drop,bl_length]
  unfold atEndB
  rw [bl_length]
  simp only [Bool.or_eq_true,decide_eq_true_eq]
  constructor
  · rintro (h | h)
    · exact .inl (by omega)
    · exact .inr h
  · rintro (h | h)
    · exact .inl (by omega)
    · exact .inr h
 unfold kw
 rw [first_at s i hlt]
 simp only [g3]
 rw [g2 1,g2 2,g1 1,g2 _,g1 _]
 rfl
theorem word_any (b:Nat) (s:ByteArray) (i:Nat) (w:World) (hs:s.size≤140737488355328) (hlt:i < s.size) (hg1:2 < b) (hg2:1 < b) (hT1:HasPlains w) (hT2:HasHeads w) (h:RdAt w b s i) :
 Calls Tryz.prog 76 #[.pointer (some ⟨b,0,none⟩)] w fun e w'=>e=.returned (encK (kw ((bl s).drop i)))∧Got w w' b s i (kw ((bl s).drop i)):=by
 rw [kw_at s i hlt]
 by_cases h45:s[i].toNat=45
 · rw [if_pos h45]
   by_cases he:atEndB (bl s) (i+1)=true
   · rw [if_pos he]
     exact got_some rfl rfl (by omega) rfl (word_minus b s i w hs hlt hg1 hg2 hT1 hT2 h45 he h)
   · rw [if_neg he]
     exact word_negative b s i _ w hs hlt hg1 hg2 hT1 hT2 h45 (by simpa using he) rfl h
 rw [if_neg h45]
 by_cases h61:s[i].toNat=61
 · rw [if_pos h61]
   rcases at_case s (i+1) 115 with ⟨hlt1,h115,hd⟩ | ⟨h115,hd⟩
   · rw [if_pos hd]
     exact word_store b s i _ w hs hlt hg1 hg2 hT1 hT2 h61 hlt1 h115 rfl h
   · rw [if_neg hd]
     exact got_some rfl rfl (by omega) rfl (word_equals b s i w hs hlt hg1 hg2 hT1 hT2 h61 h115 h)
 rw [if_neg h61]
 by_cases h94:s[i].toNat=94
 · rw [if_pos h94]
   exact word_above b s i _ w hs hlt hg1 hg2 hT1 hT2 h94 rfl h
 rw [if_neg h94]
 by_cases h62:s[i].toNat=62
 · rw [if_pos h62]
   exact word_go b s i _ w hs hlt hg1 hg2 hT1 hT2 h62 rfl h
 rw [if_neg h62]
 by_cases h63:s[i].toNat=63
 · rw [if_pos h63]
   exact word_goz b s i _ w hs hlt hg1 hg2 hT1 hT2 h63 rfl h
 rw [if_neg h63]
 by_cases hp:s[i].toNat=43∨s[i].toNat=42∨s[i].toNat=60
 · rw [if_pos hp]
   rcases hp with hp | hp | hp
   · exact got_some rfl (by rw [hp];rfl) (by omega) rfl (word_plus b s i w hs hlt hg1 hg2 hT1 hT2 hp h)
   · exact got_some rfl (by rw [hp];rfl) (by omega) rfl (word_star b s i w hs hlt hg1 hg2 hT1 hT2 hp h)
   · exact got_some rfl (by rw [hp];rfl) (by omega) rfl (word_less b s i w hs hlt hg1 hg2 hT1 hT2 hp h)
 rw [if_neg hp]
 have hno:s[i].toNat≠45∧s[i].toNat≠61∧s[i].toNat≠94∧s[i].toNat≠62∧s[i].toNat≠63∧s[i].toNat≠43∧s[i].toNat≠42∧s[i].toNat≠60 :=
  ⟨h45,h61,h94,h62,h63,fun e=>hp (.inl e),fun e=>hp (.inr (.inl e)),fun e=>hp (.inr (.inr e))⟩
 obtain ⟨lt,hl⟩:∃ lt,spanL isSmall 6 ((bl s).drop i)=lt:=⟨_,rfl⟩
 rw [hl]
 by_cases hle:lt=[]
 · subst hle
   rw [if_pos rfl]
   exact word_number b s i _ w hs hlt hg1 hg2 hT1 hT2 hno hl rfl h
 rw [if_neg hle]
 have hok:=span_ok hl hle
 rcases at_case s (i+lt.length) 58 with ⟨hlt1,h58,hd⟩ | ⟨h58,hd⟩
 · rw [if_pos hd]
   exact word_class b s i lt _ w hs hlt hg1 hg2 hT1 hT2 hno hl hle hlt1 h58 rfl h
 rw [if_neg hd]
 rcases at_case s (i+lt.length) 47 with ⟨hlt1,h47,hd⟩ | ⟨h47,hd⟩
 · rw [if_pos hd]
   exact word_send b s i lt _ w hs hlt hg1 hg2 hT1 hT2 hno hl hle h58 hlt1 h47 rfl h
 rw [if_neg hd]
 by_cases ha:lt=[97]
 · rw [if_pos ha]
   subst ha
   exact word_arg b s i _ w hs hlt hg1 hg2 hT1 hT2 hno hl h58 h47 rfl h
 rw [if_neg ha]
 by_cases hs2:lt=[115]
 · rw [if_pos hs2]
   subst hs2
   exact word_slot b s i _ w hs hlt hg1 hg2 hT1 hT2 hno hl h58 h47 rfl h
 rw [if_neg hs2]
 have hk:=plain_kinds lt
 by_cases hz:kPlain lt=0
 · rw [if_pos hz]
   rw [hz] at hk
   refine got_none rfl ?_
   refine (word_plain b s i lt 0 w hs hlt hg1 hg2 hT1 hT2 hno hl hle h58 h47 ha hs2 hk.symm h).mono ?_
   rintro e w' ⟨rfl,ht⟩
   exact ⟨rfl,_,hok,ht⟩
 · rw [if_neg hz]
   exact got_some rfl (by show _=Value.agg #[.int .i64 (kindOf (kPlain lt):Nat),_,_,_,_,.pointer none];rw [hk]) hok rfl (word_plain b s i lt (plainK lt) w hs hlt hg1 hg2 hT1 hT2 hno hl hle h58 h47 ha hs2 rfl h)
variable {w : World}
theorem own_len {B:Nat}{e:TypeId}{size n:Nat}{v:Value}{xs:List Value} (h:w.ownsRow B e size v n xs):∃ p cap,v=.slice p n cap:=by
 rcases h.2 with ⟨rfl,rfl⟩ | ⟨g,cap,cur,rfl,_⟩
 · exact ⟨none,0,rfl⟩
 · exact ⟨_,_,rfl⟩
variable {w' : World}
theorem below_grown (h:Below w.heap.size w w') (row:Option Nat):w.grownBy w' row:=⟨h.os,h.tape,h.output,h.size,fun k hk _=>h.block k hk⟩
theorem own_below {B:Nat}{e:TypeId}{size n:Nat}{v:Value}{xs:List Value} (h:w.ownsRow B e size v n xs) (hb:Below w.heap.size w w'):w'.ownsRow B e size v n xs :=
 h.kept (below_grown hb none) (by cases v.ownBlock <;> simp)
def kcellsWs (l:List (Kn.W×Nat)):List Value:=l.flatMap fun p=>kcells p.1
def startsOf (l:List (Kn.W×Nat)):List Value:=l.map fun p=>.int .i64 (p.2:Nat)
theorem kcellsWs_snoc (l:List (Kn.W×Nat)) (p:W×Nat):kcellsWs (l++[p])=kcellsWs l++kcells p.1:=by simp [kcellsWs]
theorem startsOf_snoc (l:List (Kn.W×Nat)) (p:W×Nat):startsOf (l++[p])=startsOf l++[.int .i64 (p.2:Nat)]:=by simp [startsOf]
theorem kcells_one (x:W):∀ u∈kcells x,u.oneCell'=true:=by
 intro u hu
 simp only [kcells,List.mem_cons,List.not_mem_nil,or_false] at hu
 rcases hu with rfl | rfl | rfl | rfl | rfl | rfl <;> rfl
theorem info_kword:(Tryz.prog.info? 146).map (fun i=>(i.zero,i.size,i.bytes))=some (some (.agg #[.int .i64 0,.int .i64 0,.string ⟨#[]⟩,.string ⟨#[]⟩,.string ⟨#[]⟩,.pointer none]),6,72):=by kernel_rfl
theorem info_int:(Tryz.prog.info? 3).map (fun i=>(i.zero,i.size,i.bytes))=some (some (.int .i64 0),1,8):=by kernel_rfl
structure Rw (w W:World) (s:ByteArray) (j:Nat) (aw as_:List (Kn.W×Nat)) (vw vs:Value):Prop where
 rd:RdAt W w.heap.size s j
 hu:∃ y0 y1 y2 y3 y4,ZAt W (w.heap.size+1) y0 y1 y2 y3 y4
 ow:W.ownsRow (w.heap.size+2) 146 6 vw aw.length (kcellsWs aw)
 os:W.ownsRow (w.heap.size+2) 3 1 vs as_.length (startsOf as_)
 ne:vw.ownBlock=none∨vs.ownBlock=none∨vw.ownBlock≠vs.ownBlock
 below:Below w.heap.size w W
theorem own_ne {W:World}{B k:Nat}{e:TypeId}{size n:Nat}{v:Value}{xs:List Value} (h:W.ownsRow B e size v n xs) (hk:k < B):v.ownBlock=none∨v.ownBlock≠some k:=by
 cases hv:v.ownBlock with
 | none=>exact .inl rfl
 | some g=>exact .inr (fun e=>by injection e with e;have:=(h.lt g hv).1;omega)
theorem own_mono {W:World}{B B':Nat}{e:TypeId}{size n:Nat}{v:Value}{xs:List Value} (h:W.ownsRow B e size v n xs) (hB:B'≤B):W.ownsRow B' e size v n xs:=by
 refine ⟨h.1,?_⟩
 rcases h.2 with h2 | ⟨g,cap,cur,h1,h2,h3⟩
 · exact .inl h2
 · exact .inr ⟨g,cap,cur,h1,Nat.le_trans hB h2,h3⟩
theorem Rw.to {w W W':World}{s:ByteArray}{j j':Nat}{aw as_:List (Kn.W×Nat)}{vw vs:Value} (h:Rw w W s j aw as_ vw vs) (t:RTo W W' w.heap.size s j'):Rw w W' s j' aw as_ vw vs:=by
 obtain ⟨y0,y1,y2,y3,y4,hy⟩:=h.hu
 exact ⟨t.rd,⟨_,_,_,_,_,hy.to t (by omega)⟩,h.ow.kept t.grown (own_ne h.ow (by omega)),h.os.kept t.grown (own_ne h.os (by omega)),h.ne,h.below.grown t.grown h.below.size (fun k hk=>by injection hk with hk;omega)⟩
theorem grown_set5 (W:World) (u:Nat) (y0 y1 y2 y3 y4:Value):W.grownBy ((((((W.setCell ⟨u,0,none⟩ y0).setCell ⟨u,1,none⟩ y1).setCell ⟨u,2,none⟩ y2).setCell ⟨u,3,none⟩ y3).setCell ⟨u,4,none⟩ y4).setCell ⟨u,5,none⟩ (.pointer none)) (some u) :=
 (((((grown_set W ⟨u,0,none⟩ y0).trans (grown_set _ ⟨u,1,none⟩ y1)).trans (grown_set _ ⟨u,2,none⟩ y2)).trans (grown_set _ ⟨u,3,none⟩ y3)).trans (grown_set _ ⟨u,4,none⟩ y4)).trans (grown_set _ ⟨u,5,none⟩ _)
theorem Rw.setU {w W:World}{s:ByteArray}{j:Nat}{aw as_:List (Kn.W×Nat)}{vw vs:Value} (h:Rw w W s j aw as_ vw vs) (y0 y1 y2 y3 y4:Value) :
 Rw w ((((((W.setCell ⟨w.heap.size+1,0,none⟩ y0).setCell ⟨w.heap.size+1,1,none⟩ y1).setCell ⟨w.heap.size+1,2,none⟩ y2).setCell ⟨w.heap.size+1,3,none⟩ y3).setCell ⟨w.heap.size+1,4,none⟩ y4).setCell ⟨w.heap.size+1,5,none⟩ (.pointer none)) s j aw as_ vw vs ∧
 ZAt ((((((W.setCell ⟨w.heap.size+1,0,none⟩ y0).setCell ⟨w.heap.size+1,1,none⟩ y1).setCell ⟨w.heap.size+1,2,none⟩ y2).setCell ⟨w.heap.size+1,3,none⟩ y3).setCell ⟨w.heap.size+1,4,none⟩ y4).setCell ⟨w.heap.size+1,5,none⟩ (.pointer none)) (w.heap.size+1) y0 y1 y2 y3 y4:=by
 obtain ⟨z0,z1,z2,z3,z4,hz⟩:=h.hu
 have hg:=grown_set5 W (w.heap.size+1) y0 y1 y2 y3 y4
 have hz5:=hz.set5 y0 y1 y2 y3 y4
 exact ⟨⟨(hg.block _ h.rd.lt (fun e=>by injection e with e;omega)).trans h.rd,⟨_,_,_,_,_,hz5⟩,h.ow.kept hg (own_ne h.ow (by omega)),h.os.kept hg (own_ne h.os (by omega)),h.ne,h.below.grown hg h.below.size (fun k hk=>by injection hk with hk;omega)⟩,hz5⟩
theorem Rw.pushW {w W W':World}{s:ByteArray}{j:Nat}{aw as_:List (Kn.W×Nat)}{vw vs v':Value}{o:Obj}{x:Kn.W×Nat} (h:Rw w W s j aw as_ vw vs) (hown:W'.ownsRow (w.heap.size+2) 146 6 v' (aw.length+1) (kcellsWs aw++kcells x.1))
 (hg:(W.alloc o).grownBy W' vw.ownBlock) (hb:v'.ownBlock=vw.ownBlock∨v'.ownBlock=some (W.heap.size+1)):Rw w W' s j (aw++[x]) as_ v' vs:=by
 obtain ⟨z0,z1,z2,z3,z4,hz⟩:=h.hu
 have hlow:∀ k,k < w.heap.size+2→k < W.heap.size→W'.heap[k]?=W.heap[k]?:=fun k hk hlt =>
  (hg.block k (by simp;omega) (fun e=>by have:=(h.ow.lt k e.symm).1;omega)).trans (Below.heap_alloc W o k hlt)
 have hos:W'.ownsRow (w.heap.size+2) 3 1 vs as_.length (startsOf as_):=(h.os.alloc o).kept hg (by
  rcases h.ne with e | e | e
  · cases hv:vs.ownBlock with
    | none=>exact .inl rfl
    | some g=>rw [e];exact .inr (by simp)
  · exact .inl e
  · exact .inr (fun e'=>e e'.symm))
 refine ⟨(hlow _ (by omega) h.rd.lt).trans h.rd,⟨_,_,_,_,_,(hlow _ (by omega) hz.lt).trans hz⟩,by rw [kcellsWs_snoc,List.length_append];exact hown,hos,?_,?_⟩
 · rcases hb with e | e
   · rw [e];exact h.ne
   · cases hv:vs.ownBlock with
     | none=>exact .inr (.inl rfl)
     | some g =>
      have:=(h.os.lt g hv).2
      refine .inr (.inr ?_)
      rw [e]
      intro e'
      injection e' with e'
      omega
 · exact push_below h.below (Nat.le_refl _) (own_mono h.ow (by omega)) hg
theorem Rw.pushS {w W W':World}{s:ByteArray}{j:Nat}{aw as_:List (Kn.W×Nat)}{vw vs v':Value}{o:Obj}{x:Kn.W×Nat} (h:Rw w W s j aw as_ vw vs) (hown:W'.ownsRow (w.heap.size+2) 3 1 v' (as_.length+1) (startsOf as_++[.int .i64 (x.2:Nat)]))
 (hg:(W.alloc o).grownBy W' vs.ownBlock) (hb:v'.ownBlock=vs.ownBlock∨v'.ownBlock=some (W.heap.size+1)):Rw w W' s j aw (as_++[x]) vw v':=by
 obtain ⟨z0,z1,z2,z3,z4,hz⟩:=h.hu
 have hlow:∀ k,k < w.heap.size+2→k < W.heap.size→W'.heap[k]?=W.heap[k]?:=fun k hk hlt =>
  (hg.block k (by simp;omega) (fun e=>by have:=(h.os.lt k e.symm).1;omega)).trans (Below.heap_alloc W o k hlt)
 have how:W'.ownsRow (w.heap.size+2) 146 6 vw aw.length (kcellsWs aw):=(h.ow.alloc o).kept hg (by
  rcases h.ne with e | e | e
  · exact .inl e
  · cases hv:vw.ownBlock with
    | none=>exact .inl rfl
    | some g=>rw [e];exact .inr (by simp)
  · exact .inr e)
 refine ⟨(hlow _ (by omega) h.rd.lt).trans h.rd,⟨_,_,_,_,_,(hlow _ (by omega) hz.lt).trans hz⟩,how,by rw [startsOf_snoc,List.length_append];exact hown,?_,?_⟩
 · rcases hb with e | e
   · rw [e];exact h.ne
   · cases hv:vw.ownBlock with
     | none=>exact .inl rfl
     | some g =>
      have:=(h.ow.lt g hv).2
      refine .inr (.inr ?_)
      rw [e]
      intro e'
      injection e' with e'
      omega
 · exact push_below h.below (Nat.le_refl _) (own_mono h.os (by omega)) hg
def RWJ (s:ByteArray) (w:World) (n l:Nat) (a:Act) (W:World):Prop :=
 (l=0∧∃ (j:Nat) (acc:List (Kn.W×Nat)) (vw vs x7 x10 x11 x12 x13 x14 x15 x16 x17 x18 x19 x20 x21 x22 x23 x24 x25 x26 x27 x28 x29 x30 x31 x32 x33 x34 x35 x36 x37 x38 x39:Value),a={ tmps:=#[.string s,undef,vw,vs,.int .i64 0,.pointer (some ⟨w.heap.size,0,none⟩),.pointer (some ⟨w.heap.size+1,0,none⟩),x7,.string s,.agg #[.string s,.int .i64 0],x10,x11,x12,x13,x14,x15,x16,x17,x18,x19,x20,x21,x22,x23,x24,x25,x26,x27,x28,x29,x30,x31,x32,x33,x34,x35,x36,x37,x38,x39],defers:=[] }∧j≤s.size∧n=s.size - j+1∧WordsTo (bl s) j acc∧Rw w W s j acc acc vw vs) ∨
 (l=1∧∃ (j:Nat) (vw vs x10 x11 x12 x13 x14 x15 x16 x17 x18 x19 x20 x21 x22 x23 x24 x25 x26 x27 x28 x29 x30 x31 x32 x33 x34 x35 x36 x37 x38 x39:Value),a={ tmps:=#[.string s,undef,vw,vs,.int .i64 0,.pointer (some ⟨w.heap.size,0,none⟩),.pointer (some ⟨w.heap.size+1,0,none⟩),.int .i64 (j:Nat),.string s,.agg #[.string s,.int .i64 0],x10,x11,x12,x13,x14,x15,x16,x17,x18,x19,x20,x21,x22,x23,x24,x25,x26,x27,x28,x29,x30,x31,x32,x33,x34,x35,x36,x37,x38,x39],defers:=[] }∧n=0∧wordsAll (bl s)=([],(j:Int))∧Below w.heap.size w W)
theorem rwj_zero {s:ByteArray}{w W:World}{j:Nat}{acc:List (Kn.W×Nat)}{vw vs x7 x10 x11 x12 x13 x14 x15 x16 x17 x18 x19 x20 x21 x22 x23 x24 x25 x26 x27 x28 x29 x30 x31 x32 x33 x34 x35 x36 x37 x38 x39:Value} (hj:j≤s.size) (hw:WordsTo (bl s) j acc) (h:Rw w W s j acc acc vw vs):RWJ s w (s.size - j+1) 0 { tmps:=#[.string s,undef,vw,vs,.int .i64 0,.pointer (some ⟨w.heap.size,0,none⟩),.pointer (some ⟨w.heap.size+1,0,none⟩),x7,.string s,.agg #[.string s,.int .i64 0],x10,x11,x12,x13,x14,x15,x16,x17,x18,x19,x20,x21,x22,x23,x24,x25,x26,x27,x28,x29,x30,x31,x32,x33,x34,x35,x36,x37,x38,x39],defers:=[] } W :=
 .inl ⟨rfl,j,acc,vw,vs,x7,x10,x11,x12,x13,x14,x15,x16,x17,x18,x19,x20,x21,x22,x23,x24,x25,x26,x27,x28,x29,x30,x31,x32,x33,x34,x35,x36,x37,x38,x39,rfl,hj,rfl,hw,h⟩
theorem rwj_one {s:ByteArray}{w W:World}{j:Nat}{vw vs x10 x11 x12 x13 x14 x15 x16 x17 x18 x19 x20 x21 x22 x23 x24 x25 x26 x27 x28 x29 x30 x31 x32 x33 x34 x35 x36 x37 x38 x39:Value} (hz:wordsAll (bl s)=([],(j:Int))) (h:Below w.heap.size w W):RWJ s w 0 1 { tmps:=#[.string s,undef,vw,vs,.int .i64 0,.pointer (some ⟨w.heap.size,0,none⟩),.pointer (some ⟨w.heap.size+1,0,none⟩),.int .i64 (j:Nat),.string s,.agg #[.string s,.int .i64 0],x10,x11,x12,x13,x14,x15,x16,x17,x18,x19,x20,x21,x22,x23,x24,x25,x26,x27,x28,x29,x30,x31,x32,x33,x34,x35,x36,x37,x38,x39],defers:=[] } W :=
 .inr ⟨rfl,j,vw,vs,x10,x11,x12,x13,x14,x15,x16,x17,x18,x19,x20,x21,x22,x23,x24,x25,x26,x27,x28,x29,x30,x31,x32,x33,x34,x35,x36,x37,x38,x39,rfl,rfl,hz,h⟩
theorem rw_start {s:ByteArray}{y0 y1 y2 y3 y4:Value}:Rw w ((w.alloc (.cells #[.string s,.int .i64 0] 135)).alloc (.cells #[y0,y1,y2,y3,y4,.pointer none] 146)) s 0 [] [] (.slice none 0 0) (.slice none 0 0) :=
 have e:(w.alloc (.cells #[.string s,.int .i64 0] 135)).heap.size=w.heap.size+1:=World.size_alloc w _
 ⟨(rd_new_at w s).alloc _,⟨_,_,_,_,_,e ▸ zat_new _ y0 y1 y2 y3 y4⟩,World.ownsRow_nil _ _ _ _,World.ownsRow_nil _ _ _ _,.inl rfl,((Below.refl _ _).alloc (Nat.le_refl _) _).alloc (by simp) _⟩
theorem kind_pos {x:W} (h:Fine0 x):kindOf x.k≠0:=by
 have hk:=h.kind
 unfold kinds at hk
 simp only [List.mem_cons,List.not_mem_nil,or_false] at hk
 rcases hk with e | e | e | e | e | e | e | e | e | e | e | e | e | e | e | e | e | e | e | e | e | e <;> rw [e] <;> decide
theorem atEnd_iff {l:List UInt8}{j n:Nat} (hn:n≤(l.drop j).length) (hj:j≤l.length):(n=(l.drop j).length∨(l.drop j)[n]?=some 32) ↔ atEndB l (j+n)=true:=by
 rw [List.length_drop] at hn ⊢
 rw [List.getElem?_drop]
 unfold atEndB
 simp only [Bool.or_eq_true,decide_eq_true_eq]
 constructor
 · rintro (h | h)
   · exact .inl (by omega)
   · exact .inr h
 · rintro (h | h)
   · exact .inl (by omega)
   · exact .inr h
theorem readWords_any (s:ByteArray) (w:World) (hs:s.size≤120) (hg1:2 < w.heap.size) (hg2:1 < w.heap.size) (hT1:HasPlains w) (hT2:HasHeads w) :
 Calls Tryz.prog 40 #[.string s] w fun e w'=>∃ vw vs:Value,e=.returned (.tuple #[vw,vs,.int .i64 (wordsAll (bl s)).2]) ∧
  ((wordsAll (bl s)).2=-1→w'.ownsRow w.heap.size 146 6 vw (wordsAll (bl s)).1.length (kcellsWs (wordsAll (bl s)).1)∧w'.ownsRow w.heap.size 3 1 vs (wordsAll (bl s)).1.length (startsOf (wordsAll (bl s)).1))∧Below w.heap.size w w':=by
 obtain ⟨i0,hi,hz0,hz1,hz2⟩:=info_parts info_kword
 obtain ⟨i1,hj,hy0,hy1,hy2⟩:=info_parts info_int
 have P1:Hid (HasPlains w):=hT1
 have P2:Hid (HasHeads w):=hT2
 have hs2:s.size≤140737488355328:=by omega
 clear hT1 hT2
 go_enter Tryz.func40,Tryz.ntmps40
 go_wp2
 refine wp_scope_from (RWJ s w) ?_ ?_
 · intro n0 l a W hJ G HR HG
   rcases hJ with ⟨rfl,j,acc,vw,vs,x7,x10,x11,x12,x13,x14,x15,x16,x17,x18,x19,x20,x21,x22,x23,x24,x25,x26,x27,x28,x29,x30,x31,x32,x33,x34,x35,x36,x37,x38,x39,rfl,hjs,rfl,hwt,hrw⟩ | ⟨rfl,j,vw,vs,x10,x11,x12,x13,x14,x15,x16,x17,x18,x19,x20,x21,x22,x23,x24,x25,x26,x27,x28,x29,x30,x31,x32,x33,x34,x35,x36,x37,x38,x39,rfl,rfl,hz,hb⟩
   · refine ⟨_,rfl,?_⟩
     have HRw:Hid _:=hrw
     have HW:Hid (WordsTo (bl s) j acc):=hwt
     clear hrw hwt
     go_wp2_with fail
     by_cases hlt:j < s.size
     · have hg:=bl_getD s j hlt
       have hdn:(bl s).drop j≠[]:=by intro e;have:=congrArg List.length e;rw [List.length_drop,bl_length] at this;simp at this;omega
       by_cases h32:s[j].toNat=32
       · have HB:Hid ((bl s)[j]?.getD 0=32):=by
          have hx:(bl s)[j]?.getD 0=32:=by rw [hg];exact UInt8.toNat_inj.1 (by rw [h32];rfl)
          exact hx
         refine (take_yes w.heap.size s j 32 _ hs2 hlt h32 HRw.out.rd).mono ?_
         rintro e W1 ⟨rfl,hto⟩
         have H1:Hid (Rw w W1 s (j+1) acc acc vw vs):=HRw.out.to hto
         have HN:Hid (WordsTo (bl s) (j+1) acc):=wordsTo_blank HW.out (by rw [bl_length];exact hlt) HB.out
         clear hto hg h32 hdn
         go_wp2
         go_step3
         simp only [Exit.then]
         exact HG.out (s.size - (j+1)+1) 0 _ _ (by omega) (rwj_zero (by omega) HN.out H1.out)
       · have HB:Hid (¬ (bl s)[j]?.getD 0=32):=by
          have hx:¬ (bl s)[j]?.getD 0=32:=by rw [hg];intro e;exact h32 (by rw [e];rfl)
          exact hx
         have HD:Hid ((bl s).drop j≠[]):=hdn
         refine (take_no w.heap.size s j 32 _ hs2 (by omega) (fun _=>h32) HRw.out.rd).mono ?_
         rintro e W1 ⟨rfl,hto⟩
         have H1:Hid (Rw w W1 s j acc acc vw vs):=HRw.out.to hto
         have d1:=H1.out.rd.c1
         obtain ⟨p,cap,rfl⟩:=own_len H1.out.ow
         have tne:((j:Int)==s.size)=false:=by simp;omega
         clear hto hg h32 hdn
         by_cases h40:acc.length=40
         · have HZ:Hid (wordsAll (bl s)=([],(j:Int))):=wordsTo_full HW.out (by rw [bl_length];exact hlt) HB.out h40
           have t40:((acc.length:Int)==40)=true:=by simp;omega
           clear h40
           go_wp2
           go_step3
           simp only [Exit.then]
           exact HG.out 0 1 _ _ (by omega) (rwj_one HZ.out H1.out.below)
         · have t40:((acc.length:Int)==40)=false:=by simp;omega
           have H40:Hid _:=h40
           clear h40
           go_wp2_with fail
           refine (word_any w.heap.size s j _ hs2 hlt hg1 hg2 (P1.out.below hg1 H1.out.below) (P2.out.below hg2 H1.out.below) H1.out.rd).mono ?_
           rintro e W2 ⟨rfl,j2,hj2,hto,hjn⟩
           have H2:Hid (Rw w W2 s j2 acc acc (.slice p acc.length cap) vs):=H1.out.to hto
           clear hto d1
           cases hk:kw ((bl s).drop j) with
           | none =>
            have HZ:Hid (wordsAll (bl s)=([],(j:Int))):=wordsTo_bad HW.out (by rw [bl_length];exact hlt) HB.out (tok_none HD.out hk)
            simp only [encK]
            obtain ⟨q0,q1,q2,q3,q4,hz⟩:=H2.out.hu
            have u0:=hz.c0
            have u1:=hz.c1
            have u2:=hz.c2
            have u3:=hz.c3
            have u4:=hz.c4
            have u5:=hz.c5
            have uf:=hz.f
            have HF:Hid _:=H2.out.setU (.int .i64 0) (.int .i64 0) (.string (ofL [])) (.string (ofL [])) (.string (ofL []))
            clear hk hjn hz
            go_wp2
            go_step3
            simp only [Exit.then]
            exact HG.out 0 1 _ _ (by omega) (rwj_one HZ.out HF.out.1.below)
           | some q =>
            obtain ⟨x,n⟩:=q
            obtain rfl:j2=j+n:=hjn x n hk
            have hnl:=kw_le HD.out hk
            have hpos:=kind_pos (kw_fine HD.out hk)
            have tk:(((kindOf x.k:Nat):Int)==0)=false:=by simp;omega
            have HA:Hid ((n=((bl s).drop j).length∨((bl s).drop j)[n]?=some 32) ↔ atEndB (bl s) (j+n)=true):=atEnd_iff hnl (by rw [bl_length];omega)
            have HK:Hid _:=hk
            rw [List.length_drop,bl_length] at hnl
            simp only [encK]
            obtain ⟨q0,q1,q2,q3,q4,hz⟩:=H2.out.hu
            have u0:=hz.c0
            have u1:=hz.c1
            have u2:=hz.c2
            have u3:=hz.c3
            have u4:=hz.c4
            have u5:=hz.c5
            have uf:=hz.f
            have hu9:=H2.out.setU (.int .i64 (kindOf x.k:Nat)) (.int .i64 x.n) (.string (ofL x.a)) (.string (ofL x.sel)) (.string (ofL x.b))
            clear hk hjn hz hpos
            go_upto_region 10 with fail
            revert hu9
            generalize ((((((W2.setCell ⟨w.heap.size+1,0,none⟩ (.int .i64 (kindOf x.k:Nat))).setCell ⟨w.heap.size+1,1,none⟩ (.int .i64 x.n)).setCell ⟨w.heap.size+1,2,none⟩ (.string (ofL x.a))).setCell ⟨w.heap.size+1,3,none⟩ (.string (ofL x.sel))).setCell ⟨w.heap.size+1,4,none⟩ (.string (ofL x.b))).setCell ⟨w.heap.size+1,5,none⟩ (.pointer none))=W3
            rintro ⟨hrw3,hz3⟩
            have H3:Hid _:=hrw3
            have HZ3:Hid (ZAt W3 (w.heap.size+1) (.int .i64 (kindOf x.k:Nat)) (.int .i64 x.n) (.string (ofL x.a)) (.string (ofL x.sel)) (.string (ofL x.b))):=hz3
            clear u0 u1 u2 u3 u4 u5 uf hrw3
            have u0:=hz3.c0
            clear hz3
            go_wp2_with fail
            refine (atEnd_any w.heap.size s (j+n) _ hs2 (by omega) H3.out.rd).mono ?_
            rintro e W4 ⟨rfl,hto⟩
            have H4:Hid (Rw w W4 s (j+n) acc acc (.slice p acc.length cap) vs):=H3.out.to hto
            have hz4:=HZ3.out.to hto (by omega)
            clear hto u0
            cases he:atEndB (bl s) (j+n) with
            | false =>
             have HZ:Hid (wordsAll (bl s)=([],(j:Int))):=wordsTo_bad HW.out (by rw [bl_length];exact hlt) HB.out (tok_bad HD.out HK.out (fun h=>by have:=HA.out.1 h;rw [he] at this;cases this))
             clear he hz4
             go_wp2
             go_step3
             simp only [Exit.then]
             exact HG.out 0 1 _ _ (by omega) (rwj_one HZ.out H4.out.below)
            | true =>
             have hgood:=tok_good HD.out HK.out (HA.out.2 he)
             have HN:Hid (WordsTo (bl s) (j+n) (acc++[(x,j)])):=by
              have hx:=wordsTo_word HW.out (by rw [bl_length];exact hlt) HB.out hgood.1 H40.out
              rw [hgood.2] at hx
              exact hx
             have hn1:1≤n:=by have:=tok_pos (bl s) j (by rw [bl_length];exact hlt) HB.out;omega
             have u0:=hz4.c0
             have u1:=hz4.c1
             have u2:=hz4.c2
             have u3:=hz4.c3
             have u4:=hz4.c4
             have u5:=hz4.c5
             have hnews:=cells_laid W4 (kcells x) 146
             have hal:acc.length≤40:=HW.out.2.2
             have hsz4:w.heap.size+2≤W4.heap.size:=by have:=hz4.lt;omega
             clear he hgood hz4
             go_wp2_with (first
              | (at_builtin;refine wpList_append_own_at _ rfl _ _ 106 rfl (w.heap.size+2) 146 i0 (.agg #[.int .i64 0,.int .i64 0,.string ⟨#[]⟩,.string ⟨#[]⟩,.string ⟨#[]⟩,.pointer none]) 6 72 Tryz.underlying106 hi hz0 hz1 hz2 rfl (by decide) _ _ _ rfl (H4.out.ow.alloc _) ⟨W4.heap.size,0,none⟩ 1 1 (kcells x) rfl rfl hnews (kcells_one _) (by unfold maxLen;omega) (by omega) (by simp only [World.size_alloc];omega) ?_)
              | go_in)
             intro vw2 W5 hown2 hg5 _ hblk
             have H5:Hid (Rw w W5 s (j+n) (acc++[(x,j)]) acc vw2 vs):=H4.out.pushW (x:=(x,j)) hown2 hg5 hblk
             have hsz5:w.heap.size+2≤W5.heap.size:=by have:=hg5.size;simp at this;omega
             have hnews2:=cells_laid W5 [.int .i64 (j:Nat)] 3
             clear hown2 hg5 hblk hnews u0 u1 u2 u3 u4 u5
             go_wp2_with (first
              | (at_builtin;refine wpList_append_own_at _ rfl _ _ 107 rfl (w.heap.size+2) 3 i1 (.int .i64 0) 1 8 Tryz.underlying107 hj hy0 hy1 hy2 rfl (by decide) _ _ _ rfl (H5.out.os.alloc _) ⟨W5.heap.size,0,none⟩ 1 1 [.int .i64 (j:Nat)] rfl rfl hnews2 (by simp [Value.oneCell']) (by unfold maxLen;omega) (by omega) (by simp only [World.size_alloc];omega) ?_)
              | go_in)
             intro vs2 W6 hown3 hg6 _ hblk
             have H6:Hid (Rw w W6 s (j+n) (acc++[(x,j)]) (acc++[(x,j)]) vw2 vs2):=H5.out.pushS (x:=(x,j)) hown3 hg6 hblk
             clear hown3 hg6 hblk hnews2
             go_wp2
             go_step3
             simp only [Exit.then]
             exact HG.out (s.size - (j+n)+1) 0 _ _ (by omega) (rwj_zero (by omega) HN.out H6.out)
     · obtain rfl:j=s.size:=by omega
       refine (take_no w.heap.size s s.size 32 _ hs2 (by omega) (fun h=>absurd h (by omega)) HRw.out.rd).mono ?_
       rintro e W1 ⟨rfl,hto⟩
       have H1:Hid (Rw w W1 s s.size acc acc vw vs):=HRw.out.to hto
       have d1:=H1.out.rd.c1
       have HE:Hid (wordsAll (bl s)=(acc,-1)):=wordsTo_end HW.out (by rw [bl_length];omega)
       clear hto
       go_wp2
       refine HR.out _ _ ?_
       go_ret3
       refine ⟨_,_,by rw [HE.out];rfl,fun _=>?_,H1.out.below⟩
       rw [HE.out]
       exact ⟨own_mono H1.out.ow (by omega),own_mono H1.out.os (by omega)⟩
   · refine ⟨_,rfl,?_⟩
     have HZ:Hid _:=hz
     clear hz
     go_wp2
     refine HR.out _ _ ?_
     go_ret3
     refine ⟨_,_,by rw [HZ.out];rfl,fun e=>?_,hb⟩
     rw [HZ.out] at e
     simp at e
 · intro G HG
   go_wp2
   go_step3
   simp only [Exit.then]
   refine ‹∀ (a:Act) (w:World),Code.wp _ _ _ a w→_› _ _ ?_
   exact HG.out _ 0 _ _ _ (rwj_zero (Nat.zero_le _) (wordsTo_start _) rw_start) rfl
end Go.Proofs.YtkghmgoefiepeaaGreatDoor.reads
namespace Go.Proofs.YtkghmgoefiepeaaGreatDoor.reads
open Go.ChangeShapes Go.WideShapes Go.ChangeAt Go.RowKit Kn
theorem made_one (z:Value) (n:Nat):madeCells #[z] n=Array.replicate n z:=by
 apply Array.ext
 · simp [madeCells]
 · intro i h1 h2
   simp [madeCells,Nat.mod_one]
theorem cs_same {w:World}{a:Addr}{v u:Value} (h:w.cell? a=some u):(w.setCell a v).cell? a=some v:=World.cell?_setCell_same _ _ _ h
theorem cs_other {w:World}{a b:Addr}{v:Value} (h:a≠b):(w.setCell a v).cell? b=w.cell? b:=World.cell?_setCell_other _ _ _ _ h
def markB (Bd:Nat→Bool) (a:Nat):Nat→Bool:=fun i=>decide (i=a)||Bd i
structure Rows (w:World) (R n k:Nat):Prop where
 size:w.heap.size=R+1+k
 done:∀ j,j < k→w.cell? ⟨R,j,none⟩=some (.slice (some ⟨R+1+j,0,none⟩) 17 17)
 rest:∀ j,k≤j→j≤n→w.cell? ⟨R,j,none⟩=some (.slice none 0 0)
 free:∀ j,w.frozen? ⟨R,j,none⟩=false
 blk:∀ j,j < k→w.heap[R+1+j]?=some (.cells (Array.replicate 17 (.bool false)) 4)
end Go.Proofs.YtkghmgoefiepeaaGreatDoor.reads
namespace Go.Proofs.YtkghmgoefiepeaaGreatDoor.reads
open Go.ChangeShapes Go.WideShapes Go.ChangeAt Go.RowKit Kn
variable {w0 w w' : World} {ws : List (W × Nat)} {u : Nat} {b : Bool} {M : Nat → Nat → Bool} {Bd : Nat → Bool} {D D' : Nat → Nat → Prop}
theorem gone_bad {i j a:Nat} (h:Gone ws M Bd i j):Gone ws M (markB Bd a) i j:=fun hm=>⟨(h hm).1,fun ho=>by simp [markB,(h hm).2 ho]⟩
structure Fine (x:W) (n:Nat):Prop where
 kind:x.k∈kinds
 lo:-10000 < x.n
 hi:x.n < 10000
 send:x.k=115∨x.k=94→0≤x.n∧x.n≤3
 goto:x.k=62∨x.k=63→0≤x.n∧x.n≤n
theorem fine_takes {x:W}{n:Nat} (h:Fine x n):0≤(takesOf x.k x.n).1∧(takesOf x.k x.n).1≤4∧0≤(takesOf x.k x.n).2∧(takesOf x.k x.n).2≤2:=by
 have hs:=h.send
 unfold takesOf
 split
 · simp
 · split
   · simp
   · split
     · simp
     · split
       · simp
       · split
         · rename_i e
           have:=hs (.inl e)
           simp;omega
         · split
           · rename_i e
             have:=hs (.inr e)
             simp;omega
           · split <;> simp
end Go.Proofs.YtkghmgoefiepeaaGreatDoor.reads
