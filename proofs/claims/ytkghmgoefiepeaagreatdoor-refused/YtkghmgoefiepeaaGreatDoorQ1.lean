import Derived.WalkKit
import Derived.Test.YtkghmgoefiepeaaGreatDoorChecked
import Derived.ProofKit
import Derived.Outline
import Derived.Deep.QuietTactic
import Derived.BigQuiet
import Derived.Test.YtkghmgoefiepeaaGreatDoorQ0
set_option linter.unusedSimpArgs false
set_option linter.unusedVariables false
set_option maxHeartbeats 4000000
set_option maxRecDepth 100000
namespace Kn
open Go
abbrev bl (s:ByteArray):List UInt8:=s.data.toList
theorem bl_length (s:ByteArray):(bl s).length=s.size:=rfl
theorem bl_get (s:ByteArray) (k:Nat) (h:k < s.size):(bl s)[k]?=some s[k]:=by
 rw [List.getElem?_eq_getElem (by rw [bl_length];exact h)];rfl
def isSmall (c:UInt8):Bool:=decide (97≤c.toNat)&&decide (c.toNat≤122)
def isCap (c:UInt8):Bool:=decide (65≤c.toNat)&&decide (c.toNat≤90)
def isDig (c:UInt8):Bool:=decide (48≤c.toNat)&&decide (c.toNat≤57)
def className (l:List UInt8):Bool:=decide (1≤l.length)&&decide (l.length≤6)&&isCap (l[0]?.getD 0)&&(l.drop 1).all isSmall
def selector (l:List UInt8):Bool :=
 decide (3≤l.length)&&decide (l.length≤8)&&decide (l[l.length - 2]?.getD 0=47)&&decide (48≤(l[l.length - 1]?.getD 0).toNat)&&decide ((l[l.length - 1]?.getD 0).toNat≤51)&&(l.take (l.length - 2)).all isSmall
def argsOf (l:List UInt8):Nat:=(l[l.length - 1]?.getD 0).toNat - 48
def numOf (l:List UInt8):Nat:=l.foldl (fun n d=>10*n+(d.toNat - 48)) 0
def number (l:List UInt8) (most:Nat):Option Nat:=if 1≤l.length&&decide (l.length≤most)&&l.all isDig then some (numOf l) else none
theorem bl_extract (s:ByteArray) (a b:Nat):(s.extract a b).data.toList=(s.data.toList.take b).drop a:=by
 rw [ByteArray.data_extract,Array.toList_extract,List.extract_eq_take_drop,List.drop_take]
theorem bl_getD (s:ByteArray) (k:Nat) (h:k < s.size):(bl s)[k]?.getD 0=s[k]:=by rw [bl_get s k h];rfl
def numI (l:List UInt8) (most:Nat):Int:=match number l most with | some n=>(n:Int) | none=>-1
theorem isDig_iff {c:UInt8}:isDig c=true ↔ 48≤c.toNat∧c.toNat≤57:=by simp [isDig]
theorem numOf_append (l:List UInt8) (c:UInt8):numOf (l++[c])=10*numOf l+(c.toNat - 48):=by simp [numOf,List.foldl_append]
theorem take_snoc (s:ByteArray) (k:Nat) (h:k < s.size):(bl s).take (k+1)=(bl s).take k++[s[k]]:=by
 rw [List.take_succ_eq_append_getElem (by rw [bl_length];exact h)];rfl
theorem numOf_snoc (s:ByteArray) (k:Nat) (h:k < s.size):numOf ((bl s).take (k+1))=10*numOf ((bl s).take k)+(s[k].toNat - 48):=by
 rw [take_snoc s k h,numOf_append]
theorem foldl_num_lt:∀ (l:List UInt8) (a k:Nat),a < 10 ^ k→l.all isDig=true→l.foldl (fun n d=>10*n+(d.toNat - 48)) a < 10 ^ (k+l.length)
 | [],a,k,h,_=>by simpa using h
 | c::r,a,k,h,hd=>by
  simp only [List.all_cons,Bool.and_eq_true] at hd
  have h1:=isDig_iff.1 hd.1
  have:=foldl_num_lt r (10*a+(c.toNat - 48)) (k+1) (by rw [Nat.pow_succ];omega) hd.2
  simp only [List.foldl_cons,List.length_cons]
  rw [show k+(r.length+1)=k+1+r.length from by omega]
  exact this
theorem numOf_lt (l:List UInt8) (k:Nat) (h:l.length≤k) (hd:l.all isDig=true):numOf l < 10 ^ k:=by
 have:=foldl_num_lt l 0 0 (by simp) hd
 rw [Nat.zero_add] at this
 exact Nat.lt_of_lt_of_le this (Nat.pow_le_pow_right (by omega) h)
theorem number_none (l:List UInt8) (m:Nat) (h:¬ (1≤l.length∧l.length≤m∧l.all isDig=true)):number l m=none:=by
 unfold number
 rw [if_neg]
 intro hh
 simp only [Bool.and_eq_true,decide_eq_true_eq] at hh
 exact h ⟨hh.1.1,hh.1.2,hh.2⟩
theorem number_some (l:List UInt8) (m:Nat) (h1:1≤l.length) (h2:l.length≤m) (h3:l.all isDig=true):number l m=some (numOf l):=by
 unfold number
 rw [if_pos]
 simp only [Bool.and_eq_true,decide_eq_true_eq]
 exact ⟨⟨h1,h2⟩,h3⟩
abbrev ofL (l:List UInt8):ByteArray:=⟨l.toArray⟩
theorem bl_ofL (l:List UInt8):bl (ofL l)=l:=rfl
theorem ofL_bl (s:ByteArray):ofL (bl s)=s:=rfl
theorem ba_ext {a b:ByteArray} (h:bl a=bl b):a=b:=by rw [← ofL_bl a,← ofL_bl b,h]
theorem ex_drop (s:ByteArray) (a:Nat):s.extract a s.size=ofL ((bl s).drop a):=by
 apply ba_ext
 rw [bl_ofL]
 show (s.extract a s.size).data.toList=_
 rw [bl_extract]
 congr 1
 exact List.take_length
theorem ex_mid (s:ByteArray) (a b:Nat):s.extract a b=ofL (((bl s).take b).drop a):=by
 apply ba_ext
 rw [bl_ofL]
 exact bl_extract s a b
structure W where
 k:Nat
 n:Int
 sel:List UInt8
 a:List UInt8
 b:List UInt8
def w0:W:=⟨0,0,[],[],[]⟩
def rdPlain (l:List UInt8):Option W :=
 if l=[115,101,108,102] then some ⟨109,0,[],[],[]⟩
 else if l=[112,111,112] then some ⟨111,0,[],[],[]⟩
 else if l=[100,117,112] then some ⟨100,0,[],[],[]⟩
 else if l=[114,101,116] then some ⟨114,0,[],[],[]⟩
 else if l=[43] then some ⟨43,0,[],[],[]⟩
 else if l=[45] then some ⟨45,0,[],[],[]⟩
 else if l=[42] then some ⟨42,0,[],[],[]⟩
 else if l=[60] then some ⟨60,0,[],[],[]⟩
 else if l=[61] then some ⟨61,0,[],[],[]⟩
 else none
def splitDots:List UInt8→List (List UInt8)
 | []=>[[]]
 | c::r=>if c=46 then []::splitDots r else match splitDots r with | []=>[[c]] | p::q=>(c::p)::q
theorem splitDots_one:∀ (p:List UInt8),(∀ c∈p,c≠46)→splitDots p=[p]
 | [],_=>rfl
 | c::r,h=>by
  have h1:=splitDots_one r (fun x hx=>h x (by simp [hx]))
  have h2:¬ c=46:=h c (by simp)
  rw [splitDots,if_neg h2,h1]
theorem splitDots_dot:∀ (p r:List UInt8),(∀ c∈p,c≠46)→splitDots (p++46::r)=p::splitDots r
 | [],r,_=>by rw [List.nil_append,splitDots,if_pos rfl]
 | c::p,r,h=>by
  have h1:=splitDots_dot p r (fun x hx=>h x (by simp [hx]))
  have h2:¬ c=46:=h c (by simp)
  rw [List.cons_append,splitDots,if_neg h2,h1]
theorem splitDots_ne (l:List UInt8):splitDots l≠[]:=by
 cases l with
 | nil=>simp [splitDots]
 | cons c r =>
  rw [splitDots]
  split
  · simp
  · split <;> simp
def first (l:List UInt8):Nat:=(l[0]?.getD 0).toNat
def rest8 (l:List UInt8):Option W:=if l.length=3∧l.take 2=[61,115]∧isDig (l[2]?.getD 0)=true then some ⟨112,((l[2]?.getD 0).toNat - 48:Nat),[],[],[]⟩ else none
def rest7 (l:List UInt8):Option W:=if first l=115∧0≤numI (l.drop 1) 1 then some ⟨103,numI (l.drop 1) 1,[],[],[]⟩ else rest8 l
def rest6 (l:List UInt8):Option W:=if first l=97∧0≤numI (l.drop 1) 1∧numI (l.drop 1) 1 < 3 then some ⟨97,numI (l.drop 1) 1,[],[],[]⟩ else rest7 l
def rest5 (l:List UInt8):Option W:=if (first l=62∨first l=63)∧0≤numI (l.drop 1) 2 then some ⟨first l,numI (l.drop 1) 2,[],[],[]⟩ else rest6 l
def rest4 (l:List UInt8):Option W:=if first l=45∧0≤numI (l.drop 1) 4 then some ⟨110,- numI (l.drop 1) 4,[],[],[]⟩ else rest5 l
def rest3 (l:List UInt8):Option W:=if 0≤numI l 4 then some ⟨110,numI l 4,[],[],[]⟩ else rest4 l
def rest2 (l:List UInt8):Option W:=if first l=94∧selector (l.drop 1)=true then some ⟨94,(argsOf (l.drop 1):Nat),l.drop 1,[],[]⟩ else rest3 l
def rdRest (l:List UInt8):Option W:=if selector l=true then some ⟨115,(argsOf l:Nat),l,[],[]⟩ else rest2 l
theorem numI_lt (l:List UInt8) (m:Nat) (hm:m≤4):-1≤numI l m∧numI l m < 10000:=by
 unfold numI number
 split
 · rename_i n hn
   split at hn
   · rename_i hc
     simp only [Bool.and_eq_true,decide_eq_true_eq] at hc
     have:=numOf_lt l 4 (by omega) hc.2
     injection hn with hn
     omega
   · cases hn
 · omega
def namedRest (l:List UInt8):List (List UInt8)→Option W
 | [p,q] =>
  if List.isPrefixOf [100,114,111,112,58] l=true then (if (className p&&selector q)=true then some ⟨120,0,q,p,[]⟩ else none)
  else if List.isPrefixOf [109,111,118,101,58] l=true then (if (className p&&className q)=true then some ⟨118,0,[],p,q⟩ else none)
  else none
 | [p,q,r] =>
  if List.isPrefixOf [99,111,112,121,58] l=true then (if (className p&&selector q&&className r)=true then some ⟨99,0,q,p,r⟩ else none)
  else none
 | _=>none
def rdNamed (l:List UInt8):Option W :=
 if List.isPrefixOf [110,101,119,58] l=true then (if className (l.drop 4)=true then some ⟨119,0,[],l.drop 4,[]⟩ else none)
 else if List.isPrefixOf [98,101,58] l=true then (if className (l.drop 3)=true then some ⟨98,0,[],l.drop 3,[]⟩ else none)
 else if l.length < 5 then none
 else namedRest l (splitDots (l.drop 5))
def rd (l:List UInt8):Option W :=
 match rdPlain l with
 | some x=>some x
 | none=>match rdNamed l with
  | some x=>some x
  | none=>rdRest l
def tok (l:List UInt8) (i:Nat):List UInt8:=(l.drop i).takeWhile (fun c=>c != 32)
def wordsFrom:Nat→List UInt8→Nat→List (W×Nat)→List (W×Nat)×Int
 | 0,_,_,acc=>(acc,-1)
 | f+1,l,i,acc =>
  if l.length≤i then (acc,-1)
  else if l[i]?.getD 0=32 then wordsFrom f l (i+1) acc
  else match rd (tok l i) with
   | none=>([],(i:Int))
   | some x=>if acc.length=40 then ([],(i:Int)) else wordsFrom f l (i+(tok l i).length) (acc++[(x,i)])
def wordsAll (l:List UInt8):List (W×Nat)×Int:=wordsFrom (l.length+1) l 0 []
theorem tok_pos (l:List UInt8) (i:Nat) (hi:i < l.length) (h:¬ l[i]?.getD 0=32):1≤(tok l i).length:=by
 unfold tok
 rw [List.drop_eq_getElem_cons hi,List.takeWhile_cons_of_pos]
 · simp
 · have e:l[i]?.getD 0=l[i]:=by rw [List.getElem?_eq_getElem hi];rfl
   rw [e] at h
   simpa using h
theorem wordsFrom_fuel:∀ (f g:Nat) (l:List UInt8) (i:Nat) (acc:List (W×Nat)),l.length - i < f→l.length - i < g→wordsFrom f l i acc=wordsFrom g l i acc
 | 0,_,_,_,_,h,_=>by omega
 | _+1,0,_,_,_,_,h=>by omega
 | f+1,g+1,l,i,acc,hf,hg=>by
  rw [wordsFrom,wordsFrom]
  by_cases hi:l.length≤i
  · rw [if_pos hi,if_pos hi]
  · rw [if_neg hi,if_neg hi]
    by_cases hb:l[i]?.getD 0=32
    · rw [if_pos hb,if_pos hb]
      exact wordsFrom_fuel f g l (i+1) acc (by omega) (by omega)
    · rw [if_neg hb,if_neg hb]
      have hp:=tok_pos l i (by omega) hb
      cases rd (tok l i) with
      | none=>rfl
      | some x =>
       show (if acc.length=40 then _ else _)=(if acc.length=40 then _ else _)
       by_cases h40:acc.length=40
       · rw [if_pos h40,if_pos h40]
       · rw [if_neg h40,if_neg h40]
         exact wordsFrom_fuel f g l _ _ (by omega) (by omega)
def WordsTo (l:List UInt8) (i:Nat) (acc:List (W×Nat)):Prop:=wordsAll l=wordsFrom (l.length+1) l i acc∧acc.length≤i∧acc.length≤40
theorem wordsTo_start (l:List UInt8):WordsTo l 0 []:=⟨rfl,by simp,by simp⟩
theorem wordsTo_blank {l:List UInt8}{i:Nat}{acc:List (W×Nat)} (h:WordsTo l i acc) (hi:i < l.length) (hb:l[i]?.getD 0=32):WordsTo l (i+1) acc:=by
 refine ⟨?_,by have:=h.2.1;omega,h.2.2⟩
 rw [h.1,wordsFrom,if_neg (by omega),if_pos hb]
 exact wordsFrom_fuel _ _ _ _ _ (by omega) (by omega)
theorem wordsTo_bad {l:List UInt8}{i:Nat}{acc:List (W×Nat)} (h:WordsTo l i acc) (hi:i < l.length) (hb:¬ l[i]?.getD 0=32) (hr:rd (tok l i)=none):wordsAll l=([],(i:Int)):=by
 rw [h.1,wordsFrom,if_neg (by omega),if_neg hb,hr]
theorem wordsTo_full {l:List UInt8}{i:Nat}{acc:List (W×Nat)} (h:WordsTo l i acc) (hi:i < l.length) (hb:¬ l[i]?.getD 0=32) (h40:acc.length=40):wordsAll l=([],(i:Int)):=by
 rw [h.1,wordsFrom,if_neg (by omega),if_neg hb]
 cases rd (tok l i) with
 | none=>rfl
 | some x=>show (if acc.length=40 then _ else _)=_;rw [if_pos h40]
theorem wordsTo_word {l:List UInt8}{i:Nat}{acc:List (W×Nat)} (h:WordsTo l i acc) (hi:i < l.length) (hb:¬ l[i]?.getD 0=32) {x:W} (hr:rd (tok l i)=some x) (h40:¬ acc.length=40) :
 WordsTo l (i+(tok l i).length) (acc++[(x,i)]):=by
 have hp:=tok_pos l i hi hb
 refine ⟨?_,by have:=h.2.1;simp;omega,by have:=h.2.2;simp;omega⟩
 rw [h.1,wordsFrom,if_neg (by omega),if_neg hb,hr]
 show (if acc.length=40 then _ else _)=_
 rw [if_neg h40]
 exact wordsFrom_fuel _ _ _ _ _ (by omega) (by omega)
theorem wordsTo_end {l:List UInt8}{i:Nat}{acc:List (W×Nat)} (h:WordsTo l i acc) (hi:¬ i < l.length):wordsAll l=(acc,-1):=by
 rw [h.1,wordsFrom,if_pos (by omega)]
def kinds:List Nat:=[110,109,97,103,119,112,111,63,114,43,45,42,60,61,100,115,94,98,62,120,118,99]
def takesOf (k:Nat) (n:Int):Int×Int :=
 if k=110∨k=109∨k=97∨k=103∨k=119 then (0,1)
 else if k=112∨k=111∨k=63∨k=114 then (1,0)
 else if k=43∨k=45∨k=42∨k=60∨k=61 then (2,1)
 else if k=100 then (1,2)
 else if k=115 then (n+1,1)
 else if k=94 then (n,1)
 else if k=98 then (1,1)
 else (0,0)
def goesOf (k:Nat) (n:Int) (i:Nat):List Int :=
 if k=114 then [] else if k=62 then [n] else if k=63 then [(i:Int)+1,n] else [(i:Int)+1]
def wAt (ws:List (W×Nat)) (i:Nat):W:=(ws[i]?.getD (w0,0)).1
def tk (ws:List (W×Nat)) (i:Nat):Nat:=(takesOf (wAt ws i).k (wAt ws i).n).1.toNat
def ly (ws:List (W×Nat)) (i:Nat):Nat:=(takesOf (wAt ws i).k (wAt ws i).n).2.toNat
def tg (ws:List (W×Nat)) (i:Nat):List Nat:=(goesOf (wAt ws i).k (wAt ws i).n i).map Int.toNat
def okAt (ws:List (W×Nat)) (i h:Nat):Prop:=tk ws i≤h∧h - tk ws i+ly ws i≤16
def nx (ws:List (W×Nat)) (i h:Nat):Nat:=h - tk ws i+ly ws i
def reachN (ws:List (W×Nat)):Nat→Nat→Nat→Prop
 | 0,i,h=>i=0∧h=0
 | k+1,i,h=>reachN ws k i h∨∃ j g,j < ws.length∧reachN ws k j g∧okAt ws j g∧i∈tg ws j∧h=nx ws j g
def Reach (ws:List (W×Nat)) (i h:Nat):Prop:=∃ k,reachN ws k i h
theorem reach_start (ws:List (W×Nat)):Reach ws 0 0:=⟨0,rfl,rfl⟩
theorem reach_step {ws:List (W×Nat)}{j g i:Nat} (hj:j < ws.length) (h:Reach ws j g) (ho:okAt ws j g) (hi:i∈tg ws j):Reach ws i (nx ws j g):=by
 obtain ⟨k,hk⟩:=h
 exact ⟨k+1,.inr ⟨j,g,hj,hk,ho,hi,rfl⟩⟩
theorem reach_ind {ws:List (W×Nat)} (S:Nat→Nat→Prop) (h0:S 0 0) (hs:∀ j g i,j < ws.length→S j g→okAt ws j g→i∈tg ws j→S i (nx ws j g)) {i h:Nat} (hr:Reach ws i h):S i h:=by
 obtain ⟨k,hk⟩:=hr
 induction k generalizing i h with
 | zero=>obtain ⟨rfl,rfl⟩:=hk;exact h0
 | succ k ih =>
  rcases hk with hk | ⟨j,g,hj,hk,ho,hi,rfl⟩
  · exact ih hk
  · exact hs j g i hj (ih hk) ho hi
theorem reach_le {ws:List (W×Nat)}{i h:Nat} (hr:Reach ws i h):h≤16 :=
 reach_ind (fun _ h=>h≤16) (by omega) (fun j g i _ _ ho _=>ho.2) hr
def Wrong (ws:List (W×Nat)) (i:Nat):Prop:=(∃ h,Reach ws i h∧¬ okAt ws i h)∨(∃ h1 h2,h1 < h2∧Reach ws i h1∧Reach ws i h2)
def IsFirst (P:Nat→Prop) (n:Nat) (r:Int):Prop:=(r=-1∧∀ i,i < n→¬ P i)∨∃ i,i < n∧r=(i:Int)∧P i∧∀ j,j < i→¬ P j
theorem isFirst_one {P:Nat→Prop}{n:Nat}{r r':Int} (h:IsFirst P n r) (h':IsFirst P n r'):r=r':=by
 rcases h with ⟨rfl,h⟩ | ⟨i,hi,rfl,hp,hn⟩
 · rcases h' with ⟨rfl,h'⟩ | ⟨i',hi',rfl,hp',hn'⟩
   · rfl
   · exact absurd hp' (h i' hi')
 · rcases h' with ⟨rfl,h'⟩ | ⟨i',hi',rfl,hp',hn'⟩
   · exact absurd hp (h' i hi)
   · have:i=i':=by
      rcases Nat.lt_trichotomy i i' with h | h | h
      · exact absurd hp (hn' i h)
      · exact h
      · exact absurd hp' (hn i' h)
     rw [this]
def Marked (ws:List (W×Nat)) (M:Nat→Nat→Bool) (Bd:Nat→Bool):Prop :=
 M 0 0=true∧(∀ i h,M i h=true→Reach ws i h)∧∀ i,Bd i=true→∃ h,Reach ws i h∧¬ okAt ws i h
def Gone (ws:List (W×Nat)) (M:Nat→Nat→Bool) (Bd:Nat→Bool) (i h:Nat):Prop :=
 M i h=true→(okAt ws i h→∀ t∈tg ws i,M t (nx ws i h)=true)∧(¬ okAt ws i h→Bd i=true)
theorem marked_all {ws:List (W×Nat)}{M:Nat→Nat→Bool}{Bd:Nat→Bool} (hm:Marked ws M Bd) (hg:∀ i h,i < ws.length→h≤16→Gone ws M Bd i h) {i h:Nat}:Reach ws i h ↔ M i h=true:=by
 constructor
 · intro hr
   have:h≤16∧M i h=true:=by
    refine reach_ind (fun i h=>h≤16∧M i h=true) ⟨by omega,hm.1⟩ (fun j g i hj hS ho hi=>⟨ho.2,?_⟩) hr
    exact (hg j g hj hS.1 hS.2).1 ho i hi
   exact this.2
 · exact hm.2.1 i h
theorem marked_bad {ws:List (W×Nat)}{M:Nat→Nat→Bool}{Bd:Nat→Bool} (hm:Marked ws M Bd) (hg:∀ i h,i < ws.length→h≤16→Gone ws M Bd i h) {i:Nat} (hi:i < ws.length):(∃ h,Reach ws i h∧¬ okAt ws i h) ↔ Bd i=true:=by
 constructor
 · rintro ⟨h,hr,ho⟩
   exact (hg i h hi (reach_le hr) ((marked_all hm hg).1 hr)).2 ho
 · exact hm.2.2 i
def pairs (n:Nat):List (Nat×Nat):=(List.range (n+1)).flatMap fun i=>(List.range 17).map fun h=>(i,h)
theorem mem_pairs {n i h:Nat} (hi:i≤n) (hh:h≤16):(i,h)∈pairs n:=by
 unfold pairs
 rw [List.mem_flatMap]
 exact ⟨i,List.mem_range.2 (by omega),List.mem_map.2 ⟨h,List.mem_range.2 (by omega),rfl⟩⟩
def unm (n:Nat) (M:Nat→Nat→Bool):Nat:=(pairs n).countP fun p=>!M p.1 p.2
theorem countP_lt {α:Type} (p q:α→Bool):∀ (l:List α),(∀ x∈l,q x=true→p x=true)→(∃ x∈l,p x=true∧q x=false)→l.countP q < l.countP p
 | [],_,h=>by obtain ⟨x,hx,_⟩:=h;cases hx
 | a::r,h,h'=>by
  have hle:r.countP q≤r.countP p:=List.countP_mono_left (fun x hx=>h x (List.mem_cons_of_mem a hx))
  obtain ⟨x,hx,hp,hq⟩:=h'
  rcases List.mem_cons.1 hx with rfl | hx
  · rw [List.countP_cons_of_neg (by simp [hq]),List.countP_cons_of_pos hp];omega
  · have ih:=countP_lt p q r (fun x hx=>h x (List.mem_cons_of_mem a hx)) ⟨x,hx,hp,hq⟩
    by_cases hqa:q a=true
    · rw [List.countP_cons_of_pos hqa,List.countP_cons_of_pos (h a (by simp) hqa)];omega
    · rw [List.countP_cons_of_neg hqa]
      by_cases hpa:p a=true
      · rw [List.countP_cons_of_pos hpa];omega
      · rw [List.countP_cons_of_neg hpa];exact ih
def mark (M:Nat→Nat→Bool) (a b:Nat):Nat→Nat→Bool:=fun i h=>(decide (i=a)&&decide (h=b))||M i h
theorem mark_self (M:Nat→Nat→Bool) (a b:Nat):mark M a b a b=true:=by simp [mark]
theorem mark_of {M:Nat→Nat→Bool}{i h:Nat} (a b:Nat) (hm:M i h=true):mark M a b i h=true:=by simp [mark,hm]
theorem mark_iff {M:Nat→Nat→Bool}{a b i h:Nat}:mark M a b i h=true ↔ (i=a∧h=b)∨M i h=true:=by simp [mark]
theorem unm_mark {n:Nat}{M:Nat→Nat→Bool}{a b:Nat} (ha:a≤n) (hb:b≤16) (hm:M a b=false):unm n (mark M a b) < unm n M:=by
 refine countP_lt _ _ _ (fun x _ hx=>?_) ⟨(a,b),mem_pairs ha hb,by simp [hm],by simp [mark_self]⟩
 by_cases h:M x.1 x.2=true
 · rw [mark_of a b h] at hx;cases hx
 · simpa using h
def argBad (ws:List (W×Nat)) (args i:Nat):Prop:=((wAt ws i).k=97∧(args:Int)≤(wAt ws i).n)∨(((wAt ws i).k=62∨(wAt ws i).k=63)∧(ws.length:Int) < (wAt ws i).n)
def slotBad (ws:List (W×Nat)) (slots i:Nat):Prop:=((wAt ws i).k=103∨(wAt ws i).k=112)∧(slots:Int)≤(wAt ws i).n
def NumBad (ws:List (W×Nat)) (args slots i:Nat):Prop:=argBad ws args i∨slotBad ws slots i
def FitsIs (ws:List (W×Nat)) (args slots:Nat) (e i:Int):Prop :=
 (∃ j,j < ws.length∧i=(j:Int)∧NumBad ws args slots j∧(∀ k,k < j→¬ NumBad ws args slots k)∧(argBad ws args j→e=1)∧(¬ argBad ws args j→e=7)) ∨
 ((∀ j,j < ws.length→¬ NumBad ws args slots j)∧e=6∧IsFirst (Wrong ws) ws.length i)
theorem fitsIs_one {ws:List (W×Nat)}{args slots:Nat}{e i e' i':Int} (h:FitsIs ws args slots e i) (h':FitsIs ws args slots e' i'):e=e'∧i=i':=by
 rcases h with ⟨j,hj,rfl,hb,hn,h1,h7⟩ | ⟨hn,rfl,hf⟩
 · rcases h' with ⟨j',hj',rfl,hb',hn',h1',h7'⟩ | ⟨hn',rfl,hf'⟩
   · have:j=j':=by
      rcases Nat.lt_trichotomy j j' with h | h | h
      · exact absurd hb (hn' j h)
      · exact h
      · exact absurd hb' (hn j' h)
     subst this
     refine ⟨?_,rfl⟩
     by_cases ha:argBad ws args j
     · rw [h1 ha,h1' ha]
     · rw [h7 ha,h7' ha]
   · exact absurd hb (hn' j hj)
 · rcases h' with ⟨j',hj',rfl,hb',hn',h1',h7'⟩ | ⟨hn',rfl,hf'⟩
   · exact absurd hb' (hn j' hj')
   · exact ⟨rfl,isFirst_one hf hf'⟩
structure Fine0 (x:W):Prop where
 kind:x.k∈kinds
 lo:-10000 < x.n
 hi:x.n < 10000
 send:x.k=115∨x.k=94→0≤x.n∧x.n≤3
 goto:x.k=62∨x.k=63→0≤x.n
theorem argsOf_le {l:List UInt8} (h:selector l=true):argsOf l≤3:=by
 unfold selector at h
 simp only [Bool.and_eq_true,decide_eq_true_eq] at h
 have:=h.1.2
 unfold argsOf
 omega
theorem fine_plain {l:List UInt8}{x:W} (h:rdPlain l=some x):Fine0 x:=by
 unfold rdPlain at h
 repeat (first
  | (split at h
     · injection h with h;subst h
       exact ⟨by decide,by decide,by decide,by simp,by simp⟩)
  | cases h)
theorem fine_named {l:List UInt8}{x:W} (h:rdNamed l=some x):Fine0 x:=by
 have key:∀ (k:Nat) (s a b:List UInt8),k=119∨k=98∨k=120∨k=118∨k=99→Fine0 ⟨k,0,s,a,b⟩:=by
  intro k s a b hk
  rcases hk with rfl | rfl | rfl | rfl | rfl <;> exact ⟨by simp [kinds],by simp,by simp,by simp,by simp⟩
 unfold rdNamed at h
 split at h
 · split at h
   · injection h with h;subst h;exact key _ _ _ _ (by simp)
   · cases h
 · split at h
   · split at h
     · injection h with h;subst h;exact key _ _ _ _ (by simp)
     · cases h
   · split at h
     · cases h
     · unfold namedRest at h
       split at h
       · split at h
         · split at h
           · injection h with h;subst h;exact key _ _ _ _ (by simp)
           · cases h
         · split at h
           · split at h
             · injection h with h;subst h;exact key _ _ _ _ (by simp)
             · cases h
           · cases h
       · split at h
         · split at h
           · injection h with h;subst h;exact key _ _ _ _ (by simp)
           · cases h
         · cases h
       · cases h
theorem fine_rest {l:List UInt8}{x:W} (h:rdRest l=some x):Fine0 x:=by
 have b4:=numI_lt l 4 (by omega)
 have c4:=numI_lt (l.drop 1) 4 (by omega)
 have c2:=numI_lt (l.drop 1) 2 (by omega)
 have c1:=numI_lt (l.drop 1) 1 (by omega)
 unfold rdRest at h
 split at h
 · rename_i hs
   have:=argsOf_le hs
   injection h with h;subst h
   exact ⟨by simp [kinds],by simp;omega,by simp;omega,fun _=>by simp;omega,fun e=>by simp at e⟩
 · unfold rest2 at h
   split at h
   · rename_i hs
     have:=argsOf_le hs.2
     injection h with h;subst h
     exact ⟨by simp [kinds],by simp only;omega,by simp only;omega,fun _=>by simp only;omega,fun e=>by simp at e⟩
   · unfold rest3 at h
     split at h
     · injection h with h;subst h
       exact ⟨by simp [kinds],by simp only;omega,by simp only;omega,fun e=>by simp at e,fun e=>by simp at e⟩
     · unfold rest4 at h
       split at h
       · injection h with h;subst h
         exact ⟨by simp [kinds],by simp only;omega,by simp only;omega,fun e=>by simp at e,fun e=>by simp at e⟩
       · unfold rest5 at h
         split at h
         · rename_i hs
           injection h with h;subst h
           exact ⟨by rcases hs.1 with e | e <;> simp [e,kinds],by simp only;omega,by simp only;omega,fun e=>by simp only at e;omega,fun _=>hs.2⟩
         · unfold rest6 at h
           split at h
           · injection h with h;subst h
             exact ⟨by simp [kinds],by simp only;omega,by simp only;omega,fun e=>by simp at e,fun e=>by simp at e⟩
           · unfold rest7 at h
             split at h
             · injection h with h;subst h
               exact ⟨by simp [kinds],by simp only;omega,by simp only;omega,fun e=>by simp at e,fun e=>by simp at e⟩
             · unfold rest8 at h
               split at h
               · rename_i hs
                 have hd:=isDig_iff.1 hs.2.2
                 injection h with h;subst h
                 exact ⟨by simp [kinds],by simp only;omega,by simp only;omega,fun e=>by simp at e,fun e=>by simp at e⟩
               · cases h
theorem fine_rd {l:List UInt8}{x:W} (h:rd l=some x):Fine0 x:=by
 unfold rd at h
 split at h
 · rename_i y hy;injection h with h;subst h;exact fine_plain hy
 · split at h
   · rename_i y hy;injection h with h;subst h;exact fine_named hy
   · exact fine_rest h
theorem wordsFrom_all (P:W→Prop) (hP:∀ l x,rd l=some x→P x):∀ (f:Nat) (l:List UInt8) (i:Nat) (acc:List (W×Nat)),(∀ y∈acc,P y.1)→acc.length≤40→(∀ y∈(wordsFrom f l i acc).1,P y.1)∧(wordsFrom f l i acc).1.length≤40
 | 0,_,_,_,h,h'=>⟨h,h'⟩
 | f+1,l,i,acc,h,h'=>by
  rw [wordsFrom]
  split
  · exact ⟨h,h'⟩
  · split
    · exact wordsFrom_all P hP f l (i+1) acc h h'
    · split
      · exact ⟨fun y hy=>(by cases hy),by simp⟩
      · rename_i x hx
        split
        · exact ⟨fun y hy=>(by cases hy),by simp⟩
        · rename_i h40
          refine wordsFrom_all P hP f l _ _ (fun y hy=>?_) (by simp;omega)
          rcases List.mem_append.1 hy with hy | hy
          · exact h y hy
          · simp at hy;subst hy;exact hP _ _ hx
theorem words_fine (l:List UInt8) (i:Nat) (x:W×Nat) (h:(wordsAll l).1[i]?=some x):Fine0 x.1 :=
 (wordsFrom_all Fine0 (fun l x=>fine_rd) _ l 0 [] (fun y hy=>by cases hy) (by simp)).1 x (List.mem_of_getElem? h)
theorem words_le (l:List UInt8):(wordsAll l).1.length≤40 :=
 (wordsFrom_all (fun _=>True) (fun _ _ _=>trivial) _ l 0 [] (fun y hy=>by cases hy) (by simp)).2
theorem wordsFrom_bad:∀ (f:Nat) (l:List UInt8) (i:Nat) (acc:List (W×Nat)),(wordsFrom f l i acc).2=-1∨∃ j,j < l.length∧(wordsFrom f l i acc).2=(j:Int)
 | 0,l,i,acc=>.inl rfl
 | f+1,l,i,acc=>by
  rw [wordsFrom]
  by_cases hi:l.length≤i
  · rw [if_pos hi];exact .inl rfl
  · rw [if_neg hi]
    by_cases hb:l[i]?.getD 0=32
    · rw [if_pos hb];exact wordsFrom_bad f l (i+1) acc
    · rw [if_neg hb]
      cases rd (tok l i) with
      | none=>exact .inr ⟨i,by omega,rfl⟩
      | some x =>
       simp only
       by_cases h40:acc.length=40
       · rw [if_pos h40];exact .inr ⟨i,by omega,rfl⟩
       · rw [if_neg h40];exact wordsFrom_bad f l _ _
theorem words_bad (l:List UInt8):(wordsAll l).2=-1∨∃ j,j < l.length∧(wordsAll l).2=(j:Int):=wordsFrom_bad _ l 0 []
theorem fits_num {ws:List (W×Nat)}{args slots:Nat}{e i:Int} (h:FitsIs ws args slots e i):i=-1∨∃ j,j < ws.length∧i=(j:Int):=by
 rcases h with ⟨j,hj,rfl,_⟩ | ⟨_,_,hf⟩
 · exact .inr ⟨j,hj,rfl⟩
 · rcases hf with ⟨rfl,_⟩ | ⟨j,hj,rfl,_⟩
   · exact .inl rfl
   · exact .inr ⟨j,hj,rfl⟩
def MethodIs (sel src:List UInt8) (n:Nat) (e a:Int):Prop :=
 (selector sel=false∧e=1∧a=0) ∨
 (selector sel=true∧120 < src.length∧e=5∧a=0) ∨
 (selector sel=true∧src.length≤120∧(wordsAll src).2≠-1∧e=5∧a=(wordsAll src).2) ∨
 (selector sel=true∧src.length≤120∧(wordsAll src).2=-1∧∃ e' i,FitsIs (wordsAll src).1 (argsOf sel) n e' i ∧
  ((∃ j x,i=((j:Nat):Int)∧(wordsAll src).1[j]?=some x∧e=e'∧a=((x.2:Nat):Int))∨(i=-1∧e=0∧a=0)))
theorem methodIs_one {sel src:List UInt8}{n:Nat}{e a e' a':Int} (h:MethodIs sel src n e a) (h':MethodIs sel src n e' a'):e=e'∧a=a':=by
 rcases h with ⟨hs,rfl,rfl⟩ | ⟨hs,hl,rfl,rfl⟩ | ⟨hs,hl,hw,rfl,rfl⟩ | ⟨hs,hl,hw,e1,i1,hf1,hr1⟩ <;>
 rcases h' with ⟨hs',rfl,rfl⟩ | ⟨hs',hl',rfl,rfl⟩ | ⟨hs',hl',hw',rfl,rfl⟩ | ⟨hs',hl',hw',e2,i2,hf2,hr2⟩ <;>
 first
 | exact ⟨rfl,rfl⟩
 | (exfalso;rw [hs] at hs';exact absurd hs' (by decide))
 | (exfalso;omega)
 | exact absurd hw' hw
 | exact absurd hw hw'
 | skip
 obtain ⟨he,hi⟩:=fitsIs_one hf1 hf2
 subst he hi
 rcases hr1 with ⟨j,x,rfl,hx,rfl,rfl⟩ | ⟨rfl,rfl,rfl⟩ <;> rcases hr2 with ⟨j',x',hj,hx',rfl,rfl⟩ | ⟨hj,rfl,rfl⟩
 · have:j=j':=by omega
   subst this
   rw [hx] at hx'
   injection hx' with hx'
   subst hx'
   exact ⟨rfl,rfl⟩
 · omega
 · omega
 · exact ⟨rfl,rfl⟩
end Kn
namespace Go.Proofs.YtkghmgoefiepeaaGreatDoor.reads
open Go.ChangeShapes Go.WideShapes Go.ChangeAt Go.RowKit Kn
theorem ret_int {k:IntKind}{a b:Int} (h:a=b):Ending.returned (.int k a)=.returned (.int k b):=by rw [h]
theorem selector_not (s:ByteArray) (h:¬ (3≤s.size∧s.size≤8∧(bl s)[s.size - 2]?.getD 0=47∧48≤((bl s)[s.size - 1]?.getD 0).toNat∧((bl s)[s.size - 1]?.getD 0).toNat≤51)):selector (bl s)=false:=by
 rw [Bool.eq_false_iff]
 intro hh
 unfold selector at hh
 rw [bl_length] at hh
 simp only [Bool.and_eq_true,decide_eq_true_eq] at hh
 exact h ⟨hh.1.1.1.1.1,hh.1.1.1.1.2,hh.1.1.1.2,hh.1.1.2,hh.1.2⟩
end Go.Proofs.YtkghmgoefiepeaaGreatDoor.reads
