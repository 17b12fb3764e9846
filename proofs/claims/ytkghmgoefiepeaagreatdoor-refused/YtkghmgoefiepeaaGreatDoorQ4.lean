import Derived.Laws.IdiomStrings
import Derived.Test.YtkghmgoefiepeaaGreatDoorQ0
import Derived.Test.YtkghmgoefiepeaaGreatDoorQ3
set_option linter.unusedSimpArgs false
set_option linter.unusedVariables false
set_option maxHeartbeats 4000000
set_option maxRecDepth 100000
namespace Go.Proofs.YtkghmgoefiepeaaGreatDoor.reads
open Go.ChangeShapes Go.WideShapes Go.ChangeAt Go.RowKit Kn
theorem span_c (b:Nat) (s:ByteArray) (i lo hi m:Nat) (p:UInt8→Bool) (sp:List UInt8) (w:World) (hs:s.size≤140737488355328) (hi':i≤s.size) (hm:m≤6) (h:RdAt w b s i) (hp:inR lo hi=p) (hsp:spanL p m ((bl s).drop i)=sp) :
 Calls Tryz.prog 106 #[.pointer (some ⟨b,0,none⟩),.int .u8 lo,.int .u8 hi,.int .i64 m] w fun e w'=>e=.returned (.string (ofL sp))∧RTo w w' b s (i+sp.length):=by
 rw [← hsp,← hp]
 exact span_any b s i lo hi m w hs hi' hm h
theorem ofL_ne {l:List UInt8} (h:l≠[]):l.isEmpty=false:=by
 cases l with
 | nil=>exact absurd rfl h
 | cons c t=>rfl
theorem span_le_size (s:ByteArray) (p:UInt8→Bool) (m i:Nat):(spanL p m ((bl s).drop i)).length≤s.size - i:=by
 obtain ⟨t,ht⟩:=spanL_pre p m ((bl s).drop i)
 have:=congrArg List.length ht
 rw [List.length_drop,bl_length,List.length_append] at this
 omega
theorem kclassName_any (b:Nat) (s:ByteArray) (i:Nat) (w:World) (hs:s.size≤140737488355328) (hi:i≤s.size) (h:RdAt w b s i) :
 Calls Tryz.prog 73 #[.pointer (some ⟨b,0,none⟩)] w fun e w'=>e=.returned (.string (ofL (kName ((bl s).drop i))))∧RTo w w' b s (i+(kName ((bl s).drop i)).length):=by
 have c1:=h.c1
 have HH:Hid (RdAt w b s i):=h
 clear h
 obtain ⟨sp,hsp⟩:∃ sp,spanL isCap 1 ((bl s).drop i)=sp:=⟨_,rfl⟩
 have hle:=span_le_size s isCap 1 i
 rw [hsp] at hle
 have HS:Hid _:=hsp
 by_cases hne:sp=[]
 · subst hne
   have HK:Hid (kName ((bl s).drop i)=[]):=by
    have hx:kName ((bl s).drop i)=[]:=by unfold kName;rw [if_pos hsp]
    exact hx
   clear hsp hle
   go_enter Tryz.func73,Tryz.ntmps73
   go_wp2_with fail
   refine (span_c b s i 65 90 1 isCap [] _ hs hi (by omega) HH.out rfl HS.out).mono ?_
   rintro e w1 ⟨rfl,hto⟩
   have HT:Hid _:=hto
   clear hto
   go_wp2
   go_ret
   exact ⟨by rw [HK.out];rfl,by rw [HK.out];exact HT.out⟩
 · have h1:sp.length=1:=by
    have h2:=spanL_le isCap 1 ((bl s).drop i)
    rw [hsp] at h2
    cases sp with
    | nil=>exact absurd rfl hne
    | cons c t=>simp at h2 ⊢;exact h2
   obtain ⟨sq,hsq⟩:∃ sq,spanL isSmall 5 ((bl s).drop (i+1))=sq:=⟨_,rfl⟩
   have hle2:=span_le_size s isSmall 5 (i+1)
   rw [hsq] at hle2
   have HQ:Hid (spanL isSmall 5 ((bl s).drop (i+sp.length))=sq):=by
    have hx:spanL isSmall 5 ((bl s).drop (i+sp.length))=sq:=by rw [h1];exact hsq
    exact hx
   have HK:Hid (kName ((bl s).drop i)=sp++sq∧ofL (sp++sq)=s.extract i (i+sp.length+sq.length)):=by
    have hx:kName ((bl s).drop i)=sp++sq:=by unfold kName;rw [hsp,if_neg hne,List.drop_drop,hsq]
    have hy:ofL (sp++sq)=s.extract i (i+sp.length+sq.length):=by
     have hkn:kName ((bl s).drop i)≠[]:=by rw [hx];intro e;exact hne (List.append_eq_nil_iff.1 e).1
     obtain ⟨_,v,hv⟩:=kName_sound hkn
     rw [hx] at hv
     rw [ex_mid]
     congr 1
     rw [List.drop_take,hv,show i+sp.length+sq.length - i=(sp++sq).length from by simp;omega,List.take_left' rfl]
    exact ⟨hx,hy⟩
   have tne:=ofL_ne hne
   have hb1:i+sp.length≤s.size:=by omega
   have hb2:i+sp.length+sq.length≤s.size:=by omega
   clear hsp hsq hne h1 hle hle2
   go_enter Tryz.func73,Tryz.ntmps73
   go_wp2_with fail
   refine (span_c b s i 65 90 1 isCap sp _ hs hi (by omega) HH.out rfl HS.out).mono ?_
   rintro e w1 ⟨rfl,hto⟩
   have HT:Hid _:=hto
   clear hto c1
   go_wp2_with fail
   refine (span_c b s (i+sp.length) 97 122 5 isSmall sq _ hs (by omega) (by omega) HT.out.rd rfl HQ.out).mono ?_
   rintro e w2 ⟨rfl,hto⟩
   have d0:=hto.rd.c0
   have d1:=hto.rd.c1
   have HT2:Hid _:=HT.out.trans hto
   clear hto
   have hq1:(0:Int)≤(i:Int):=by omega
   have hq2:(i:Int)≤(i:Int)+sp.length+sq.length:=by omega
   have hq3:(i:Int)+sp.length+sq.length≤s.size:=by omega
   go_wp2
   go_quiet (fail)
   go_wp2
   go_ret
   refine ⟨?_,?_⟩
   · rw [HK.out.1,HK.out.2];rfl
   · rw [HK.out.1,List.length_append,← Nat.add_assoc];exact HT2.out.drewN _
theorem kSel_parts (l:List UInt8) (a:List UInt8) (ha:spanL isSmall 6 l=a) (hne:a≠[]) (h47:l[a.length]?=some 47) (d:List UInt8) (hd:spanL isD3 1 (l.drop (a.length+1))=d) (hdn:d≠[]):kSel l=a++47::d:=by
 unfold kSel;rw [ha,if_neg hne,if_pos h47,hd,if_neg hdn]
theorem kSel_none1 (l:List UInt8) (ha:spanL isSmall 6 l=[]):kSel l=[]:=by unfold kSel;rw [if_pos ha]
theorem kSel_none2 (l:List UInt8) (a:List UInt8) (ha:spanL isSmall 6 l=a) (h47:l[a.length]?≠some 47):kSel l=[]:=by
 unfold kSel;rw [ha];split
 · rfl
 · first | rfl | rw [if_neg h47]
theorem kSel_none3 (l:List UInt8) (a:List UInt8) (ha:spanL isSmall 6 l=a) (hd:spanL isD3 1 (l.drop (a.length+1))=[]):kSel l=[]:=by
 unfold kSel;rw [ha];split
 · rfl
 · split
   · first | rfl | rw [if_pos hd]
   · rfl
theorem kselector_any (b:Nat) (s:ByteArray) (i:Nat) (w:World) (hs:s.size≤140737488355328) (hi:i≤s.size) (h:RdAt w b s i) :
 Calls Tryz.prog 68 #[.pointer (some ⟨b,0,none⟩)] w fun e w'=>e=.returned (.string (ofL (kSel ((bl s).drop i)))) ∧
  ∃ j,j≤s.size∧RTo w w' b s j∧(kSel ((bl s).drop i)≠[]→j=i+(kSel ((bl s).drop i)).length):=by
 have c1:=h.c1
 have HH:Hid (RdAt w b s i):=h
 clear h
 obtain ⟨a,hsp⟩:∃ a,spanL isSmall 6 ((bl s).drop i)=a:=⟨_,rfl⟩
 have hle:=span_le_size s isSmall 6 i
 rw [hsp] at hle
 have HS:Hid _:=hsp
 clear hsp
 by_cases hne:a=[]
 · subst hne
   have HK:Hid (kSel ((bl s).drop i)=[]):=kSel_none1 _ HS.out
   go_enter Tryz.func68,Tryz.ntmps68
   go_wp2_with fail
   refine (span_c b s i 97 122 6 isSmall [] _ hs hi (by omega) HH.out rfl HS.out).mono ?_
   rintro e w1 ⟨rfl,hto⟩
   have HT:Hid _:=hto
   clear hto
   go_wp2
   go_ret
   exact ⟨by rw [HK.out];rfl,i,hi,HT.out,fun hx=>absurd HK.out hx⟩
 · have tne:=ofL_ne hne
   have hget:((bl s).drop i)[a.length]?=(bl s)[i+a.length]?:=by rw [List.getElem?_drop]
   have hdrop:((bl s).drop i).drop (a.length+1)=(bl s).drop (i+a.length+1):=by rw [List.drop_drop];congr 1
   have HG:Hid _:=hget
   have HD:Hid _:=hdrop
   have HN:Hid (a≠[]):=hne
   clear hget hdrop hne
   by_cases h47:∃ hlt:i+a.length < s.size,s[i+a.length].toNat=47
   · obtain ⟨hlt,h47⟩:=h47
     have H47:Hid _:=h47
     have HG47:Hid (((bl s).drop i)[a.length]?=some 47):=by
      have hx:((bl s).drop i)[a.length]?=some 47:=by rw [HG.out,bl_get s _ hlt];exact congrArg some (UInt8.toNat_inj.1 (by rw [h47];rfl))
      exact hx
     obtain ⟨d,hd⟩:∃ d,spanL isD3 1 ((bl s).drop (i+a.length+1))=d:=⟨_,rfl⟩
     have hled:=span_le_size s isD3 1 (i+a.length+1)
     rw [hd] at hled
     have HDD:Hid _:=hd
     clear h47 hd
     by_cases hdn:d=[]
     · subst hdn
       have HK:Hid (kSel ((bl s).drop i)=[]):=kSel_none3 _ a HS.out (by rw [HD.out];exact HDD.out)
       go_enter Tryz.func68,Tryz.ntmps68
       go_wp2_with fail
       refine (span_c b s i 97 122 6 isSmall a _ hs hi (by omega) HH.out rfl HS.out).mono ?_
       rintro e w1 ⟨rfl,hto⟩
       have HT:Hid _:=hto
       clear hto c1
       go_wp2_with fail
       refine (take_yes b s (i+a.length) 47 _ hs hlt H47.out HT.out.rd).mono ?_
       rintro e w2 ⟨rfl,hto⟩
       have HT2:Hid _:=HT.out.trans hto
       clear hto
       go_wp2_with fail
       refine (span_c b s (i+a.length+1) 48 51 1 isD3 [] _ hs (by omega) (by omega) HT2.out.rd rfl HDD.out).mono ?_
       rintro e w3 ⟨rfl,hto⟩
       have HT3:Hid _:=HT2.out.trans hto
       clear hto
       go_wp2
       go_ret
       exact ⟨by rw [HK.out];rfl,_,by simp;omega,HT3.out,fun hx=>absurd HK.out hx⟩
     · have tdn:=ofL_ne hdn
       have HK:Hid (kSel ((bl s).drop i)=a++47::d):=kSel_parts _ a HS.out HN.out HG47.out d (by rw [HD.out];exact HDD.out) hdn
       have HE:Hid (ofL (a++47::d)=s.extract i (i+a.length+1+d.length)):=by
        have hx:ofL (a++47::d)=s.extract i (i+a.length+1+d.length):=by
         obtain ⟨_,v,hv⟩:=kSel_sound (r:=(bl s).drop i) (by rw [HK.out];simp)
         rw [HK.out] at hv
         rw [ex_mid]
         congr 1
         rw [List.drop_take,hv,show i+a.length+1+d.length - i=(a++47::d).length from by simp;omega,List.take_left' rfl]
        exact hx
       clear hdn
       go_enter Tryz.func68,Tryz.ntmps68
       go_wp2_with fail
       refine (span_c b s i 97 122 6 isSmall a _ hs hi (by omega) HH.out rfl HS.out).mono ?_
       rintro e w1 ⟨rfl,hto⟩
       have HT:Hid _:=hto
       clear hto c1
       go_wp2_with fail
       refine (take_yes b s (i+a.length) 47 _ hs hlt H47.out HT.out.rd).mono ?_
       rintro e w2 ⟨rfl,hto⟩
       have HT2:Hid _:=HT.out.trans hto
       clear hto
       go_wp2_with fail
       refine (span_c b s (i+a.length+1) 48 51 1 isD3 d _ hs (by omega) (by omega) HT2.out.rd rfl HDD.out).mono ?_
       rintro e w3 ⟨rfl,hto⟩
       have d0:=hto.rd.c0
       have d1:=hto.rd.c1
       have HT3:Hid _:=HT2.out.trans hto
       clear hto
       have hq1:(0:Int)≤(i:Int):=by omega
       have hq2:(i:Int)≤(i:Int)+a.length+1+d.length:=by omega
       have hq3:(i:Int)+a.length+1+d.length≤s.size:=by omega
       go_wp2
       go_quiet (fail)
       go_wp2
       go_ret
       refine ⟨?_,i+a.length+1+d.length,by omega,HT3.out.drewN _,fun _=>?_⟩
       · rw [HK.out,HE.out];rfl
       · rw [HK.out];simp;omega
   · have HK:Hid (kSel ((bl s).drop i)=[]):=kSel_none2 _ a HS.out (by
      rw [HG.out]
      intro e
      have hlt:=(List.getElem?_eq_some_iff.1 e).1
      rw [bl_length] at hlt
      rw [bl_get s _ hlt] at e
      injection e with e
      exact h47 ⟨hlt,by rw [e];rfl⟩)
     have H47:Hid (∀ hlt:i+a.length < s.size,s[i+a.length].toNat≠47):=by
      have hx:∀ hlt:i+a.length < s.size,s[i+a.length].toNat≠47:=fun hlt e=>h47 ⟨hlt,e⟩
      exact hx
     clear h47
     go_enter Tryz.func68,Tryz.ntmps68
     go_wp2_with fail
     refine (span_c b s i 97 122 6 isSmall a _ hs hi (by omega) HH.out rfl HS.out).mono ?_
     rintro e w1 ⟨rfl,hto⟩
     have HT:Hid _:=hto
     clear hto c1
     go_wp2_with fail
     refine (take_no b s (i+a.length) 47 _ hs (by omega) H47.out HT.out.rd).mono ?_
     rintro e w2 ⟨rfl,hto⟩
     have HT2:Hid _:=HT.out.trans hto
     clear hto
     go_wp2
     go_ret
     exact ⟨by rw [HK.out];rfl,_,by omega,HT2.out,fun hx=>absurd HK.out hx⟩
theorem bytes_cell (w:World) (s:ByteArray) (c:Nat) (e:TypeId) (m:Nat×Nat) (k:Nat) (h:k < s.size):(w.alloc (.cells (bytesRow s c) e m)).cell? ⟨w.heap.size,k,none⟩=some (.int .u8 (s[k].toNat:Int)):=by
 have hb:(w.alloc (.cells (bytesRow s c) e m)).heap[w.heap.size]?=some (.cells (bytesRow s c) e m):=(MapKept.heap_alloc w _).1
 simp only [World.cell?,hb]
 exact bytesRow_at s c k h
theorem decimal_any (s:ByteArray) (w:World) (hs:s.size≤4) (hd:∀ c∈bl s,isDig c=true) :
 Calls Tryz.prog 79 #[.string s] w fun e w'=>e=.returned (.int .i64 (numOf (bl s):Nat))∧Below w.heap.size w w':=by
 have hcv:=fun (w:World) (s:ByteArray)=>run_bytes_of_string (P:=Tryz.prog) w 9 200 5 s Tryz.underlying9 Tryz.underlying200 Tryz.underlying5
 have hcell:=fun (k:Nat) (h:k < s.size)=>bytes_cell w s (grownCap w s.size 0 5) 5 ((bytesRow s (grownCap w s.size 0 5)).size,(bytesRow s (grownCap w s.size 0 5)).size+1) k h
 have HC:Hid _:=hcell
 have HD:Hid _:=hd
 clear hcell hd
 go_enter Tryz.func79,Tryz.ntmps79
 go_wp2
 go_loop [3,9] (fun n i=>∃ k:Nat,k≤s.size∧i=.int .i64 k∧n=.int .i64 (numOf ((bl s).take k):Nat)) (fun _ i=>s.size - (intOf i).toNat)
 case atStart=>exact ⟨0,by omega,rfl,rfl⟩
 case round =>
  obtain ⟨k,hk,rfl,rfl⟩:=hrel
  have hbd:=numOf_lt ((bl s).take k) k (List.length_take_le _ _) (List.all_eq_true.2 (fun c hc=>HD.out c (List.mem_of_mem_take hc)))
  have hb4:numOf ((bl s).take k) < 10000:=Nat.lt_of_lt_of_le hbd (Nat.pow_le_pow_right (n:=10) (by omega) (show k≤4 by omega))
  clear hbd
  by_cases hlt:k < s.size
  · have hdd:=isDig_iff.1 (HD.out s[k] (List.mem_of_getElem? (bl_get s k hlt)))
    obtain ⟨hd1,hd2⟩:=hdd
    have hc:=HC.out k hlt
    have HT:Hid (numOf ((bl s).take (k+1))=10*numOf ((bl s).take k)+(s[k].toNat - 48)):=numOf_snoc s k hlt
    go_wp2
    go_round
    case rel =>
     refine ⟨k+1,by omega,by go_num,?_⟩
     rw [HT.out]
     go_num
    case measure=>simp [intOf];omega
  · obtain rfl:k=s.size:=by omega
    have HE:Hid ((bl s).take s.size=bl s):=by
     have hx:(bl s).take s.size=bl s:=List.take_of_length_le (by rw [bl_length];omega)
     exact hx
    go_wp2
    go_ret
    exact ⟨ret_int (by rw [HE.out]),((Below.refl _ _).drew).alloc (Nat.le_refl _) _⟩
theorem argumentsOf_any (s:ByteArray) (w:World) (h:selector (bl s)=true) :
 Calls Tryz.prog 42 #[.string s] w fun e w'=>e=.returned (.int .i64 (argsOf (bl s):Nat))∧Below w.heap.size w w':=by
 obtain ⟨a,d,hl,h1,h6,ha,hd⟩:=selector_form h
 have hsz:s.size=a.length+2:=by rw [← bl_length,hl];simp
 have hn:s.size=a.length+1+1:=by omega
 have hx:bl (s.extract (a.length+1) (a.length+1+1))=[d]:=by
  rw [← hn,ex_drop,bl_ofL,hl,List.drop_append,List.drop_eq_nil_of_le (by omega),show a.length+1 - a.length=1 from by omega];rfl
 have hdg:isDig d=true:=by simp [isD3] at hd;simp [isDig];omega
 have HV:Hid (argsOf (bl s)=Kn.numOf (bl (s.extract (a.length+1) (a.length+1+1)))):=by
  have hy:argsOf (bl s)=Kn.numOf (bl (s.extract (a.length+1) (a.length+1+1))):=by
   rw [hx]
   unfold argsOf
   rw [hl]
   have e:(a++[47,d]).length - 1=a.length+1:=by simp
   rw [e,List.getElem?_append_right (by omega),show a.length+1 - a.length=1 from by omega]
   simp [Kn.numOf]
  exact hy
 have HD:Hid (∀ c∈bl (s.extract (a.length+1) (a.length+1+1)),isDig c=true):=by
  have hy:∀ c∈bl (s.extract (a.length+1) (a.length+1+1)),isDig c=true:=by rw [hx];simpa using hdg
  exact hy
 have HZ:Hid ((s.extract (a.length+1) (a.length+1+1)).size≤4):=by
  have hy:(s.extract (a.length+1) (a.length+1+1)).size≤4:=by
   rw [← bl_length,hx];simp
  exact hy
 clear hx hl hsz hd hdg ha h
 go_enter Tryz.func42,Tryz.ntmps42
 go_wp2_with fail
 refine (decimal_any _ _ HZ.out HD.out).mono ?_
 rintro e w1 ⟨rfl,hb⟩
 go_wp2
 go_ret
 exact ⟨ret_int (by rw [HV.out]),hb⟩
theorem kName_whole (l:List UInt8):(!(kName l).isEmpty&&decide ((kName l).length=l.length))=className l:=by
 rw [Bool.eq_iff_iff]
 simp only [Bool.and_eq_true,decide_eq_true_eq,Bool.not_eq_true']
 constructor
 · rintro ⟨h1,h2⟩
   have hne:kName l≠[]:=fun e=>by rw [e] at h1;simp at h1
   obtain ⟨hc,v,hv⟩:=kName_sound hne
   have:v=[]:=by
    have:=congrArg List.length hv
    rw [List.length_append] at this
    exact List.eq_nil_of_length_eq_zero (by omega)
   rw [this,List.append_nil] at hv
   rw [hv];exact hc
 · intro h
   have:=kName_eq (v:=[]) h (fun c hc=>by simp at hc)
   rw [List.append_nil] at this
   rw [this]
   exact ⟨ofL_ne (name_ne h),rfl⟩
theorem kSel_whole (l:List UInt8):(!(kSel l).isEmpty&&decide ((kSel l).length=l.length))=selector l:=by
 rw [Bool.eq_iff_iff]
 simp only [Bool.and_eq_true,decide_eq_true_eq,Bool.not_eq_true']
 constructor
 · rintro ⟨h1,h2⟩
   have hne:kSel l≠[]:=fun e=>by rw [e] at h1;simp at h1
   obtain ⟨hc,v,hv⟩:=kSel_sound hne
   have:v=[]:=by
    have:=congrArg List.length hv
    rw [List.length_append] at this
    exact List.eq_nil_of_length_eq_zero (by omega)
   rw [this,List.append_nil] at hv
   rw [hv];exact hc
 · intro h
   have:=kSel_eq (v:=[]) h
   rw [List.append_nil] at this
   rw [this]
   exact ⟨ofL_ne (sel_ne h),rfl⟩
theorem rd_new_at (w:World) (s:ByteArray):RdAt (w.alloc (.cells #[.string s,.int .i64 0] 135)) w.heap.size s 0:=(MapKept.heap_alloc w _).1
variable {w w' : World}
theorem rto_below {s:ByteArray}{i:Nat}{o:Obj} (h:RTo (w.alloc o) w' w.heap.size s i):Below w.heap.size w w' :=
 ((Below.refl _ _).alloc (Nat.le_refl _) o).grown h.grown (by simp) (fun k hk=>by injection hk with hk;omega)
theorem isClassName_any (s:ByteArray) (w:World) (hs:s.size≤140737488355328) :
 Calls Tryz.prog 37 #[.string s] w fun e w'=>e=.returned (.bool (className (bl s)))∧Below w.heap.size w w':=by
 have HW:Hid ((!(kName (bl s)).isEmpty&&decide ((kName (bl s)).length=(bl s).length))=className (bl s)):=kName_whole (bl s)
 go_enter Tryz.func37,Tryz.ntmps37
 go_wp2_with fail
 refine (kclassName_any w.heap.size s 0 _ hs (by omega) (rd_new_at w s)).mono ?_
 rintro e w1 ⟨rfl,hto⟩
 rw [List.drop_zero,Nat.zero_add] at hto
 rw [List.drop_zero]
 have d1:=hto.rd.c1
 have HB:Hid (Below w.heap.size w w1):=rto_below hto
 clear hto
 generalize kName (bl s)=nm at *
 cases hnm:nm.isEmpty
 · by_cases hl:nm.length=s.size
   · have tl:((nm.length:Int)==s.size)=true:=by simp;omega
     have HR:Hid (className (bl s)=true):=by
      have hx:=HW.out
      rw [hnm,bl_length,decide_eq_true hl] at hx
      exact hx.symm
     go_wp2
     go_ret
     exact ⟨by rw [HR.out];rfl,HB.out⟩
   · have tl:((nm.length:Int)==s.size)=false:=by simp;omega
     have HR:Hid (className (bl s)=false):=by
      have hx:=HW.out
      rw [hnm,bl_length,decide_eq_false hl] at hx
      exact hx.symm
     go_wp2
     go_ret
     exact ⟨by rw [HR.out];rfl,HB.out⟩
 · have HR:Hid (className (bl s)=false):=by
    have hx:=HW.out
    rw [hnm] at hx
    exact hx.symm
   go_wp2
   go_ret
   exact ⟨by rw [HR.out];rfl,HB.out⟩
theorem isSelector_any (s:ByteArray) (w:World) (hs:s.size≤140737488355328) :
 Calls Tryz.prog 34 #[.string s] w fun e w'=>e=.returned (.bool (selector (bl s)))∧Below w.heap.size w w':=by
 have HW:Hid ((!(kSel (bl s)).isEmpty&&decide ((kSel (bl s)).length=(bl s).length))=selector (bl s)):=kSel_whole (bl s)
 go_enter Tryz.func34,Tryz.ntmps34
 go_wp2_with fail
 refine (kselector_any w.heap.size s 0 _ hs (by omega) (rd_new_at w s)).mono ?_
 rintro e w1 ⟨rfl,j,hj,hto,hjl⟩
 rw [List.drop_zero,Nat.zero_add] at hjl
 rw [List.drop_zero]
 have d1:=hto.rd.c1
 have HB:Hid (Below w.heap.size w w1):=rto_below hto
 clear hto
 generalize kSel (bl s)=nm at *
 cases hnm:nm.isEmpty
 · have hjn:j=nm.length:=hjl (fun e=>by rw [e] at hnm;cases hnm)
   subst hjn
   clear hjl
   by_cases hl:nm.length=s.size
   · have tl:((nm.length:Int)==s.size)=true:=by simp;omega
     have HR:Hid (selector (bl s)=true):=by
      have hx:=HW.out
      rw [hnm,bl_length,decide_eq_true hl] at hx
      exact hx.symm
     go_wp2
     go_ret
     exact ⟨by rw [HR.out];rfl,HB.out⟩
   · have tl:((nm.length:Int)==s.size)=false:=by simp;omega
     have HR:Hid (selector (bl s)=false):=by
      have hx:=HW.out
      rw [hnm,bl_length,decide_eq_false hl] at hx
      exact hx.symm
     go_wp2
     go_ret
     exact ⟨by rw [HR.out];rfl,HB.out⟩
 · have HR:Hid (selector (bl s)=false):=by
    have hx:=HW.out
    rw [hnm] at hx
    exact hx.symm
   clear hjl
   go_wp2
   go_ret
   exact ⟨by rw [HR.out];rfl,HB.out⟩
end Go.Proofs.YtkghmgoefiepeaaGreatDoor.reads
