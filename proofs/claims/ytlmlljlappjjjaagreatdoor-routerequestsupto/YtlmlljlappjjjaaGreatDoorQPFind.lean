/- The program's paths without dot segments, and as they are meant; its texts without codes. -/
import Derived.Test.YtlmlljlappjjjaaGreatDoorQPWay
namespace Go.Proofs.YtlmlljlappjjjaaGreatDoor
set_option maxRecDepth 20000
set_option maxHeartbeats 16000000
open Go.RowKit
def decE (r:Option B):Value:=match r with
 |some t=>.tuple #[.string (str t),.nilIface]
 |none=>.tuple #[.string (str []),.iface 74 (.int .i64 23)]
def meas (rest:B) (more:Bool):Nat:=if more then rest.length+2 else 1
def roomN (rest:B) (more:Bool):Nat:=if more then rest.length+1 else 0
theorem join_one (o:List B) (t:B):joinS (o++ [t])=joinS o++47::t:=by rw [join_app];simp [joinS]
theorem join_end (o:List B):joinS (o++ [[]])=joinS o++ [47]:=join_one o []
theorem whole_app {o:List B}{t:B} (h:Whole o) (ht:∀ y∈t,y≠(47:UInt8)):Whole (o++ [t]):=by
 intro s hs;rcases List.mem_append.1 hs with h1|h1
 · exact h s h1
 · rw [List.mem_singleton.1 h1];exact ht
theorem whole_less {o:List B}{t:B} (h:Whole (o++ [t])):Whole o∧∀ y∈t,y≠(47:UInt8):=⟨fun s hs=>h s (by simp [hs]),h t (by simp)⟩
theorem room_cut {rest t rest':B}{more':Bool} (h:cutF 47 rest=(t,rest',more')):t.length+1+roomN rest' more'=roomN rest true∧meas rest' more'<meas rest true∧(∀ y∈t,y≠(47:UInt8)):=by
 obtain⟨h1,h2,h3⟩:=cutF_spec 47 rest;rw [h] at h1 h2 h3;simp only at h1 h2 h3;have hl:=congrArg List.length h2;rw [List.length_append] at hl;unfold roomN meas;cases more' with
 |true=>simp at hl ⊢;exact⟨by omega,by omega,h1⟩
 |false=>simp at hl ⊢;exact⟨by omega,h1⟩
theorem wdots_any (c0:UInt8) (r:B) (hs:(c0::r).length≤4294967280) (w:World) (hE:Env w):Calls Tryz.prog 49 #[.string (str (c0::r))] w fun e w'=>e= .returned (decE ((dotsL (cutAt 47 r) []).map joinS))∧Below w.heap.size w w':=by
 obtain⟨i0,hi0,hz0,hz1,hz2⟩:=info_parts infoB;obtain⟨n,hn⟩:∃ n,(c0::r).length=n:=⟨_,rfl⟩;have hn2:r.length+1=n:=by rw [←hn];rfl
 have HN:=hid hn;obtain⟨S,hS⟩:∃ S,str (c0::r)=S:=⟨_,rfl⟩;have hSn:S.size=n:=by rw [←hS,str_size,hn]
 have hex:S.extract 1 n=str r:=by rw [←hS,ext_drop _ 1 n hn];rfl
 obtain⟨Dn,hDn⟩:∃ Dn,dotsL (cutAt 47 r) []=Dn:=⟨_,rfl⟩;have HD0:=hid (show dotsL (toCome r true) []=Dn from hDn);have HRo:=hid (show roomN r true=n from hn2);have HE:=hid hE;have h1n:1≤n:=by omega
 rw [hn] at hs;rw [hS,hDn];obtain⟨R0,hR0⟩:∃ R0,str r=R0:=⟨_,rfl⟩;have HR0:=hid hR0;rw [hR0] at hex;clear hn hS hDn hE hn2 hR0;obtain⟨W0,hmk,hown0,hbel0⟩:=mk_row w n (by omega);have HO0:=hid hown0;have HB0:=hid hbel0;clear hown0 hbel0;go_enter Tryz.func49,Tryz.ntmps49;go_wp2;clear hmk hex;go_loopg [4,5,6] (meas r true) (fun gk s4 s5 s6 wr=>∃ (rest:B) (more:Bool) (out:List B),gk=meas rest more∧s5= .string (str rest)∧s6= .bool more∧Own wr w.heap.size s4 (joinS out)∧Whole out∧dotsL (toCome rest more) out=Dn∧(joinS out).length+roomN rest more≤n∧Below w.heap.size w wr)
 case atStart=>exact⟨r,true,[],rfl,by rw [HR0.out],rfl,HO0.out,fun s hs=>by simp at hs,HD0.out,by rw [HRo.out];simp [joinS],HB0.out⟩
 case round=>
  obtain⟨rest,more,out,rfl,rfl,rfl,ho,hwh,hR,hro,hb⟩:=hrel;have HBr:=hid hb;have HR:=hid hR;have HWh:=hid hwh;obtain⟨ln,hln⟩:∃ ln,(joinS out).length=ln:=⟨_,rfl⟩;have HLe:=hid hln;obtain⟨p,c0,rfl⟩:=own_slice ho;have HOr:=hid ho;rw [hln] at HOr hro ⊢;have hcap:=HOr.out.cap;have HBo:=hid (show Below w.heap.size w wr from hb);clear ho hb hln hR hwh;cases more with
  |false=>
   have HV:=hid (show Dn=some out from by rw [←HR.out];rfl);have hcv:=conv_own HOr.out;go_wp2;go_ret2;rw [HV.out];exact⟨rfl,HBr.out⟩
  |true=>
   obtain⟨t,rest',more',hcut⟩:∃ t rest' more',cutF 47 rest=(t,rest',more'):=⟨_,_,_,rfl⟩;have HCt:=hid (pcut_any 47 rest (by unfold roomN at hro;simp at hro;omega));rw [hcut] at HCt;obtain⟨hrm,hms,htn⟩:=room_cut hcut;have HTn:=hid htn;have HMs:=hid hms;have HRi:=hid (show dotsL (t::toCome rest' more') out=Dn from by rw [←HR.out,come_cut,hcut]);have HNil:=hid (come_nil rest' more');clear htn hms hcut;obtain⟨rn,hrn⟩:∃ rn,roomN rest' more'=rn:=⟨_,rfl⟩;rw [hrn] at hrm;rw [←hrm] at hro;have HRn:=hid hrn;clear hrm hrn;obtain⟨T5,hT5⟩:∃ T5,str rest=T5:=⟨_,rfl⟩;rw [hT5] at HCt;have HT5:=hid hT5;rw [hT5];clear hT5;have H47:=hid (show Lib.byteCells [47]= [.int .u8 47] from rfl);by_cases h2:t= [46,46]
   · subst h2;rcases List.eq_nil_or_concat out with ha|⟨ac2,xl,ha⟩
     · subst ha;obtain rfl:ln=0:=by rw [←HLe.out];rfl
       have HF:=hid (show Dn=none from by rw [←HRi.out,dots_nil2]);go_wp2_with (go_at_call 80;(with_reducible refine(HCt.out _ (HE.out.below HBo.out)).mono ?_);rintro e w1 ⟨rfl,hb1⟩;have HO:=hid (HOr.out.keep hb1);have HB:=hid (HBr.out.trans (hb1.mono HBr.out.size));clear hb1);go_ret2;rw [HF.out];exact⟨rfl,HB.out⟩
     · rw [List.concat_eq_append] at ha;subst ha;obtain⟨hw1,hw2⟩:=whole_less HWh.out;have HW1:=hid hw1;obtain⟨k,hk⟩:∃ k,(joinS ac2).length=k:=⟨_,rfl⟩;have HLk:=hid hk;have hkl:k+1≤ln:=by rw [←HLe.out,join_one,List.length_append,hk];simp
       rw [join_one] at HOr HLe;have HLa:=hid (show ∀ (w1:World),Own w1 w.heap.size (.slice p ln c0) (joinS ac2++47::xl)→_ from fun w1 h1=>last_any w.heap.size (joinS ac2) xl hw2 ln HLe.out (by omega) p c0 w1 h1);rw [hk] at HLa;have HKc:=hid (show ∀ (w1:World),Own w1 w.heap.size (.slice p ln c0) (joinS ac2++47::xl)→Own w1 w.heap.size (.slice p k c0) (joinS ac2) from fun w1 h1=>by have h8:=h1.less;rw [hk] at h8;exact h8);have hl0:¬(ln:Int)=0:=by omega
       have hl1:((ln:Int)== 0)=false:=by simpa using hl0
       have hkc:(k:Int)≤(c0:Int):=by omega
       clear hk hw1 hw2;cases more' with
       |true=>
        have HNx:=hid (show dotsL (toCome rest' true) ac2=Dn from by rw [←HRi.out,dots_two,if_neg (by simp [toCome,cut_ne])]);go_wp2_with (first|(go_at_call 80;(with_reducible refine(HCt.out _ (HE.out.below HBo.out)).mono ?_);rintro e w1 ⟨rfl,hb1⟩;have HO:=hid (HOr.out.keep hb1);have HB:=hid (HBr.out.trans (hb1.mono HBr.out.size));clear hb1)|(go_at_call 91;(with_reducible refine(HLa.out _ HO.out).mono ?_);rintro e w2 ⟨rfl,rfl⟩));go_roundg (meas rest' true)
        case measure=>exact HMs.out
        case rel=>exact⟨rest',true,ac2,rfl,rfl,rfl,HKc.out _ HO.out,HW1.out,HNx.out,by rw [HLk.out,HRn.out];omega,HB.out⟩
       |false=>
        have HNx:=hid (show dotsL (toCome rest' false) (ac2++ [[]])=Dn from by rw [←HRi.out,dots_two,if_pos (by simp [toCome])]);go_wp2_with (first|(go_at_call 80;(with_reducible refine(HCt.out _ (HE.out.below HBo.out)).mono ?_);rintro e w1 ⟨rfl,hb1⟩;have HO:=hid (HOr.out.keep hb1);have HB:=hid (HBr.out.trans (hb1.mono HBr.out.size));clear hb1)|(go_at_call 91;(with_reducible refine(HLa.out _ HO.out).mono ?_);rintro e w2 ⟨rfl,rfl⟩;have HOk:=hid (HKc.out _ HO.out))|(at_builtin;refine wpList_append_own_at _ rfl (.tmp 35) (.tmp 36) 138 rfl w.heap.size 5 i0 _ 1 1 Tryz.underlying138 hi0 hz0 hz1 hz2 rfl (by decide) (.slice p k c0) k (Lib.byteCells (joinS ac2)) (by go_simp) (by have h8:=HOk.out.alloc (.cells #[.int .u8 47] 5 (0,0));unfold Own at h8;rw [HLk.out] at h8;exact h8) ⟨w2.heap.size,0,none⟩ 1 1 [.int .u8 47] (by go_simp) rfl (cells_new w2 _ _) (by simp [Value.oneCell']) (by unfold maxLen;omega) (by omega) (Nat.le_trans HB.out.size (below_new _ _).size) ?_;intro v' w9 hown hgr _ _;obtain⟨p7,L7,c7,rfl⟩:=own_slice3 hown;have HB2:=hid (HB.out.trans (((below_new w2 (.cells #[.int .u8 47] 5 (0,0))).mono HB.out.size).trans (Own.below (HOk.out.alloc (.cells #[.int .u8 47] 5 (0,0))) (Nat.le_trans HB.out.size (below_new _ _).size) hgr)));have HW:=hid (Own.put (acc:=(joinS ac2)) (bs:=[47]) (by rw [HLk.out];exact hown) H47.out rfl);clear hown hgr));go_roundg (meas rest' false)
        case measure=>exact HMs.out
        case rel=>exact⟨rest',false,ac2++ [[]],rfl,rfl,rfl,by rw [join_end];exact HW.out,whole_app HW1.out (by simp),HNx.out,by rw [join_end,List.length_append,HLk.out,HRn.out];simp;omega,HB2.out⟩
   · by_cases h1:t= [46]
     · subst h1;cases more' with
       |true=>
        have HNx:=hid (show dotsL (toCome rest' true) out=Dn from by rw [←HRi.out,dots_one,if_neg (by simp [toCome,cut_ne])]);go_wp2_with (go_at_call 80;(with_reducible refine(HCt.out _ (HE.out.below HBo.out)).mono ?_);rintro e w1 ⟨rfl,hb1⟩;have HO:=hid (HOr.out.keep hb1);have HB:=hid (HBr.out.trans (hb1.mono HBr.out.size));clear hb1);go_roundg (meas rest' true)
        case measure=>exact HMs.out
        case rel=>exact⟨rest',true,out,rfl,rfl,rfl,HO.out,HWh.out,HNx.out,by rw [HLe.out,HRn.out];omega,HB.out⟩
       |false=>
        have HNx:=hid (show dotsL (toCome rest' false) (out++ [[]])=Dn from by rw [←HRi.out,dots_one,if_pos (by simp [toCome])]);go_wp2_with (first|(go_at_call 80;(with_reducible refine(HCt.out _ (HE.out.below HBo.out)).mono ?_);rintro e w1 ⟨rfl,hb1⟩;have HO:=hid (HOr.out.keep hb1);have HB:=hid (HBr.out.trans (hb1.mono HBr.out.size));clear hb1)|(at_builtin;refine wpList_append_own_at _ rfl (.tmp 35) (.tmp 36) 138 rfl w.heap.size 5 i0 _ 1 1 Tryz.underlying138 hi0 hz0 hz1 hz2 rfl (by decide) (.slice p ln c0) ln (Lib.byteCells (joinS out)) (by go_simp) (by have h8:=HO.out.alloc (.cells #[.int .u8 47] 5 (0,0));unfold Own at h8;rw [HLe.out] at h8;exact h8) ⟨w1.heap.size,0,none⟩ 1 1 [.int .u8 47] (by go_simp) rfl (cells_new w1 _ _) (by simp [Value.oneCell']) (by unfold maxLen;omega) (by omega) (Nat.le_trans HB.out.size (below_new _ _).size) ?_;intro v' w' hown hgr _ _;obtain⟨p7,L7,c7,rfl⟩:=own_slice3 hown;have HB2:=hid (HB.out.trans (((below_new w1 (.cells #[.int .u8 47] 5 (0,0))).mono HB.out.size).trans (Own.below (HO.out.alloc (.cells #[.int .u8 47] 5 (0,0))) (Nat.le_trans HB.out.size (below_new _ _).size) hgr)));have HW:=hid (Own.put (acc:=(joinS out)) (bs:=[47]) (by rw [HLe.out];exact hown) H47.out rfl);clear hown hgr));go_roundg (meas rest' false)
        case measure=>exact HMs.out
        case rel=>exact⟨rest',false,out++ [[]],rfl,rfl,rfl,by rw [join_end];exact HW.out,whole_app HWh.out (by simp),HNx.out,by rw [join_end,List.length_append,HLe.out,HRn.out];simp;omega,HB2.out⟩
     · have HNx:=hid (show dotsL (toCome rest' more') (out++ [t])=Dn from by rw [←HRi.out,dots_else h1 h2]);have q1:((str t).toList== (⟨#[46]⟩:ByteArray).toList)=false:=ne_list (str_ne h1);have q2:((str t).toList== (⟨#[46,46]⟩:ByteArray).toList)=false:=ne_list (str_ne h2);have q3:(t== [46])=false:=by simpa using h1
       have q4:(t== [46,46])=false:=by simpa using h2
       obtain⟨lt,hlt⟩:∃ lt,t.length=lt:=⟨_,rfl⟩;rw [hlt] at hro;have HTs:=hid (show (str t).size=lt from by rw [str_size,hlt]);have HLt:=hid hlt;have HL1:=hid (show (joinS out++ [47]).length=ln+1 from by rw [List.length_append,HLe.out];rfl);clear hlt;go_wp2_with (first|(go_at_call 80;(with_reducible refine(HCt.out _ (HE.out.below HBo.out)).mono ?_);rintro e w1 ⟨rfl,hb1⟩;have HO:=hid (HOr.out.keep hb1);have HB:=hid (HBr.out.trans (hb1.mono HBr.out.size));clear hb1)|(at_builtin;refine wpList_append_own_at _ rfl (.tmp 38) (.tmp 39) 138 rfl w.heap.size 5 i0 _ 1 1 Tryz.underlying138 hi0 hz0 hz1 hz2 rfl (by decide) (.slice p ln c0) ln (Lib.byteCells (joinS out)) (by go_simp) (by have h8:=HO.out.alloc (.cells #[.int .u8 47] 5 (0,0));unfold Own at h8;rw [HLe.out] at h8;exact h8) ⟨w1.heap.size,0,none⟩ 1 1 [.int .u8 47] (by go_simp) rfl (cells_new w1 _ _) (by simp [Value.oneCell']) (by unfold maxLen;omega) (by omega) (Nat.le_trans HB.out.size (below_new _ _).size) ?_;intro v' w7 hown hgr _ _;obtain⟨p7,L7,c7,rfl⟩:=own_slice3 hown;have HB7:=hid (HB.out.trans (((below_new w1 (.cells #[.int .u8 47] 5 (0,0))).mono HB.out.size).trans (Own.below (HO.out.alloc (.cells #[.int .u8 47] 5 (0,0))) (Nat.le_trans HB.out.size (below_new _ _).size) hgr)));have HW7:=hid (Own.put (acc:=(joinS out)) (bs:=[47]) (by rw [HLe.out];exact hown) H47.out rfl);clear hown hgr)|(at_builtin;refine Lib.wpList_append_own_string _ rfl (.tmp 40) (.tmp 41) 138 9 rfl w.heap.size 5 i0 Tryz.underlying138 Tryz.underlying9 hi0 hz0 hz1 hz2 (.slice p7 L7 c7) (ln+1) (Lib.byteCells (joinS out++ [47])) (by go_simp) (by have h8:=HW7.out;unfold Own at h8;rw [HL1.out] at h8;exact h8) (str t) (by go_simp) (by rw [HTs.out];unfold maxLen;omega) (by rw [HTs.out];omega) HB7.out.size ?_;intro v' w8 hown hgr _;obtain⟨p8,L8,c8,rfl⟩:=own_slice3 hown;have HB8:=hid (HB7.out.trans (Own.below HW7.out HB7.out.size hgr));have HW8:=hid (Own.put (acc:=joinS out++ [47]) (bs:=t) (by rw [HL1.out];exact hown) (by rw [strCells_str]) (by rw [HTs.out,HLt.out]));clear hown hgr));go_roundg (meas rest' more')
       case measure=>exact HMs.out
       case rel=>exact⟨rest',more',out++ [t],rfl,rfl,rfl,by rw [join_one,show (joinS out++47::t)=joinS out++ [47]++t from by simp];exact HW8.out,whole_app HWh.out HTn.out,HNx.out,by rw [join_one,List.length_append,HLe.out,HRn.out,List.length_cons,HLt.out];omega,HB8.out⟩
theorem ppath_any (s:B) (hs:s.length≤35184372088832) (w:World):Calls Tryz.prog 48 #[.string (str s)] w fun e w'=>e= .returned (.bool (isPath s))∧w'=w:=by
 have HP:=hid (pprefix_any s);have HM:=hid (made_path s hs);rw [path_made] at HM;have e0:isPath s=(decide (s.head? =some 47) && made [47] true s):=rfl;rw [e0];obtain⟨a,ha⟩:∃ a,decide (s.head? =some 47)=a:=⟨_,rfl⟩;obtain⟨b,hb⟩:∃ b,made [47] true s=b:=⟨_,rfl⟩;obtain⟨S,hS⟩:∃ S,str s=S:=⟨_,rfl⟩;rw [ha,hS] at HP;rw [hb,hS] at HM;rw [ha,hb,hS];clear ha hb hS e0;cases a with
 |true=>
  go_enter Tryz.func48,Tryz.ntmps48;go_wp2_with (first|(go_at_call 87;(with_reducible refine(HP.out _).mono ?_);rintro e w1 ⟨rfl,rfl⟩)|(go_at_call 88;(with_reducible refine(HM.out _).mono ?_);rintro e w1 ⟨rfl,rfl⟩));go_ret;exact⟨rfl,rfl⟩
 |false=>
  go_enter Tryz.func48,Tryz.ntmps48;go_wp2_with (go_at_call 87;(with_reducible refine(HP.out _).mono ?_);rintro e w1 ⟨rfl,rfl⟩);go_ret;exact⟨rfl,rfl⟩
theorem pquery_any (s:B) (hs:s.length≤35184372088832) (w:World):Calls Tryz.prog 118 #[.string (str s)] w fun e w'=>e= .returned (.bool (isQuery s))∧w'=w:=by
 have HM:=hid (made_query s hs);rw [query_made] at HM;obtain⟨b,hb⟩:∃ b,isQuery s=b:=⟨_,rfl⟩;obtain⟨S,hS⟩:∃ S,str s=S:=⟨_,rfl⟩;rw [hb,hS] at HM;rw [hb,hS];clear hb hS;go_enter Tryz.func118,Tryz.ntmps118;go_wp2_with (go_at_call 88;(with_reducible refine(HM.out _).mono ?_);rintro e w1 ⟨rfl,rfl⟩);go_ret;exact⟨rfl,rfl⟩
theorem pnormal_any (s:B) (hs:s.length≤4294967280) (w:World) (hE:Env w):Calls Tryz.prog 20 #[.string (str s)] w fun e w'=>e= .returned (decE (normalB s))∧Below w.heap.size w w':=by
 have HP:=hid (ppath_any s (by omega));have HO:=hid (oneway_any s (by omega));have HE:=hid hE;clear hE;cases hp:isPath s with
 |false=>
  have HV:=hid (show normalB s=none from by unfold normalB;rw [hp];rfl);rw [hp] at HP;rw [HV.out];clear HO hp;obtain⟨S,hS⟩:∃ S,str s=S:=⟨_,rfl⟩;rw [hS] at HP ⊢;clear hS;go_enter Tryz.func20,Tryz.ntmps20;go_wp2_with (go_at_call 48;(with_reducible refine(HP.out _).mono ?_);rintro e w1 ⟨rfl,rfl⟩);go_ret2;exact⟨rfl,Below.refl _ _⟩
 |true=>
  obtain⟨l,rfl⟩:∃ l,s=47::l:=by
   cases s with
   |nil=>exact absurd hp (by decide)
   |cons c l=>
    unfold isPath at hp;simp only [List.head?_cons,Option.some.injEq,Bool.and_eq_true,decide_eq_true_eq] at hp;exact⟨l,by rw [hp.1]⟩
  have hm:=meant_cons (c:=47) (by decide) l;have HV:=hid (show normalB (47::l)=(dotsL (cutAt 47 (meantB l)) []).map joinS from by unfold normalB;rw [hp,hm];show Option.map joinS (dotsL (segs (47::meantB l)) [])=_;unfold segs;rw [cutAt,if_pos rfl];rfl);have hml:=meant_len (47::l);rw [hm] at hml HO;have HW:=hid (wdots_any 47 (meantB l) (Nat.le_trans hml hs));rw [hp] at HP;rw [HV.out];clear hp hml hm;obtain⟨V,hV⟩:∃ V,decE ((dotsL (cutAt 47 (meantB l)) []).map joinS)=V:=⟨_,rfl⟩;have HTu:=hid (show ∃ a b,V= .tuple #[a,b] from by rw [←hV];unfold decE;split <;> exact⟨_,_,rfl⟩);rw [hV] at HW ⊢;obtain⟨va,vb,rfl⟩:=HTu.out;obtain⟨S,hS⟩:∃ S,str (47::l)=S:=⟨_,rfl⟩;obtain⟨M,hM⟩:∃ M,str (47::meantB l)=M:=⟨_,rfl⟩;rw [hS] at HP HO ⊢;rw [hM] at HO HW;clear hS hM hV;go_enter Tryz.func20,Tryz.ntmps20;go_wp2_with (first|(go_at_call 48;(with_reducible refine(HP.out _).mono ?_);rintro e w1 ⟨rfl,rfl⟩)|(go_at_call 50;(with_reducible refine(HO.out _).mono ?_);rintro e w2 ⟨rfl,hb⟩;have HB2:=hid hb;clear hb)|(go_at_call 49;(with_reducible refine(HW.out _ (HE.out.below HB2.out)).mono ?_);rintro e w3 ⟨rfl,hb⟩;have HB3:=hid (below_out HB2.out hb);clear hb));go_ret2;exact⟨rfl,HB3.out⟩
open Go.RowKit Go.Maps
theorem env_mx {w:World} (h:MxAt w):Env w:=⟨h⟩
theorem found_size:(Tryz.prog.info? 47).map (·.size)=some 3:=by kernel_rfl
theorem results_fd {fn:Func}{p u:Tmp} (h:fn.results= #[.cell p 47,.tmp u]) (tmps:Array Value) (w:World) (g:Nat) (t:TypeId) (cs:Array Value) (fr:Nat×Nat)
  (hp:tmps.getD p undef= .pointer (some ⟨g,0,none⟩)) (hg:w.heap[g]?=some (.cells cs t fr)) (hs:cs.size=3):(results fn tmps).run Tryz.prog w= .ok (.tuple #[.agg cs,tmps.getD u undef]) w:=by
 have hl:=run_loadVar_row (P:=Tryz.prog) w g t 47 cs fr _ hg Tryz.underlying47 rfl (by rw [found_size,hs]);have hp2:tmps[p]?.getD undef= .pointer (some ⟨g,0,none⟩):=by simpa using hp
 simp [results,h,hp2,asAddr,Result.andThen,hl]
theorem heap_three {w:World}{g:Nat}{a b c:Value}{T:TypeId} (h:w.heap[g]?=some (.cells #[a,b,c] T (0,0))) (x y z:Value):(((w.setCell ⟨g,0,none⟩ x).setCell ⟨g,1,none⟩ y).setCell ⟨g,2,none⟩ z).heap[g]?=some (.cells #[x,y,z] T (0,0)):=
 heap_set1 (heap_set1 (heap_set1 h (o:=0) (v:=x)) (o:=1) (v:=y)) (o:=2) (v:=z)
theorem below_three {b g:Nat}{w0 w:World} (hb:Below b w0 w) (hB:b≤g) (x y z:Value):Below b w0 (((w.setCell ⟨g,0,none⟩ x).setCell ⟨g,1,none⟩ y).setCell ⟨g,2,none⟩ z):=
 ((hb.setCell hB (p:=⟨g,0,none⟩) x).setCell hB (p:=⟨g,1,none⟩) y).setCell hB (p:=⟨g,2,none⟩) z
structure FdBox (w:World) (g:Nat) (a b c u v:Value):Prop where
 z0:w.cell? ⟨g,0,none⟩=some a
 f0:w.frozen? ⟨g,0,none⟩=false
 z1:(w.setCell ⟨g,0,none⟩ u).cell? ⟨g,1,none⟩=some b
 f1:(w.setCell ⟨g,0,none⟩ u).frozen? ⟨g,1,none⟩=false
 z2:((w.setCell ⟨g,0,none⟩ u).setCell ⟨g,1,none⟩ v).cell? ⟨g,2,none⟩=some c
 f2:((w.setCell ⟨g,0,none⟩ u).setCell ⟨g,1,none⟩ v).frozen? ⟨g,2,none⟩=false
theorem fd_box {w:World}{g:Nat}{a b c:Value}{T:TypeId} (h:w.heap[g]?=some (.cells #[a,b,c] T (0,0))) (u v:Value):FdBox w g a b c u v:=by
 have h1:(w.setCell ⟨g,0,none⟩ u).heap[g]?=some (.cells #[u,b,c] T (0,0)):=heap_set1 h;have h2:((w.setCell ⟨g,0,none⟩ u).setCell ⟨g,1,none⟩ v).heap[g]?=some (.cells #[u,v,c] T (0,0)):=heap_set1 h1;exact⟨(box3 h).1,(box3 h).2.2.2 0,(box3 h1).2.1,(box3 h1).2.2.2 1,(box3 h2).2.2.1,(box3 h2).2.2.2 2⟩
theorem OwnF.set3 {w:World}{base g:Nat}{a b c x y z:Value}{T:TypeId}{v:Value}{F:List (B×B)} (h:OwnF w base v F) (hg:w.heap[g]?=some (.cells #[a,b,c] T (0,0))) (hT:T≠73:=by decide):OwnF (((w.setCell ⟨g,0,none⟩ x).setCell ⟨g,1,none⟩ y).setCell ⟨g,2,none⟩ z) base v F:=by
 have hne:v.ownBlock≠some g:=fun e=>by
  rcases h.2 with ⟨h1,_⟩|⟨g1,cap,cur,h1,h2,h3,h4⟩
  · rw [h1] at e;cases e
  · rw [h1] at e;obtain rfl:g1=g:=by simpa [Value.ownBlock] using e
    rw [hg] at h3;injection h3 with h3
    injection h3 with _ h5 _
    exact hT h5
 have hb:∀ k,v.ownBlock=some k→(((w.setCell ⟨g,0,none⟩ x).setCell ⟨g,1,none⟩ y).setCell ⟨g,2,none⟩ z).heap[k]?=w.heap[k]?:=fun k e=>by
  have hk:k≠g:=fun e2=>hne (by rw [e,e2])
  rw [RowKit.Below.heap_setCell _ ⟨g,2,none⟩ z k hk,RowKit.Below.heap_setCell _ ⟨g,1,none⟩ y k hk,RowKit.Below.heap_setCell _ ⟨g,0,none⟩ x k hk]
 refine⟨h.1,?_⟩;rcases h.2 with h1|⟨g1,cap,cur,h1,h2,h3,h4⟩
 · exact .inl h1
 · exact .inr ⟨g1,cap,cur,h1,h2,(hb g1 (by rw [h1];rfl)).trans h3,h4⟩
def meantV (host path:B):Value:=if (canonN host).2=0 then decE (normalB path) else .tuple #[.string (str []),errOf (canonN host).2]
theorem pmeant_any (host path:B) (hh:host.length≤9223372036854775807) (hp:path.length≤4294967280) (w:World) (hmx:MxAt w):Calls Tryz.prog 30 #[.string (str host),.string (str path)] w fun e w'=>e= .returned (meantV host path)∧Below w.heap.size w w':=by
 have HC:=hid (pcanonN host hh w hmx);have HP:=hid (fun (W:World) (hb:Below w.heap.size w W)=>pnormal_any path hp W (env_mx (hmx.next hb)));unfold meantV;obtain⟨SH,hSH⟩:∃ S,str host=S:=⟨_,rfl⟩;obtain⟨SM,hSM⟩:∃ S,str path=S:=⟨_,rfl⟩;rw [hSH] at HC ⊢;rw [hSM] at HP ⊢;obtain⟨v,hv⟩:∃ v,(canonN host).1=v:=⟨_,rfl⟩;obtain⟨k,hk⟩:∃ k,(canonN host).2=k:=⟨_,rfl⟩;rw [hv,hk] at HC;rw [hk];clear hSH hSM hv hk hmx;by_cases h0:k=0
 · subst h0;rw [show errOf 0= .nilIface from rfl] at HC;rw [if_pos rfl];cases hn:normalB path with
   |none=>
    rw [hn] at HP;unfold decE at HP ⊢;dsimp only at HP ⊢;clear hn;go_enter Tryz.func30,Tryz.ntmps30;go_wp2_with (first|(go_at_call 66;(with_reducible refine HC.out.mono ?_);rintro e w1 ⟨rfl,hb1⟩;have HB1:=hid hb1;clear hb1)|(go_at_call 20;(with_reducible refine(HP.out _ HB1.out).mono ?_);rintro e w2 ⟨rfl,hb2⟩;have HB2:=hid (below_out HB1.out hb2);clear hb2));go_ret2;exact⟨rfl,HB2.out⟩
   |some y=>
    rw [hn] at HP;unfold decE at HP ⊢;dsimp only at HP ⊢;clear hn;go_enter Tryz.func30,Tryz.ntmps30;go_wp2_with (first|(go_at_call 66;(with_reducible refine HC.out.mono ?_);rintro e w1 ⟨rfl,hb1⟩;have HB1:=hid hb1;clear hb1)|(go_at_call 20;(with_reducible refine(HP.out _ HB1.out).mono ?_);rintro e w2 ⟨rfl,hb2⟩;have HB2:=hid (below_out HB1.out hb2);clear hb2));go_ret2;exact⟨rfl,HB2.out⟩
 · rw [if_neg h0];have he:=errOf_ne h0;rw [he] at HC ⊢;clear he;go_enter Tryz.func30,Tryz.ntmps30;go_wp2_with (go_at_call 66;(with_reducible refine HC.out.mono ?_);rintro e w1 ⟨rfl,hb1⟩;have HB1:=hid hb1;clear hb1);go_ret2;exact⟨rfl,HB1.out⟩
theorem plen_nil (w:World):Calls Tryz.prog 15 #[.pointer none] w fun e w'=>e= .returned (.int .i64 0)∧w'=w:=by
 go_enter Tryz.func15,Tryz.ntmps15;go_wp2;go_ret;exact⟨rfl,rfl⟩
def FndNo (L:List RtC) (host path method:B) (k:Nat):Prop:=
 ((canonN host).2≠0∧k=(canonN host).2)∨
 ((canonN host).2=0∧normalB path=none∧k=23)∨
 ((canonN host).2=0∧∃ m,normalB path=some m∧(WayNo L host m k∨(k=8∧∃ h p F,WayYes L host m h p F∧∀ (i:Nat) (r:RtC),i∈waysR L h p.1→L[i]?=some r→takesR r.ms method=false)))
def FndYes (L:List RtC) (host path method:B) (i:Nat) (F:List (B×B)) (m:B):Prop:=
 (canonN host).2=0∧normalB path=some m∧∃ h p r,WayYes L host m h p F∧i∈waysR L h p.1∧L[i]?=some r∧takesR r.ms method=true
def foundV (i:Nat) (v:Value) (m:B):Value:=.agg #[.int .i64 (i:Int),v,.string (str m)]
def FndAns (L:List RtC) (host path method:B) (w:World) (e:Ending) (w':World):Prop:=Below w.heap.size w w'∧
 ((∃ k,FndNo L host path method k∧k≠0∧e= .returned (.tuple #[foundV 0 (.slice none 0 0) [],errOf k]))∨
  (∃ i F m q d,FndYes L host path method i F m∧e= .returned (.tuple #[foundV i (.slice q F.length d) m,.nilIface])∧OwnF w' w.heap.size (.slice q F.length d) F))
abbrev fd0:Array Value:=#[.int .i64 0,.slice none 0 0,.string ⟨#[]⟩]
theorem pfind_nil (host path method:B) (w:World):Calls Tryz.prog 12 #[.pointer none,.string (str host),.string (str path),.string (str method)] w fun e w'=>e= .returned (.tuple #[foundV 0 (.slice none 0 0) [],errOf 8])∧Below w.heap.size w w':=by
 obtain⟨SH,hSH⟩:∃ S,str host=S:=⟨_,rfl⟩;obtain⟨SM,hSM⟩:∃ S,str path=S:=⟨_,rfl⟩;obtain⟨SK,hSK⟩:∃ S,str method=S:=⟨_,rfl⟩;rw [hSH,hSM,hSK];go_enter Tryz.func12,Tryz.ntmps12;go_wp2;refine bodyPost_ret (results_fd rfl _ _ w.heap.size _ _ (0,0) rfl (heap_alloc_new w _) rfl) rfl ?_;exact⟨rfl,below_new w _⟩
theorem pfind_any {b0:Nat}{w:World}{t gh m:Nat}{L:List RtC}{M:Nat} (h:TabQ b0 w t gh m (contQ L M)) (hs:b0≤w.heap.size) (hmx:MxAt w) (h64:L.length≤64) (hzp:∀ r∈L,r.path.length≤4398046511104) (hzm:∀ r∈L,r.ms.length≤140737488355328) (host path method:B) (hh:host.length≤9223372036854775807) (hp:path.length≤4294967280) (hnl:∀ y,normalB path=some y→y.length≤140737488355328):
  Calls Tryz.prog 12 #[.pointer (some ⟨t,0,none⟩),.string (str host),.string (str path),.string (str method)] w fun e w'=>FndAns L host path method w e w':=by
 have HQ:=hid h;have HS:=hid hs;have HMx:=hid hmx;have HG0:=hid (heap_alloc_new w (.cells fd0 47 (0,0)));have HB0:=hid (below_new w (.cells fd0 47 (0,0)));have HMe:=hid (pmeant_any host path hh hp (w.alloc (.cells fd0 47 (0,0))) (hmx.next (below_new w _)));have HWa:=hid (fun (W:World) (hb:Below w.heap.size w W) (y:B) (hy:normalB path=some y)=>pway_any (h.next hs hb) (Nat.le_trans hs hb.size) (hmx.next hb) h64 hzp host y hh (hnl y hy));have HCn:=hid (show (canonN host).2=0∨(canonN host).2≠0 from Classical.em _);unfold meantV at HMe;obtain⟨SH,hSH⟩:∃ S,str host=S:=⟨_,rfl⟩;obtain⟨SM,hSM⟩:∃ S,str path=S:=⟨_,rfl⟩;obtain⟨SK,hSK⟩:∃ S,str method=S:=⟨_,rfl⟩;have HSK:=hid hSK;rw [hSH] at HWa;rw [hSH,hSM] at HMe;rw [hSH,hSM,hSK];clear hSH hSM hSK h hs hmx;rcases HCn.out with hc|hc
 · rw [if_pos hc] at HMe;cases hn:normalB path with
   |none=>
    rw [hn] at HMe;unfold decE at HMe;dsimp only at HMe;have HNo:=hid (show FndNo L host path method 23 from .inr (.inl ⟨hc,hn,rfl⟩));clear hc hn HCn;go_enter Tryz.func12,Tryz.ntmps12;go_wp2_with (go_at_call 30;(with_reducible refine HMe.out.mono ?_);rintro e w1 ⟨rfl,hb1⟩;have HB1:=hid (below_out HB0.out hb1);have HG1:=hid (kB hb1 HG0.out);obtain⟨z0,f0,z1,f1,z2,f2⟩:=fd_box HG1.out (.int .i64 0) (.slice none 0 0);clear hb1);refine bodyPost_ret (results_fd rfl _ _ w.heap.size _ _ (0,0) rfl (heap_three HG1.out _ _ _) rfl) rfl ?_;exact⟨below_three HB1.out (Nat.le_refl _) _ _ _,.inl ⟨23,HNo.out,by decide,rfl⟩⟩
   |some y=>
    rw [hn] at HMe;unfold decE at HMe;dsimp only at HMe;have HWy:=hid (fun (W:World) (hb:Below w.heap.size w W)=>HWa.out W hb y hn);have HHn:=hid hn;have HHc:=hid hc;obtain⟨SY,hSY⟩:∃ S,str y=S:=⟨_,rfl⟩;have HSY:=hid hSY;rw [hSY] at HMe HWy;clear hc hn HCn HWa hSY;go_enter Tryz.func12,Tryz.ntmps12;go_upto_region 7 with (first|(go_at_call 30;(with_reducible refine HMe.out.mono ?_);rintro e w1 ⟨rfl,hb1⟩;have HB1:=hid (below_out HB0.out hb1);have HG1:=hid (kB hb1 HG0.out);clear hb1)|(go_at_call 31;(with_reducible refine(HWy.out _ HB1.out).mono ?_);rintro e w2 ⟨hb2,⟨k,hno,hk0,rfl⟩|⟨hx,p,F,q,n,c,q2,d,hyes,rfl,hrow,hof⟩⟩))
    · have HB2:=hid (below_out HB1.out hb2);have HG2:=hid (kB hb2 HG1.out);have HEr:=hid (errOf_ne hk0);rw [HEr.out];obtain⟨z0,f0,z1,f1,z2,f2⟩:=fd_box HG2.out (.int .i64 0) (.slice none 0 0);have HNo:=hid (show FndNo L host path method k from .inr (.inr ⟨HHc.out,y,HHn.out,.inl hno⟩));have HK0:=hid hk0;clear hno hb2 hk0;go_wp2;refine bodyPost_ret (results_fd rfl _ _ w.heap.size _ _ (0,0) rfl (heap_three HG2.out _ _ _) rfl) rfl ?_;exact⟨below_three HB2.out (Nat.le_refl _) _ _ _,.inl ⟨k,HNo.out,HK0.out,by rw [HEr.out];rfl⟩⟩
    · have HB2:=hid (below_out HB1.out hb2);have HG2:=hid (kB hb2 HG1.out);have HYes:=hid hyes;have HRow:=hid hrow;have HOf:=hid (hof.lowT HB1.out.size);have hnl9:n=(numsR (waysR L hx p.1)).length:=row_lenH hrow;have HNl:=hid hnl9;have hn64:n≤64:=by have h9:=ways_len hx p.1 L;rw [hnl9];unfold numsR;rw [List.length_map];omega
      have hs2:=Nat.le_trans HS.out HB2.out.size;have HQ2:=hid (HQ.out.next HS.out HB2.out);clear hyes hrow hof hb2 hnl9 HMe HWy;go_wp2;go_loopg [44] (n+1) (fun gk s44 wr=>∃ k:Nat,k≤n∧gk=n-k+1∧s44= .int .i64 (k:Int)∧(∀ (i:Nat) (r:RtC),i∈(waysR L hx p.1).take k→L[i]?=some r→takesR r.ms method=false)∧Below w2.heap.size w2 wr)
      case atStart=>exact⟨0,Nat.zero_le _,rfl,rfl,by simp,Below.refl _ _⟩
      case round=>
       obtain⟨k,hk,rfl,rfl,hno,hb⟩:=hrel;have HNo:=hid hno;have HBk:=hid hb;have HBw:=hid (below_out HB2.out hb);have HGk:=hid (kB hb HG2.out);clear hno hb;by_cases hin:k<n
       · have hkl:k<(waysR L hx p.1).length:=by have:=HNl.out;unfold numsR at this;rw [List.length_map] at this;omega
         obtain⟨i,hi⟩:∃ i,(waysR L hx p.1)[k]?=some i:=⟨_,List.getElem?_eq_getElem hkl⟩;have hi2:(numsR (waysR L hx p.1))[k]?=some (i:Int):=by unfold numsR;rw [List.getElem?_map,hi];rfl
         obtain⟨gq,rfl,q1⟩:=OwnN.num ((HRow.out.keep HBk.out).lower (Nat.zero_le _)) hi2;obtain⟨r,hr,hr1,hr2⟩:=(mem_ways hx p.1 L i).1 (List.mem_of_getElem? hi);obtain⟨O,vp,vr,ts,wv,es,hI,hl⟩:=HQ2.out.next hs2 HBk.out
         obtain⟨pr,nr,cr,rfl⟩:=own_slice3 hI.rts;have hesc:=hI.esc;rw [show (contQ L M).es=L.map (fun r=>(r.path,r.ms)) from rfl] at hesc;have hel:es.length=L.length:=by have h2:=congrArg List.length hesc;simpa using h2
         have hil:=(List.getElem?_eq_some_iff.1 hr).1;have hinr:i<nr:=by rw [show nr=es.length from row_lenH hI.rts,hel];exact hil
         obtain⟨z,hz⟩:∃ z,es[i]?=some z:=⟨_,List.getElem?_eq_getElem (by rw [hel];exact hil)⟩;have hzm2:z.ms=r.ms:=by
          have h9:(es.map (fun x=>(x.path,x.ms)))[i]?=(L.map (fun r=>(r.path,r.ms)))[i]?:=by rw [hesc]
          rw [List.getElem?_map,List.getElem?_map,hz,hr] at h9;injection h9 with h9
          exact congrArg Prod.snd h9
         obtain⟨gr,rfl,x0,x1⟩:=OwnE_q.cells hI.rts hz;have c3:=(idx_cells hI.bx).2.2.2.1;have HTk:=hid (ptakes_any z.ms z.q z.ms.length z.k rfl (by rw [hzm2];exact hzm r (List.mem_of_getElem? hr)) (str z.path) method wr (hI.ems z (List.mem_of_getElem? hz)).1);rw [HSK.out,hzm2] at HTk;rw [hzm2] at x1;obtain⟨SQ,hSQ⟩:∃ S,str z.path=S:=⟨_,rfl⟩;rw [hSQ] at HTk x0;obtain⟨zn,hzn⟩:∃ zn,r.ms.length=zn:=⟨_,rfl⟩;rw [hzn] at HTk x1;have HIm:=hid (List.mem_of_getElem? hi);have HR:=hid hr;have HTs:=hid (show (waysR L hx p.1).take (k+1)=(waysR L hx p.1).take k++ [i] from by rw [List.take_add_one,hi];rfl);obtain⟨v,hv⟩:∃ v,takesR r.ms method=v:=⟨_,rfl⟩;have HV:=hid hv;rw [hv] at HTk;clear hkl hi hi2 hr hr1 hr2 hI hl hesc hel hil hz hzm2 hSQ hzn hv;cases v with
         |true=>
          have HFY:=hid (show FndYes L host path method i F y from⟨HHc.out,HHn.out,hx,p,r,HYes.out,HIm.out,HR.out,HV.out⟩);go_wp2_with (go_at_call 32;(with_reducible refine HTk.out.mono ?_);rintro e w3 ⟨rfl,hb3⟩;have HB3:=hid (below_out HBw.out hb3);have HG3:=hid (kB hb3 HGk.out);have HO3:=hid ((HOf.out.keep HBk.out).keep hb3);obtain⟨z0,f0,z1,f1,z2,f2⟩:=fd_box HG3.out (.int .i64 (i:Int)) (.slice q2 F.length d);clear hb3);refine bodyPost_ret (results_fd rfl _ _ w.heap.size _ _ (0,0) rfl (heap_three HG3.out _ _ _) rfl) rfl ?_;exact⟨below_three HB3.out (Nat.le_refl _) _ _ _,.inr ⟨i,F,y,q2,d,HFY.out,by unfold foundV;rw [HSY.out];rfl,OwnF.set3 HO3.out HG3.out⟩⟩
         |false=>
          go_wp2_with (go_at_call 32;(with_reducible refine HTk.out.mono ?_);rintro e w3 ⟨rfl,hb3⟩;have HB3:=hid (HBk.out.trans (hb3.mono HBk.out.size));clear hb3);go_roundg (n-(k+1)+1)
          case measure=>omega
          case rel=>
           refine⟨k+1,by omega,rfl,by push_cast;go_num,?_,HB3.out⟩;intro j u hj hu;rw [HTs.out,List.mem_append,List.mem_singleton] at hj;rcases hj with hj|hj
           · exact HNo.out j u hj hu
           · subst hj;have h9:=HR.out;rw [hu] at h9;injection h9 with h9
             rw [h9];exact HV.out
       · obtain rfl:n=k:=by omega
         have HNf:=hid (show FndNo L host path method 8 from .inr (.inr ⟨HHc.out,y,HHn.out,.inr ⟨rfl,hx,p,F,HYes.out,fun i r hi hr=>HNo.out i r (by rw [List.take_of_length_le (by have:=HNl.out;unfold numsR at this;rw [List.length_map] at this;omega)];exact hi) hr⟩⟩));obtain⟨z0,f0,z1,f1,z2,f2⟩:=fd_box HGk.out (.int .i64 0) (.slice none 0 0);go_wp2;refine bodyPost_ret (results_fd rfl _ _ w.heap.size _ _ (0,0) rfl (heap_three HGk.out _ _ _) rfl) rfl ?_;exact⟨below_three HBw.out (Nat.le_refl _) _ _ _,.inl ⟨8,HNf.out,by decide,rfl⟩⟩
 · rw [if_neg hc] at HMe;have HNo:=hid (show FndNo L host path method (canonN host).2 from .inl ⟨hc,rfl⟩);obtain⟨k,hk⟩:∃ k,(canonN host).2=k:=⟨_,rfl⟩;rw [hk] at HMe HNo hc;have HEr:=hid (errOf_ne hc);rw [HEr.out] at HMe;have HK:=hid hc;clear hc HCn hk HWa;go_enter Tryz.func12,Tryz.ntmps12;go_wp2_with (go_at_call 30;(with_reducible refine HMe.out.mono ?_);rintro e w1 ⟨rfl,hb1⟩;have HB1:=hid (below_out HB0.out hb1);have HG1:=hid (kB hb1 HG0.out);obtain⟨z0,f0,z1,f1,z2,f2⟩:=fd_box HG1.out (.int .i64 0) (.slice none 0 0);clear hb1);refine bodyPost_ret (results_fd rfl _ _ w.heap.size _ _ (0,0) rfl (heap_three HG1.out _ _ _) rfl) rfl ?_;exact⟨below_three HB1.out (Nat.le_refl _) _ _ _,.inl ⟨k,HNo.out,HK.out,by rw [HEr.out];rfl⟩⟩
end Go.Proofs.YtlmlljlappjjjaaGreatDoor
