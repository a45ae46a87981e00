/- Labels, by the program: which may be, and those of a host or a pattern. -/
import Derived.Test.YtlmlljlappjjjaaGreatDoorTFit
namespace Go.Proofs.YtlmlljlappjjjaaGreatDoor
set_option maxRecDepth 20000
set_option maxHeartbeats 8000000
open Go.RowKit
def lowI (c:Int):Bool:=digB c || (decide (97≤c) && decide (c≤122)) || decide (c=45) || decide (c=95)
def lowU (c:UInt8):Bool:=lowI (c.toNat:Int)
def isLabB (s:B):Bool:=s.all lowU && decide (s≠ []) && decide (s.length≤63)
theorem lowU_small (c:UInt8):lowU (smallU c)=hostU c:=by
 unfold lowU hostU lowI hostI;rw [smallU_val];have h1:=c.toNat_lt;unfold smallV;rw [Bool.eq_iff_iff];split <;> simp [digB] <;> omega
theorem smallU_eq {c x:UInt8} (hx:¬(65≤x.toNat∧x.toNat≤90)) (hx2:¬(97≤x.toNat∧x.toNat≤122)):smallU c=x↔c=x:=by
 unfold smallU;by_cases h:65≤c.toNat∧c.toNat≤90
 · rw [if_pos h];constructor
   · intro e;have:=congrArg UInt8.toNat e;rw [UInt8.toNat_ofNat'] at this;omega
   · intro e;subst e;exact absurd h hx
 · rw [if_neg h]
theorem cutH_low:∀ s:B,cutH (lowH s)=(cutH s).map lowH
 | []=>rfl
 |c::s=>by
  have ih:=cutH_low s;show cutH (smallU c::lowH s)=_;rw [cutH_cons,cutH_cons];have hd:smallU c=46↔c=46:=smallU_eq (by decide) (by decide);by_cases h:c=46
  · rw [if_pos (hd.2 h),if_pos h,ih];rfl
  · rw [if_neg (fun e=>h (hd.1 e)),if_neg h,ih];cases cutH s <;> rfl
theorem star_low (x:B):lowH x=starL↔x= [42]:=by
 cases x with
 |nil=>simp [lowH,starL]
 |cons c r=>
  cases r with
  |nil=>
   have:smallU c=42↔c=42:=smallU_eq (by decide) (by decide);simp [lowH,starL,this]
  |cons d r=>simp [lowH,starL]
theorem low_len (x:B):(lowH x).length=x.length:=by simp [lowH]
theorem low_all (x:B):(lowH x).all lowU=x.all hostU:=by
 unfold lowH;rw [List.all_map];congr 1;funext c;exact lowU_small c
def okP (wild:Bool) (x:B):Bool:=isLabB x || (wild && decide (x=starL))
theorem okP_low (wild:Bool) (x:B):okP wild (lowH x)=okLab wild x:=by
 unfold okP isLabB okLab;rw [low_all,low_len];have h0:(lowH x≠ [])↔1≤x.length:=by
  rw [←low_len x];cases lowH x <;> simp
 have hs:=star_low x;rw [Bool.eq_iff_iff];simp only [Bool.or_eq_true,Bool.and_eq_true,decide_eq_true_eq,h0,hs];constructor
 · rintro (⟨⟨h1,h2⟩,h3⟩|⟨h1,h2⟩)
   · exact⟨⟨h2,h3⟩,.inr h1⟩
   · exact⟨⟨by rw [h2];decide,by rw [h2];decide⟩,.inl ⟨h1,h2⟩⟩
 · rintro ⟨⟨h1,h2⟩,h3|h3⟩
   · exact .inr h3
   · exact .inl ⟨⟨h3,h1⟩,h2⟩
theorem labsH_low (wild:Bool) (s:B):labsH wild s=if 253<s.length then none else if (cutH (lowH s)).all (okP wild) then some (cutH (lowH s)) else none:=by
 unfold labsH;have e:(cutH (lowH s)).all (okP wild)=(cutH s).all (okLab wild):=by
  rw [cutH_low,List.all_map];congr 1;funext x;exact okP_low wild x
 by_cases h0:s= []
 · subst h0;cases wild <;> rfl
 · by_cases h1:253<s.length
   · rw [if_pos (.inr h1),if_pos h1]
   · rw [if_neg (fun h=>h.elim h0 h1),if_neg h1,e,cutH_low]
theorem lab_snoc (S:ByteArray) (k:Nat) (h:k<S.size):(S.data.toList.take (k+1)).all lowU=((S.data.toList.take k).all lowU && lowI (S[k].toNat:Int)):=by
 rw [List.take_succ_eq_append_getElem (by simpa using h),List.all_append];simp [lowU];rfl
theorem lab_stop (S:ByteArray) (k:Nat) (h:k<S.size) (hv:lowI (S[k].toNat:Int)=false):isLabB S.data.toList=false:=by
 unfold isLabB;have:S.data.toList.all lowU=false:=by
  rw [List.all_eq_false];exact⟨S[k],List.getElem_mem (by simpa using h),by unfold lowU;rw [hv];simp⟩
 rw [this];rfl
theorem lab_end (S:ByteArray) (h:(S.data.toList.take S.size).all lowU=true):isLabB S.data.toList=(decide (¬S=⟨#[]⟩) && decide (S.size≤63)):=by
 unfold isLabB;rw [List.take_of_length_le (by simp)] at h;rw [h,Bool.true_and];congr 1;rw [Bool.eq_iff_iff];simp only [decide_eq_true_eq];constructor
 · intro h1 e;subst e;exact h1 rfl
 · intro h1 e;exact h1 (arr_inj e)
theorem isLabel_arr (S:ByteArray) (w:World) (hs:S.size≤140737488355328):
  Calls Tryz.prog 139 #[.string S] w fun e w'=>e= .returned (.bool (isLabB S.data.toList))∧w'=w:=by
 go_enter Tryz.func139,Tryz.ntmps139;go_wp2;go_loop [7] (fun i=>∃ k:Nat,k≤S.size∧i= .int .i64 k∧(S.data.toList.take k).all lowU=true) (fun i=>S.size-(intOf i).toNat)
 case atStart=>exact⟨0,Nat.zero_le _,rfl,rfl⟩
 case round=>
  obtain⟨k,hk,rfl,hall⟩:=hrel;by_cases hlt:k<S.size
  · have hb:=S[k].toNat_lt;have HG:=hid (show lowI (S[k].toNat:Int)=true→(S.data.toList.take (k+1)).all lowU=true from fun h=>by rw [lab_snoc S k hlt,hall,h];rfl);have HF:=hid (show lowI (S[k].toNat:Int)=false→isLabB S.data.toList=false from lab_stop S k hlt);clear hall;obtain⟨Y,hY⟩:∃ Y,S[k].toNat=Y:=⟨_,rfl⟩;rw [hY] at HG HF hb;cases hd:digB (Y:Int) with
    |true=>
     go_wp2_with (go_at_call 116;refine(digit_any _ _ (by omega) (by omega)).mono ?_;rintro e w' ⟨rfl,rfl⟩);go_round
     case rel=>exact⟨k+1,by omega,by go_num,HG.out (by unfold lowI;simp [hd])⟩
     case measure=>simp [intOf];omega
    |false=>
     by_cases h97:Y<97
     · have i97:(Y:Int)<97:=by omega
       by_cases h45:Y=45
       · have i45:(Y:Int)=45:=by omega
         have j45:((Y:Int) != 45)=false:=by rw [i45];rfl
         go_wp2_with (go_at_call 116;refine(digit_any _ _ (by omega) (by omega)).mono ?_;rintro e w' ⟨rfl,rfl⟩);go_round
         case rel=>exact⟨k+1,by omega,by go_num,HG.out (by unfold lowI;simp [i45])⟩
         case measure=>simp [intOf];omega
       · have i45:¬(Y:Int)=45:=by omega
         have j45:((Y:Int) != 45)=true:=by simpa using i45
         by_cases h95:Y=95
         · have i95:(Y:Int)=95:=by omega
           have j95:((Y:Int) != 95)=false:=by rw [i95];rfl
           go_wp2_with (go_at_call 116;refine(digit_any _ _ (by omega) (by omega)).mono ?_;rintro e w' ⟨rfl,rfl⟩);go_round
           case rel=>exact⟨k+1,by omega,by go_num,HG.out (by unfold lowI;simp [i95])⟩
           case measure=>simp [intOf];omega
         · have i95:¬(Y:Int)=95:=by omega
           have j95:((Y:Int) != 95)=true:=by simpa using i95
           go_wp2_with (go_at_call 116;refine(digit_any _ _ (by omega) (by omega)).mono ?_;rintro e w' ⟨rfl,rfl⟩);go_ret;exact⟨ret_bool (HF.out (by unfold lowI;simp [hd];omega)).symm,rfl⟩
     · have i97:¬(Y:Int)<97:=by omega
       by_cases h122:122<Y
       · have i122:(122:Int)<(Y:Int):=by omega
         have i45:¬(Y:Int)=45:=by omega
         have j45:((Y:Int) != 45)=true:=by simpa using i45
         have i95:¬(Y:Int)=95:=by omega
         have j95:((Y:Int) != 95)=true:=by simpa using i95
         go_wp2_with (go_at_call 116;refine(digit_any _ _ (by omega) (by omega)).mono ?_;rintro e w' ⟨rfl,rfl⟩);go_ret;exact⟨ret_bool (HF.out (by unfold lowI;simp [hd];omega)).symm,rfl⟩
       · have i122:¬(122:Int)<(Y:Int):=by omega
         have i1:(97:Int)≤(Y:Int):=by omega
         have i2:(Y:Int)≤122:=by omega
         go_wp2_with (go_at_call 116;refine(digit_any _ _ (by omega) (by omega)).mono ?_;rintro e w' ⟨rfl,rfl⟩);go_round
         case rel=>exact⟨k+1,by omega,by go_num,HG.out (by unfold lowI;simp [i1,i2])⟩
         case measure=>simp [intOf];omega
  · obtain rfl:k=S.size:=by omega
    have HE:=hid (lab_end S hall);clear hall;by_cases h0:S=⟨#[]⟩
    · subst h0;go_wp2;go_ret;exact⟨ret_bool (by rw [HE.out];rfl),rfl⟩
    · have hne2:(S.toList== (⟨#[]⟩:ByteArray).toList)=false:=ne_list h0;have hne3:S.toList.isEmpty=false:=ne_empty h0;have hne4:(S.toList== [])=false:=by have h:=hne2;rw [ByteArray.toList_eq,ByteArray.toList_eq] at h;rw [ByteArray.toList_eq];exact h
      go_wp2;go_ret;exact⟨ret_bool (by rw [HE.out];simp [h0];try omega),rfl⟩
theorem isLabel_any (x:B) (w:World) (hs:x.length≤140737488355328):
 Calls Tryz.prog 139 #[.string (str x)] w fun e w'=>e= .returned (.bool (isLabB x))∧w'=w:=isLabel_arr (str x) w (by rw [str_size];exact hs)
theorem below_low (s:B) (w:World) (hs:s.length≤253):Calls Tryz.prog 100 #[.string (str s)] w fun e w'=>e= .returned (.string (str (lowH s)))∧Below w.heap.size w w':=by
 have h:=lower_any (str s) w (by rw [str_size];unfold maxLen;omega);rw [lowS_strH] at h;exact h
abbrev err3:Value:=.iface 74 (.int .i64 3)
def PLab (o:Option (List B)) (w:World) (e:Ending) (w':World):Prop:=Below w.heap.size w w'∧match o with
 |none=>e= .returned (.tuple #[.slice none 0 0,err3])
 |some L=>∃ q d,e= .returned (.tuple #[.slice q L.length d,.nilIface])∧OwnS w' w.heap.size (.slice q L.length d) L
theorem plab_no {o:Option (List B)}{w w':World}{e:Ending} (h:o=none) (he:e= .returned (.tuple #[.slice none 0 0,err3])) (hb:Below w.heap.size w w'):PLab o w e w':=by subst h;exact⟨hb,he⟩
theorem plab_yes {o:Option (List B)}{L:List B}{w w':World}{e:Ending}{q:Option Addr}{n d:Nat} (h:o=some L) (hn:L.length=n) (he:e= .returned (.tuple #[.slice q n d,.nilIface])) (ho:OwnS w' w.heap.size (.slice q n d) L) (hb:Below w.heap.size w w'):PLab o w e w':=by subst h;subst hn;exact⟨hb,q,d,he,ho⟩
theorem cutH_mem_len:∀ {s:B}{x:B},x∈cutH s→x.length≤s.length
 | [],x,h=>by simp [cutH] at h;subst h;exact Nat.le_refl _
 |c::s,x,h=>by
  rw [cutH_cons] at h;split at h
  · rcases List.mem_cons.1 h with h|h
    · subst h;exact Nat.zero_le _
    · have:=cutH_mem_len h;simp;omega
  · split at h
    · simp at h;subst h;simp
    · rename_i y l e
      rcases List.mem_cons.1 h with h|h
      · subst h;have:=@cutH_mem_len s y (by rw [e];simp);simp;omega
      · have:=@cutH_mem_len s x (by rw [e];simp [h]);simp;omega
theorem plabels_any (s:B) (wild:Bool) (hs:s.length≤9223372036854775807) (w:World) (hmx:MxAt w):Calls Tryz.prog 107 #[.string (str s),.bool wild] w fun e w'=>PLab (labsH wild s) w e w':=by
 obtain⟨n,hn⟩:∃ n,s.length=n:=⟨_,rfl⟩;have HLb:=hid (labsH_low wild s);by_cases h253:253<n
 · rw [hn,if_pos h253] at HLb;obtain⟨S,hS⟩:∃ S,str s=S:=⟨_,rfl⟩;have hSn:S.size=n:=by rw [←hS,str_size,hn]
   have h253':(253:Int)<(n:Int):=by omega
   rw [hS];clear hS hn;go_enter Tryz.func107,Tryz.ntmps107;go_wp2;go_ret2;exact plab_no HLb.out rfl (Below.refl _ _)
 · rw [hn,if_neg h253] at HLb;have HLo:=hid (fun W:World=>below_low s W (by omega));have HSp:=hid (fun (W:World) (h:MxAt W)=>psplitH (lowH s) (by rw [low_len];omega) W h);have HM:=hid hmx;obtain⟨L,hL⟩:∃ L,lowH s=L:=⟨_,rfl⟩;have hLn:L.length=n:=by rw [←hL,low_len,hn]
   rw [hL] at HLo HSp HLb;have hX3:=cutH_len L;have HXl:=hid (show ∀ x∈cutH L,x.length≤140737488355328 from fun x h=>Nat.le_trans (cutH_mem_len h) (by omega));obtain⟨X,hX⟩:∃ X,cutH L=X:=⟨_,rfl⟩;rw [hX] at HSp HXl hX3 HLb;obtain⟨m,hm⟩:∃ m,X.length=m:=⟨_,rfl⟩;have HMn:=hid hm;rw [hm] at HSp hX3;obtain⟨S,hS⟩:∃ S,str s=S:=⟨_,rfl⟩;have hSn:S.size=n:=by rw [←hS,str_size,hn]
   obtain⟨SL,hSL⟩:∃ S,str L=S:=⟨_,rfl⟩;rw [hS] at HLo ⊢;rw [hSL] at HLo HSp;have h253':¬(253:Int)<(n:Int):=by omega
   have hm2:m≤254:=by omega
   clear hS hn hL hLn hX hm hSL hX3 hmx hs;go_enter Tryz.func107,Tryz.ntmps107;go_wp2_with (first|(go_at_call 100;(with_reducible refine(HLo.out _).mono ?_);rintro e w1 ⟨rfl,hb1⟩;have HB1:=hid hb1;clear hb1 HLo)|(go_at_call 133;(with_reducible refine(HSp.out _ (HM.out.next HB1.out)).mono ?_);rintro e w2 ⟨p2,c2,rfl,ho,hb⟩;have HB2:=hid (below_out HB1.out hb);have HO:=hid (ho.base HB1.out.size);clear ho hb HSp HB1));have HT:=hid HO.out.lb;go_loopg [18] (m+1) (fun gk s18 wr=>∃ i:Nat,i≤m∧gk=m-i+1∧s18= .int .i64 (i:Int)∧(X.take i).all (okP wild)=true∧wr=w2)
   case atStart=>exact⟨0,by omega,rfl,rfl,rfl,rfl⟩
   case round=>
    obtain⟨i,hi,rfl,rfl,hal,rfl⟩:=hrel;have HA:=hid hal;clear hal;by_cases hin:i<m
    · have h1:i<X.length:=by rw [HMn.out];exact hin
      obtain⟨x,hx⟩:∃ x,X[i]?=some x:=⟨_,List.getElem?_eq_getElem h1⟩;obtain⟨g1,o1,rfl,q1⟩:=HT.out i x hx;have hxe:X[i]=x:=(List.getElem?_eq_some_iff.1 hx).2;have HG:=hid (show okP wild x=true→(X.take (i+1)).all (okP wild)=true from fun h=>by rw [List.take_succ_eq_append_getElem h1,List.all_append,HA.out,hxe];simp [h]);have HF:=hid (show okP wild x=false→labsH wild s=none from fun h=>by
       rw [HLb.out,if_neg];intro h9;have:=List.all_eq_true.1 h9 x (List.mem_of_getElem? hx);rw [h] at this;cases this)
      have HIs:=hid (fun W:World=>isLabel_any x W (HXl.out x (List.mem_of_getElem? hx)));obtain⟨Sx,hSx⟩:∃ S,str x=S:=⟨_,rfl⟩;have HStar:=hid (show Sx=(⟨#[42]⟩:ByteArray)→x=starL from fun h=>str_inj (by rw [hSx,h];rfl));have HStar2:=hid (show x=starL→Sx=(⟨#[42]⟩:ByteArray) from fun h=>by rw [←hSx,h];rfl);rw [hSx] at q1 HIs;clear h1 hx hxe hSx;cases hl:isLabB x with
      |true=>
       rw [hl] at HIs;go_wp2_with (go_at_call 139;(with_reducible refine(HIs.out _).mono ?_);rintro e w3 ⟨rfl,rfl⟩);go_roundg (m-(i+1)+1)
       case measure=>omega
       case rel=>exact⟨i+1,by omega,rfl,by push_cast;go_num,HG.out (by unfold okP;rw [hl];rfl),rfl⟩
      |false=>
       rw [hl] at HIs;cases wild with
       |false=>
        go_wp2_with (go_at_call 139;(with_reducible refine(HIs.out _).mono ?_);rintro e w3 ⟨rfl,rfl⟩);go_ret2;exact plab_no (HF.out (by unfold okP;rw [hl];rfl)) rfl HB2.out
       |true=>
        by_cases hst:x=starL
        · have hS:=HStar2.out hst;subst hS;go_wp2_with (go_at_call 139;(with_reducible refine(HIs.out _).mono ?_);rintro e w3 ⟨rfl,rfl⟩);go_roundg (m-(i+1)+1)
          case measure=>omega
          case rel=>exact⟨i+1,by omega,rfl,by push_cast;go_num,HG.out (by unfold okP;rw [hl,hst];rfl),rfl⟩
        · have hs1:¬Sx=(⟨#[42]⟩:ByteArray):=fun h=>hst (HStar.out h)
          have hs4:(Sx.toList== (⟨#[42]⟩:ByteArray).toList)=false:=ne_list hs1;have hs5:(Sx.toList== [42])=false:=by have h:=hs4;rw [ByteArray.toList_eq,ByteArray.toList_eq] at h;rw [ByteArray.toList_eq];exact h
          go_wp2_with (go_at_call 139;(with_reducible refine(HIs.out _).mono ?_);rintro e w3 ⟨rfl,rfl⟩);go_ret2;exact plab_no (HF.out (by unfold okP;rw [hl,decide_eq_false hst];rfl)) rfl HB2.out
    · obtain rfl:m=i:=by omega
      go_wp2;go_ret2;exact plab_yes (by rw [HLb.out,if_pos (by have:=HA.out;rw [List.take_of_length_le (by rw [HMn.out];exact Nat.le_refl _)] at this;exact this)]) HMn.out rfl HO.out HB2.out
theorem check_parts {p:B} (h:checkP p=true):∃ t,p=47::t∧(cutT t).length≤64∧p.length≤256∧restLast (cutT t)=true:=by
 obtain⟨t,h1,h2,h3,_,h5⟩:=check_some h;exact⟨t,h1,h2,h3,h5⟩
theorem seg_yes {p:B} (h:checkP p=true) (w:World) (hmx:MxAt w):Calls Tryz.prog 97 #[.string (str p)] w fun e w'=>Below w.heap.size w w'∧∃ q n c,e= .returned (.tuple #[.slice q n c,.nilIface])∧OwnG w' w.heap.size (.slice q n c) (cutT p.tail)∧(cutT p.tail).length=n:=by
 obtain⟨t,_,_,h3,_⟩:=check_parts h;refine(segments_any p (by omega) w hmx).mono ?_;rintro e w' ⟨hb,⟨_,h1⟩|⟨h1,_⟩⟩
 · exact⟨hb,h1⟩
 · rw [h] at h1;cases h1
theorem seg_no {p:B} (hp:p.length≤140737488355328) (h:checkP p=false) (w:World) (hmx:MxAt w):Calls Tryz.prog 97 #[.string (str p)] w fun e w'=>e= .returned (.tuple #[.slice none 0 0,err3])∧Below w.heap.size w w':=by
 refine(segments_any p hp w hmx).mono ?_;rintro e w' ⟨hb,⟨h1,_⟩|⟨_,h1⟩⟩
 · rw [h] at h1;cases h1
 · exact⟨h1,hb⟩
theorem check_any (p:B) (hp:p.length≤140737488355328) (w:World) (hmx:MxAt w):Calls Tryz.prog 57 #[.string (str p)] w fun e w'=>e= .returned (if checkP p then .nilIface else err3)∧Below w.heap.size w w':=by
 cases hc:checkP p with
 |true=>
  have H:=hid (seg_yes hc w hmx);rw [if_pos rfl];obtain⟨S,hS⟩:∃ S,str p=S:=⟨_,rfl⟩;rw [hS] at H ⊢;clear hS hc hp hmx;go_enter Tryz.func57,Tryz.ntmps57;go_wp2_with (go_at_call 97;(with_reducible refine H.out.mono ?_);rintro e w1 ⟨hb1,q1,n1,c1,rfl,_,_⟩);go_ret;exact⟨rfl,by assumption⟩
 |false=>
  have H:=hid (seg_no hp hc w hmx);rw [if_neg (by decide)];obtain⟨S,hS⟩:∃ S,str p=S:=⟨_,rfl⟩;rw [hS] at H ⊢;clear hS hc hp hmx;go_enter Tryz.func57,Tryz.ntmps57;go_wp2_with (go_at_call 97;(with_reducible refine H.out.mono ?_);rintro e w1 ⟨rfl,hb1⟩);go_ret;exact⟨rfl,by assumption⟩
def fitsO (a path:B):Option (Option (List (B×B))):=if checkP a && begB 47 path then some (fitsT (cutT a.tail) (cutT path.tail)) else none
theorem fitL_cut {p t:B} (h:checkP p=true):fitL (cutT p.tail) t true=fitsT (cutT p.tail) (cutT t):=by
 obtain⟨t',rfl,_,_,h5⟩:=check_parts h;have:=fitL_same (cutT t') t true h5
 rwa [if_pos rfl] at this
theorem fit_yes {p:B} (h:checkP p=true) {q:Option Addr}{n c:Nat} (hn:(cutT p.tail).length=n) (t:B) (ht:t.length≤140737488355328) (w:World) (hmx:MxAt w) (hG:SgAt w q (cutT p.tail)):
  Calls Tryz.prog 111 #[.slice q n c,.string (str (47::t))] w fun e w'=>FitP (fitsT (cutT p.tail) (cutT t)) w e w':=by
 rw [←fitL_cut h];obtain⟨t',e1,h2,h3,h5⟩:=check_parts h;refine fit_any _ q n c hn (by rw [←hn,e1];exact h2) (fun x hx=>?_) t ht w hmx hG;have:=cutT_mem_len hx;rw [e1] at this h3;simp at this h3;omega
def beatsO (a b path:B):Bool×Nat:=match fitsO a path,fitsO b path with
 |none,_=>(false,3)
 |some _,none=>(false,3)
 |some (some _),some (some _)=>(betterT (cutT a.tail) (cutT b.tail),0)
 |_,_=>(false,8)
open Go.RowKit Go.Maps
structure Same (w w':World):Prop where
 heap:w'.heap=w.heap
 os:w'.os=w.os
 tape:w'.tape=w.tape
 output:w'.output=w.output
theorem Same.refl (w:World):Same w w:=⟨rfl,rfl,rfl,rfl⟩
theorem Same.trans {a b c:World} (h:Same a b) (k:Same b c):Same a c:=⟨k.heap.trans h.heap,k.os.trans h.os,k.tape.trans h.tape,k.output.trans h.output⟩
theorem same_drew (w:World) (q:Nat):Same w (w.drewN q):=⟨rfl,rfl,rfl,rfl⟩
theorem same_drew1 (w:World):Same w w.drew:=⟨rfl,rfl,rfl,rfl⟩
theorem Same.below {w w':World} (h:Same w w'):Below w.heap.size w w':=⟨h.os,h.tape,h.output,by rw [h.heap];exact Nat.le_refl _,fun k _=>by rw [h.heap]⟩
theorem TreeAt.same {w w':World}{F:Nat→Prop}{G:Gt}{M:Nat} (h:TreeAt w F G M) (hs:Same w w'):TreeAt w' F G M:=h.next hs.below
theorem MxAt.same {w w':World} (h:MxAt w) (hs:Same w w'):MxAt w':=h.next hs.below
theorem look_run {w:World}{F:Nat→Prop}{G:Gt}{M:Nat} (h:TreeAt w F G M) (k:List Ky) (x:B) (hx:x.length≤140737488355328):(Instr.lookup 167 (.map (G.mp k)) (.string (str x)) false).run Tryz.prog w= .ok (ptrN (G.nd (k++ [.plain x]))) w:=by
 have hkey:=Go.WideMaps.keyOf_string_mk (k:=9) Tryz.underlying9 (s:=str x) (show x.toArray.size≤maxLen by unfold maxLen;simp;omega);cases hm:G.mp k with
 |none=>
  rw [h.nomap k x hm,Maps.look_nil false lawP Tryz.underlying167 (zeroN w) hkey];rfl
 |some m=>
  obtain⟨_,n,D,ho,_,hf⟩:=h.map k m hm;obtain⟨v,ps,h1,h2⟩:=ho.lookup lawP Tryz.underlying167 (zeroN w) (zd:=.held none) (zp:=[]) rfl hkey;have e:(str x).data.toList=x:=by simp
  rw [e,hf x] at h2;rw [h1,ptrR_inv h2];rfl
def BestOk (F:Nat→Prop) (G:Gt) (M:Nat) (r:List B):Prop:=∀ (w:World) (left:B) (k:List Ky) (n:Nat),cutT left=r→left.length≤140737488355328→TreeAt w F G M→MxAt w→G.nd k=some n→Calls Tryz.prog 110 #[.pointer (some ⟨n,0,none⟩),.string (str left)] w fun e w'=>e= .returned (ptrN (behK G.en r k))∧Same w w'
theorem behind_of {F:Nat→Prop}{G:Gt}{M:Nat}{r:List B} (hB:r≠ []→BestOk F G M r) (w:World) (left:B) (more:Bool) (k:List Ky) (hm:r=if more then cutT left else []) (hl:left.length≤140737488355328) (hT:TreeAt w F G M) (hmx:MxAt w):
  Calls Tryz.prog 141 #[ptrN (G.nd k),.string (str left),.bool more] w fun e w'=>e= .returned (ptrN (behK G.en r k))∧Same w w':=by
 obtain⟨L,hL⟩:∃ L,str left=L:=⟨_,rfl⟩;cases hk:G.nd k with
 |none=>
  rw [behK_none r k (hT.none_en hk),ptrN_none,hL];clear hB hm hL hT hmx;go_enter Tryz.func141,Tryz.ntmps141;go_wp2;go_ret;exact⟨rfl,Same.refl _⟩
 |some n=>
  cases more with
  |true=>
   rw [if_pos rfl] at hm;have H:=hid (hB (by rw [hm];exact cutT_ne left) w left k n hm.symm hl hT hmx hk);rw [hL] at H;rw [ptrN_some,hL];obtain⟨V,hV⟩:∃ V,ptrN (behK G.en r k)=V:=⟨_,rfl⟩;rw [hV] at H ⊢;clear hB hm hL hT hmx hV hk;go_enter Tryz.func141,Tryz.ntmps141;go_wp2_with (go_at_call 110;(with_reducible refine H.out.mono ?_);rintro e w1 ⟨rfl,hs⟩);go_ret;exact⟨rfl,hs⟩
  |false=>
   rw [if_neg (by decide)] at hm;subst hm;have hn:=(hT.node k n hk).2.c3;show Calls Tryz.prog 141 #[ptrN (some n),.string (str left),.bool false] w fun e w'=>e= .returned (ptrN (G.en k))∧Same w w'
   rw [ptrN_some,hL];obtain⟨V,hV⟩:∃ V,ptrN (G.en k)=V:=⟨_,rfl⟩;rw [hV] at hn ⊢;clear hB hL hT hmx hV hk;go_enter Tryz.func141,Tryz.ntmps141;go_wp2;go_ret;exact⟨rfl,Same.refl _⟩
theorem best_any {F:Nat→Prop}{G:Gt}{M:Nat}:∀ r:List B,BestOk F G M r
 | []=>fun w left k n hc _ _ _ _=>absurd hc (cutT_ne left)
 |x0::r=>by
  intro w left k n hc hl hT hmx hk;have ih:r≠ []→BestOk F G M r:=fun _=>best_any r
  have hcc:=cutT_cut left;obtain⟨hl1,hl2⟩:=cutF_lensT left;have HC:=hid (pcutT left hl w hmx);obtain⟨⟨a,b,m⟩,hab⟩:∃ q,cutF 47 left=q:=⟨_,rfl⟩;rw [hab] at hcc HC hl1 hl2;dsimp only at hcc HC hl1 hl2;rw [hc] at hcc;injection hcc with e1 e2
  subst e1;have HBe:=hid (fun (W:World) (k':List Ky) (h1:TreeAt W F G M) (h2:MxAt W)=>behind_of ih W b m k' e2 (by omega) h1 h2);have HBr:=hid (fun (W:World) (k':List Ky) (h1:TreeAt W F G M) (h2:MxAt W)=>behind_of (r:=[]) (fun h=>absurd rfl h) W [] false k' rfl (by simp) h1 h2);have e0:behK G.en (x0::r) k=((behK G.en r (k++ [.plain x0])).orElse fun _=>if x0= [] then none else behK G.en r (k++ [.par])).orElse fun _=>G.en (k++ [.rest]):=rfl
  have e9:∀ k',behK G.en [] k'=G.en k':=fun _=>rfl
  have HLk:=hid (fun (W:World) (h:TreeAt W F G M)=>look_run h k x0 (by omega));have HT:=hid hT;have HMx:=hid hmx;have HNd:=hid (fun (W:World) (h:TreeAt W F G M)=>(h.node k n hk).2);obtain⟨L,hL⟩:∃ L,str left=L:=⟨_,rfl⟩;obtain⟨SA,hSA⟩:∃ S,str x0=S:=⟨_,rfl⟩;obtain⟨SB,hSB⟩:∃ S,str b=S:=⟨_,rfl⟩;obtain⟨mk,hmk⟩:∃ mk,G.mp k=mk:=⟨_,rfl⟩;rw [hL,hSA,hSB] at HC;rw [hSA,hmk] at HLk;rw [hSB] at HBe;rw [hmk] at HNd;rw [hL,e0];rw [show str ([]:B)=⟨#[]⟩ from rfl] at HBr;simp only [e9] at HBr;obtain⟨v1,hv1⟩:∃ v1,behK G.en r (k++ [.plain x0])=v1:=⟨_,rfl⟩;obtain⟨v2,hv2⟩:∃ v2,behK G.en r (k++ [.par])=v2:=⟨_,rfl⟩;obtain⟨v3,hv3⟩:∃ v3,G.en (k++ [.rest])=v3:=⟨_,rfl⟩;have H1:=hid (fun (W:World) (h1:TreeAt W F G M) (h2:MxAt W)=>HBe.out W (k++ [.plain x0]) h1 h2);have H2:=hid (fun (W:World) (h1:TreeAt W F G M) (h2:MxAt W)=>HBe.out W (k++ [.par]) h1 h2);have H3:=hid (fun (W:World) (h1:TreeAt W F G M) (h2:MxAt W)=>HBr.out W (k++ [.rest]) h1 h2);rw [hv1] at H1 ⊢;rw [hv2] at H2 ⊢;rw [hv3] at H3 ⊢;obtain⟨P1,hP1⟩:∃ P,ptrN (G.nd (k++ [.plain x0]))=P:=⟨_,rfl⟩;obtain⟨P2,hP2⟩:∃ P,ptrN (G.nd (k++ [.par]))=P:=⟨_,rfl⟩;obtain⟨P3,hP3⟩:∃ P,ptrN (G.nd (k++ [.rest]))=P:=⟨_,rfl⟩;have HN0:=hid (fun (W:World) (h:TreeAt W F G M)=>(HNd.out W h).c0);have HN1:=hid (fun (W:World) (h:TreeAt W F G M)=>(HNd.out W h).c1);have HN2:=hid (fun (W:World) (h:TreeAt W F G M)=>(HNd.out W h).c2);rw [hP1] at H1 HLk;rw [hP2] at H2 HN1;rw [hP3] at H3 HN2;have HX:=hid (show SA=⟨#[]⟩↔x0= [] from⟨fun e=>str_inj (by rw [hSA,e]),fun e=>by rw [←hSA,e]⟩);clear hL hSA hSB hmk hv1 hv2 hv3 hP1 hP2 hP3 HBe HBr HNd ih hc hab e0 e9 e2 hT hmx hk;cases v1 with
  |some b1=>
   rw [ptrN_some] at H1;have hv:((Option.orElse (some b1) fun _=>if x0= [] then none else v2).orElse fun _=>v3)=some b1:=rfl;rw [hv,ptrN_some];clear hv;go_enter Tryz.func110,Tryz.ntmps110;go_wp2_with (first|(go_at_call 80;(with_reducible refine HC.out.mono ?_);rintro e w1 ⟨rfl,z1,rfl⟩;have HT1:=hid (HT.out.same (same_drew w z1));have HM1:=hid (HMx.out.same (same_drew w z1));have q1:=HN0.out _ HT1.out;have q2:=HLk.out _ HT1.out)|(go_at_call 141;(with_reducible refine(H1.out _ HT1.out HM1.out).mono ?_);rintro e w2 ⟨rfl,hs2⟩;have HS2:=hid hs2;have HT2:=hid (HT1.out.same hs2);have HM2:=hid (HM1.out.same hs2);have q3:=HN1.out _ HT2.out;have q4:=HN2.out _ HT2.out;clear hs2 q1 q2));go_ret;exact⟨rfl,(same_drew w z1).trans HS2.out⟩
  |none=>
   rw [ptrN_none] at H1;by_cases hx:x0= []
   · obtain rfl:=HX.out.2 hx;have hv:((Option.orElse (none:Option Nat) fun _=>if x0= [] then none else v2).orElse fun _=>v3)=v3:=by rw [if_pos hx];rfl
     rw [hv];clear hv hx;obtain⟨V3,hV3⟩:∃ V,ptrN v3=V:=⟨_,rfl⟩;rw [hV3] at H3 ⊢;clear hV3;go_enter Tryz.func110,Tryz.ntmps110;go_wp2_with (first|(go_at_call 80;(with_reducible refine HC.out.mono ?_);rintro e w1 ⟨rfl,z1,rfl⟩;have HT1:=hid (HT.out.same (same_drew w z1));have HM1:=hid (HMx.out.same (same_drew w z1));have q1:=HN0.out _ HT1.out;have q2:=HLk.out _ HT1.out)|(go_at_call 141;(with_reducible refine(H1.out _ HT1.out HM1.out).mono ?_);rintro e w2 ⟨rfl,hs2⟩;have HS2:=hid hs2;have HT2:=hid (HT1.out.same hs2);have HM2:=hid (HM1.out.same hs2);have q3:=HN1.out _ HT2.out;have q4:=HN2.out _ HT2.out;clear hs2 q1 q2)|(go_at_call 141;(with_reducible refine(H3.out _ HT2.out HM2.out).mono ?_);rintro e w4 ⟨rfl,hs4⟩;have HS4:=hid hs4;clear hs4));go_ret;exact⟨rfl,((same_drew w z1).trans HS2.out).trans HS4.out⟩
   · have hne:¬SA=(⟨#[]⟩:ByteArray):=fun e=>hx (HX.out.1 e)
     have hne2:(SA.toList== (⟨#[]⟩:ByteArray).toList)=false:=ne_list hne;have hne3:SA.toList.isEmpty=false:=ne_empty hne;have hne4:(SA.toList== [])=false:=by have h:=hne2;rw [ByteArray.toList_eq,ByteArray.toList_eq] at h;rw [ByteArray.toList_eq];exact h
     have hv:((Option.orElse (none:Option Nat) fun _=>if x0= [] then none else v2).orElse fun _=>v3)=v2.orElse fun _=>v3:=by rw [if_neg hx];rfl
     rw [hv];clear hv hx;cases v2 with
     |some b2=>
      rw [ptrN_some] at H2;have hv:((some b2).orElse fun _=>v3)=some b2:=rfl;rw [hv,ptrN_some];clear hv;go_enter Tryz.func110,Tryz.ntmps110;go_wp2_with (first|(go_at_call 80;(with_reducible refine HC.out.mono ?_);rintro e w1 ⟨rfl,z1,rfl⟩;have HT1:=hid (HT.out.same (same_drew w z1));have HM1:=hid (HMx.out.same (same_drew w z1));have q1:=HN0.out _ HT1.out;have q2:=HLk.out _ HT1.out)|(go_at_call 141;(with_reducible refine(H1.out _ HT1.out HM1.out).mono ?_);rintro e w2 ⟨rfl,hs2⟩;have HS2:=hid hs2;have HT2:=hid (HT1.out.same hs2);have HM2:=hid (HM1.out.same hs2);have q3:=HN1.out _ HT2.out;have q4:=HN2.out _ HT2.out;clear hs2 q1 q2)|(go_at_call 141;(with_reducible refine(H2.out _ HT2.out HM2.out).mono ?_);rintro e w3 ⟨rfl,hs3⟩;have HS3:=hid hs3;have HT3:=hid (HT2.out.same hs3);have HM3:=hid (HM2.out.same hs3);have q5:=HN2.out _ HT3.out;clear hs3 q3 q4));go_ret;exact⟨rfl,((same_drew w z1).trans HS2.out).trans HS3.out⟩
     |none=>
      rw [ptrN_none] at H2;have hv:((none:Option Nat).orElse fun _=>v3)=v3:=rfl;rw [hv];clear hv;obtain⟨V3,hV3⟩:∃ V,ptrN v3=V:=⟨_,rfl⟩;rw [hV3] at H3 ⊢;clear hV3;go_enter Tryz.func110,Tryz.ntmps110;go_wp2_with (first|(go_at_call 80;(with_reducible refine HC.out.mono ?_);rintro e w1 ⟨rfl,z1,rfl⟩;have HT1:=hid (HT.out.same (same_drew w z1));have HM1:=hid (HMx.out.same (same_drew w z1));have q1:=HN0.out _ HT1.out;have q2:=HLk.out _ HT1.out)|(first|(go_at_call 141;(with_reducible refine(H1.out _ HT1.out HM1.out).mono ?_);rintro e w2 ⟨rfl,hs2⟩;have HS2:=hid hs2;have HT2:=hid (HT1.out.same hs2);have HM2:=hid (HM1.out.same hs2);have q3:=HN1.out _ HT2.out;have q4:=HN2.out _ HT2.out;clear hs2 q1 q2)|(go_at_call 141;(with_reducible refine(H2.out _ HT2.out HM2.out).mono ?_);rintro e w3 ⟨rfl,hs3⟩;have HS3:=hid hs3;have HT3:=hid (HT2.out.same hs3);have HM3:=hid (HM2.out.same hs3);have q5:=HN2.out _ HT3.out;clear hs3 q3 q4))|(go_at_call 141;(with_reducible refine(H3.out _ HT3.out HM3.out).mono ?_);rintro e w4 ⟨rfl,hs4⟩;have HS4:=hid hs4;clear hs4));go_ret;exact⟨rfl,(((same_drew w z1).trans HS2.out).trans HS3.out).trans HS4.out⟩
end Go.Proofs.YtlmlljlappjjjaaGreatDoor
