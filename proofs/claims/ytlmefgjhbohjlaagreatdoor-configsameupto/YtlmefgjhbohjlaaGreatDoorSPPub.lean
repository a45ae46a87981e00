/- Labels, by the program: which may be, and those of a host or a pattern. -/
import Derived.Test.YtlmefgjhbohjlaaGreatDoorTFits
namespace Go.Proofs.YtlmefgjhbohjlaaGreatDoor
set_option maxRecDepth 20000
set_option maxHeartbeats 8000000
open Go.RowKit
def lowI (c:Int):Bool:=digB c || (decide (97≤c) && decide (c≤122)) || decide (c=45) || decide (c=95)
def lowU (c:UInt8):Bool:=lowI (c.toNat:Int)
def isLabB (s:B):Bool:=s.all lowU && decide (s≠ []) && decide (s.length≤63)
theorem lowU_small (c:UInt8):lowU (smallU c)=hostU c:=by
 unfold lowU hostU lowI hostI;rw [smallU_val];have h1:=c.toNat_lt;unfold smallV;rw [Bool.eq_iff_iff];split <;> simp [digB] <;> omega
theorem smallU_eq {c x:UInt8} (hx:¬(65≤x.toNat∧x.toNat≤90)) (hx2:¬(97≤x.toNat∧x.toNat≤122)):smallU c=x↔c=x:=by
 unfold smallU;by_cases h:65≤c.toNat∧c.toNat≤90
 · rw [if_pos h];constructor
   · intro e;have:=congrArg UInt8.toNat e;rw [UInt8.toNat_ofNat'] at this;omega
   · intro e;subst e;exact absurd h hx
 · rw [if_neg h]
theorem cutH_low:∀ s:B,cutH (lowH s)=(cutH s).map lowH
 | []=>rfl
 |c::s=>by
  have ih:=cutH_low s;show cutH (smallU c::lowH s)=_;rw [cutH_cons,cutH_cons];have hd:smallU c=46↔c=46:=smallU_eq (by decide) (by decide);by_cases h:c=46
  · rw [if_pos (hd.2 h),if_pos h,ih];rfl
  · rw [if_neg (fun e=>h (hd.1 e)),if_neg h,ih];cases cutH s <;> rfl
theorem star_low (x:B):lowH x=starL↔x= [42]:=by
 cases x with
 |nil=>simp [lowH,starL]
 |cons c r=>
  cases r with
  |nil=>
   have:smallU c=42↔c=42:=smallU_eq (by decide) (by decide);simp [lowH,starL,this]
  |cons d r=>simp [lowH,starL]
theorem low_len (x:B):(lowH x).length=x.length:=by simp [lowH]
theorem low_all (x:B):(lowH x).all lowU=x.all hostU:=by
 unfold lowH;rw [List.all_map];congr 1;funext c;exact lowU_small c
def okP_s (wild:Bool) (x:B):Bool:=isLabB x || (wild && decide (x=starL))
theorem okP_low (wild:Bool) (x:B):okP_s wild (lowH x)=okLab wild x:=by
 unfold okP_s isLabB okLab;rw [low_all,low_len];have h0:(lowH x≠ [])↔1≤x.length:=by
  rw [←low_len x];cases lowH x <;> simp
 have hs:=star_low x;rw [Bool.eq_iff_iff];simp only [Bool.or_eq_true,Bool.and_eq_true,decide_eq_true_eq,h0,hs];constructor
 · rintro (⟨⟨h1,h2⟩,h3⟩|⟨h1,h2⟩)
   · exact⟨⟨h2,h3⟩,.inr h1⟩
   · exact⟨⟨by rw [h2];decide,by rw [h2];decide⟩,.inl ⟨h1,h2⟩⟩
 · rintro ⟨⟨h1,h2⟩,h3|h3⟩
   · exact .inr h3
   · exact .inl ⟨⟨h3,h1⟩,h2⟩
theorem labsH_low (wild:Bool) (s:B):labsH wild s=if 253<s.length then none else if (cutH (lowH s)).all (okP_s wild) then some (cutH (lowH s)) else none:=by
 unfold labsH;have e:(cutH (lowH s)).all (okP_s wild)=(cutH s).all (okLab wild):=by
  rw [cutH_low,List.all_map];congr 1;funext x;exact okP_low wild x
 by_cases h0:s= []
 · subst h0;cases wild <;> rfl
 · by_cases h1:253<s.length
   · rw [if_pos (.inr h1),if_pos h1]
   · rw [if_neg (fun h=>h.elim h0 h1),if_neg h1,e,cutH_low]
theorem lab_snoc (S:ByteArray) (k:Nat) (h:k<S.size):(S.data.toList.take (k+1)).all lowU=((S.data.toList.take k).all lowU && lowI (S[k].toNat:Int)):=by
 rw [List.take_succ_eq_append_getElem (by simpa using h),List.all_append];simp [lowU];rfl
theorem lab_stop (S:ByteArray) (k:Nat) (h:k<S.size) (hv:lowI (S[k].toNat:Int)=false):isLabB S.data.toList=false:=by
 unfold isLabB;have:S.data.toList.all lowU=false:=by
  rw [List.all_eq_false];exact⟨S[k],List.getElem_mem (by simpa using h),by unfold lowU;rw [hv];simp⟩
 rw [this];rfl
theorem lab_end (S:ByteArray) (h:(S.data.toList.take S.size).all lowU=true):isLabB S.data.toList=(decide (¬S=⟨#[]⟩) && decide (S.size≤63)):=by
 unfold isLabB;rw [List.take_of_length_le (by simp)] at h;rw [h,Bool.true_and];congr 1;rw [Bool.eq_iff_iff];simp only [decide_eq_true_eq];constructor
 · intro h1 e;subst e;exact h1 rfl
 · intro h1 e;exact h1 (arr_inj e)
theorem isLabel_arr (S:ByteArray) (w:World) (hs:S.size≤140737488355328):
 Calls Tryz.prog 309 #[.string S] w fun e w'=>e= .returned (.bool (isLabB S.data.toList))∧w'=w:=by
 go_enter Tryz.func309,Tryz.ntmps309;go_wp2;go_loop [7] (fun i=>∃ k:Nat,k≤S.size∧i= .int .i64 k∧(S.data.toList.take k).all lowU=true) (fun i=>S.size-(intOf i).toNat)
 case atStart=>exact⟨0,Nat.zero_le _,rfl,rfl⟩
 case round=>
  obtain⟨k,hk,rfl,hall⟩:=hrel;by_cases hlt:k<S.size
  · have hb:=S[k].toNat_lt;have HG:=hid (show lowI (S[k].toNat:Int)=true→(S.data.toList.take (k+1)).all lowU=true from fun h=>by rw [lab_snoc S k hlt,hall,h];rfl);have HF:=hid (show lowI (S[k].toNat:Int)=false→isLabB S.data.toList=false from lab_stop S k hlt);clear hall;obtain⟨Y,hY⟩:∃ Y,S[k].toNat=Y:=⟨_,rfl⟩;rw [hY] at HG HF hb;cases hd:digB (Y:Int) with
    |true=>
     go_wp2_with (go_at_call 300;refine(digit_any _ _ (by omega) (by omega)).mono ?_;rintro e w' ⟨rfl,rfl⟩);go_round
     case rel=>exact⟨k+1,by omega,by go_num,HG.out (by unfold lowI;simp [hd])⟩
     case measure=>simp [intOf];omega
    |false=>
     by_cases h97:Y<97
     · have i97:(Y:Int)<97:=by omega
       by_cases h45:Y=45
       · have i45:(Y:Int)=45:=by omega
         have j45:((Y:Int) != 45)=false:=by rw [i45];rfl
         go_wp2_with (go_at_call 300;refine(digit_any _ _ (by omega) (by omega)).mono ?_;rintro e w' ⟨rfl,rfl⟩);go_round
         case rel=>exact⟨k+1,by omega,by go_num,HG.out (by unfold lowI;simp [i45])⟩
         case measure=>simp [intOf];omega
       · have i45:¬(Y:Int)=45:=by omega
         have j45:((Y:Int) != 45)=true:=by simpa using i45
         by_cases h95:Y=95
         · have i95:(Y:Int)=95:=by omega
           have j95:((Y:Int) != 95)=false:=by rw [i95];rfl
           go_wp2_with (go_at_call 300;refine(digit_any _ _ (by omega) (by omega)).mono ?_;rintro e w' ⟨rfl,rfl⟩);go_round
           case rel=>exact⟨k+1,by omega,by go_num,HG.out (by unfold lowI;simp [i95])⟩
           case measure=>simp [intOf];omega
         · have i95:¬(Y:Int)=95:=by omega
           have j95:((Y:Int) != 95)=true:=by simpa using i95
           go_wp2_with (go_at_call 300;refine(digit_any _ _ (by omega) (by omega)).mono ?_;rintro e w' ⟨rfl,rfl⟩);go_ret;exact⟨ret_bool (HF.out (by unfold lowI;simp [hd];omega)).symm,rfl⟩
     · have i97:¬(Y:Int)<97:=by omega
       by_cases h122:122<Y
       · have i122:(122:Int)<(Y:Int):=by omega
         have i45:¬(Y:Int)=45:=by omega
         have j45:((Y:Int) != 45)=true:=by simpa using i45
         have i95:¬(Y:Int)=95:=by omega
         have j95:((Y:Int) != 95)=true:=by simpa using i95
         go_wp2_with (go_at_call 300;refine(digit_any _ _ (by omega) (by omega)).mono ?_;rintro e w' ⟨rfl,rfl⟩);go_ret;exact⟨ret_bool (HF.out (by unfold lowI;simp [hd];omega)).symm,rfl⟩
       · have i122:¬(122:Int)<(Y:Int):=by omega
         have i1:(97:Int)≤(Y:Int):=by omega
         have i2:(Y:Int)≤122:=by omega
         go_wp2_with (go_at_call 300;refine(digit_any _ _ (by omega) (by omega)).mono ?_;rintro e w' ⟨rfl,rfl⟩);go_round
         case rel=>exact⟨k+1,by omega,by go_num,HG.out (by unfold lowI;simp [i1,i2])⟩
         case measure=>simp [intOf];omega
  · obtain rfl:k=S.size:=by omega
    have HE:=hid (lab_end S hall);clear hall;by_cases h0:S=⟨#[]⟩
    · subst h0;go_wp2;go_ret;exact⟨ret_bool (by rw [HE.out];rfl),rfl⟩
    · have hne2:(S.toList== (⟨#[]⟩:ByteArray).toList)=false:=ne_list h0;have hne3:S.toList.isEmpty=false:=ne_empty h0;have hne4:(S.toList== [])=false:=by have h:=hne2;rw [ByteArray.toList_eq,ByteArray.toList_eq] at h;rw [ByteArray.toList_eq];exact h
      go_wp2;go_ret;exact⟨ret_bool (by rw [HE.out];simp [h0];try omega),rfl⟩
theorem isLabel_any (x:B) (w:World) (hs:x.length≤140737488355328):
 Calls Tryz.prog 309 #[.string (str x)] w fun e w'=>e= .returned (.bool (isLabB x))∧w'=w:=isLabel_arr (str x) w (by rw [str_size];exact hs)
theorem below_low (s:B) (w:World) (hs:s.length≤253):Calls Tryz.prog 308 #[.string (str s)] w fun e w'=>e= .returned (.string (str (lowH s)))∧Below w.heap.size w w':=by
 have h:=lower_any (str s) w (by rw [str_size];unfold maxLen;omega);rw [lowS_strH] at h;exact h
abbrev err3:Value:=.iface 63 (.int .i64 3)
def PLab (o:Option (List B)) (w:World) (e:Ending) (w':World):Prop:=Below w.heap.size w w'∧match o with
 |none=>e= .returned (.tuple #[.slice none 0 0,err3])
 |some L=>∃ q d,e= .returned (.tuple #[.slice q L.length d,.nilIface])∧OwnS w' w.heap.size (.slice q L.length d) L
theorem plab_no {o:Option (List B)}{w w':World}{e:Ending} (h:o=none) (he:e= .returned (.tuple #[.slice none 0 0,err3])) (hb:Below w.heap.size w w'):PLab o w e w':=by subst h;exact⟨hb,he⟩
theorem plab_yes {o:Option (List B)}{L:List B}{w w':World}{e:Ending}{q:Option Addr}{n d:Nat} (h:o=some L) (hn:L.length=n) (he:e= .returned (.tuple #[.slice q n d,.nilIface])) (ho:OwnS w' w.heap.size (.slice q n d) L) (hb:Below w.heap.size w w'):PLab o w e w':=by subst h;subst hn;exact⟨hb,q,d,he,ho⟩
theorem cutH_mem_len:∀ {s:B}{x:B},x∈cutH s→x.length≤s.length
 | [],x,h=>by simp [cutH] at h;subst h;exact Nat.le_refl _
 |c::s,x,h=>by
  rw [cutH_cons] at h;split at h
  · rcases List.mem_cons.1 h with h|h
    · subst h;exact Nat.zero_le _
    · have:=cutH_mem_len h;simp;omega
  · split at h
    · simp at h;subst h;simp
    · rename_i y l e
      rcases List.mem_cons.1 h with h|h
      · subst h;have:=@cutH_mem_len s y (by rw [e];simp);simp;omega
      · have:=@cutH_mem_len s x (by rw [e];simp [h]);simp;omega
theorem plabels_any (s:B) (wild:Bool) (hs:s.length≤9223372036854775807) (w:World) (hmx:MxAt w):Calls Tryz.prog 268 #[.string (str s),.bool wild] w fun e w'=>PLab (labsH wild s) w e w':=by
 obtain⟨n,hn⟩:∃ n,s.length=n:=⟨_,rfl⟩;have HLb:=hid (labsH_low wild s);by_cases h253:253<n
 · rw [hn,if_pos h253] at HLb;obtain⟨S,hS⟩:∃ S,str s=S:=⟨_,rfl⟩;have hSn:S.size=n:=by rw [←hS,str_size,hn]
   have h253':(253:Int)<(n:Int):=by omega
   rw [hS];clear hS hn;go_enter Tryz.func268,Tryz.ntmps268;go_wp2;go_ret2;exact plab_no HLb.out rfl (Below.refl _ _)
 · rw [hn,if_neg h253] at HLb;have HLo:=hid (fun W:World=>below_low s W (by omega));have HSp:=hid (fun (W:World) (h:MxAt W)=>psplitH (lowH s) (by rw [low_len];omega) W h);have HM:=hid hmx;obtain⟨L,hL⟩:∃ L,lowH s=L:=⟨_,rfl⟩;have hLn:L.length=n:=by rw [←hL,low_len,hn]
   rw [hL] at HLo HSp HLb;have hX3:=cutH_len L;have HXl:=hid (show ∀ x∈cutH L,x.length≤140737488355328 from fun x h=>Nat.le_trans (cutH_mem_len h) (by omega));obtain⟨X,hX⟩:∃ X,cutH L=X:=⟨_,rfl⟩;rw [hX] at HSp HXl hX3 HLb;obtain⟨m,hm⟩:∃ m,X.length=m:=⟨_,rfl⟩;have HMn:=hid hm;rw [hm] at HSp hX3;obtain⟨S,hS⟩:∃ S,str s=S:=⟨_,rfl⟩;have hSn:S.size=n:=by rw [←hS,str_size,hn]
   obtain⟨SL,hSL⟩:∃ S,str L=S:=⟨_,rfl⟩;rw [hS] at HLo ⊢;rw [hSL] at HLo HSp;have h253':¬(253:Int)<(n:Int):=by omega
   have hm2:m≤254:=by omega
   clear hS hn hL hLn hX hm hSL hX3 hmx hs;go_enter Tryz.func268,Tryz.ntmps268;go_wp2_with (first|(go_at_call 308;(with_reducible refine(HLo.out _).mono ?_);rintro e w1 ⟨rfl,hb1⟩;have HB1:=hid hb1;clear hb1 HLo)|(go_at_call 254;(with_reducible refine(HSp.out _ (HM.out.next HB1.out)).mono ?_);rintro e w2 ⟨p2,c2,rfl,ho,hb⟩;have HB2:=hid (below_out HB1.out hb);have HO:=hid (ho.base HB1.out.size);clear ho hb HSp HB1));have HT:=hid HO.out.lb;go_loopg [18] (m+1) (fun gk s18 wr=>∃ i:Nat,i≤m∧gk=m-i+1∧s18= .int .i64 (i:Int)∧(X.take i).all (okP_s wild)=true∧wr=w2)
   case atStart=>exact⟨0,by omega,rfl,rfl,rfl,rfl⟩
   case round=>
    obtain⟨i,hi,rfl,rfl,hal,rfl⟩:=hrel;have HA:=hid hal;clear hal;by_cases hin:i<m
    · have h1:i<X.length:=by rw [HMn.out];exact hin
      obtain⟨x,hx⟩:∃ x,X[i]?=some x:=⟨_,List.getElem?_eq_getElem h1⟩;obtain⟨g1,o1,rfl,q1⟩:=HT.out i x hx;have hxe:X[i]=x:=(List.getElem?_eq_some_iff.1 hx).2;have HG:=hid (show okP_s wild x=true→(X.take (i+1)).all (okP_s wild)=true from fun h=>by rw [List.take_succ_eq_append_getElem h1,List.all_append,HA.out,hxe];simp [h]);have HF:=hid (show okP_s wild x=false→labsH wild s=none from fun h=>by
       rw [HLb.out,if_neg];intro h9;have:=List.all_eq_true.1 h9 x (List.mem_of_getElem? hx);rw [h] at this;cases this)
      have HIs:=hid (fun W:World=>isLabel_any x W (HXl.out x (List.mem_of_getElem? hx)));obtain⟨Sx,hSx⟩:∃ S,str x=S:=⟨_,rfl⟩;have HStar:=hid (show Sx=(⟨#[42]⟩:ByteArray)→x=starL from fun h=>str_inj (by rw [hSx,h];rfl));have HStar2:=hid (show x=starL→Sx=(⟨#[42]⟩:ByteArray) from fun h=>by rw [←hSx,h];rfl);rw [hSx] at q1 HIs;clear h1 hx hxe hSx;cases hl:isLabB x with
      |true=>
       rw [hl] at HIs;go_wp2_with (go_at_call 309;(with_reducible refine(HIs.out _).mono ?_);rintro e w3 ⟨rfl,rfl⟩);go_roundg (m-(i+1)+1)
       case measure=>omega
       case rel=>exact⟨i+1,by omega,rfl,by push_cast;go_num,HG.out (by unfold okP_s;rw [hl];rfl),rfl⟩
      |false=>
       rw [hl] at HIs;cases wild with
       |false=>
        go_wp2_with (go_at_call 309;(with_reducible refine(HIs.out _).mono ?_);rintro e w3 ⟨rfl,rfl⟩);go_ret2;exact plab_no (HF.out (by unfold okP_s;rw [hl];rfl)) rfl HB2.out
       |true=>
        by_cases hst:x=starL
        · have hS:=HStar2.out hst;subst hS;go_wp2_with (go_at_call 309;(with_reducible refine(HIs.out _).mono ?_);rintro e w3 ⟨rfl,rfl⟩);go_roundg (m-(i+1)+1)
          case measure=>omega
          case rel=>exact⟨i+1,by omega,rfl,by push_cast;go_num,HG.out (by unfold okP_s;rw [hl,hst];rfl),rfl⟩
        · have hs1:¬Sx=(⟨#[42]⟩:ByteArray):=fun h=>hst (HStar.out h)
          have hs4:(Sx.toList== (⟨#[42]⟩:ByteArray).toList)=false:=ne_list hs1;have hs5:(Sx.toList== [42])=false:=by have h:=hs4;rw [ByteArray.toList_eq,ByteArray.toList_eq] at h;rw [ByteArray.toList_eq];exact h
          go_wp2_with (go_at_call 309;(with_reducible refine(HIs.out _).mono ?_);rintro e w3 ⟨rfl,rfl⟩);go_ret2;exact plab_no (HF.out (by unfold okP_s;rw [hl,decide_eq_false hst];rfl)) rfl HB2.out
    · obtain rfl:m=i:=by omega
      go_wp2;go_ret2;exact plab_yes (by rw [HLb.out,if_pos (by have:=HA.out;rw [List.take_of_length_le (by rw [HMn.out];exact Nat.le_refl _)] at this;exact this)]) HMn.out rfl HO.out HB2.out
theorem shape_step {x:List B}{i:Nat}{a:B} (h:x[i]?=some a):(x.drop i).reverse.map markU=(x.drop (i+1)).reverse.map markU++ [markU a]:=by
 obtain⟨h1,e1⟩:=List.getElem?_eq_some_iff.1 h;rw [List.drop_eq_getElem_cons h1,e1,List.reverse_cons,List.map_append];rfl
theorem shapeOf_any (x:List B) (p:Option Addr) (n c:Nat) (hn:x.length=n) (hnn:n≤254) (w:World) (hT:LbAt w p x):
 Calls Tryz.prog 270 #[.slice p n c] w fun e w'=>e= .returned (.string (str (shapeS x)))∧Below w.heap.size w w':=by
 obtain⟨b0,hb0,hc0,hc1,hc2⟩:=info_parts infoB;have HN:=hid hn;have HT:=hid hT;clear hn hT;go_enter Tryz.func270,Tryz.ntmps270;go_wp2;go_loopg [3,4] (n+1) (fun gk s3 s4 wr=>∃ (i j d:Nat) (q:Option Addr) (acc:B),i≤n∧j+i=n∧gk=i+1∧s4= .int .i64 ((i:Int)-1)∧s3= .slice q j d∧acc.length=j∧acc=(x.drop i).reverse.map markU∧Own wr w.heap.size (.slice q j d) acc∧Below w.heap.size w wr)
 case atStart=>exact⟨n,0,0,none,[],by omega,by omega,rfl,by go_num,rfl,rfl,by rw [List.drop_of_length_le (by rw [HN.out];exact Nat.le_refl _)];rfl,Own.nil _ _,Below.refl _ _⟩
 case round=>
  obtain⟨i0,j,d,q,acc,hi,hji,rfl,rfl,rfl,hl,hE,ho,hb⟩:=hrel;have HE:=hid hE;have HB:=hid hb;have HO:=hid ho;have HL:=hid hl;clear hE hb ho hl;rcases i0 with _|i
  · obtain⟨z,hz⟩:∃ z:Int,((0:Nat):Int)-1=z:=⟨_,rfl⟩;rw [hz];have hz0:¬(0:Int)≤z:=by omega
    clear hz;have hcv:=conv_own HO.out;go_wp2;go_ret;exact⟨by rw [HE.out];rfl,HB.out⟩
  · rw [show (((i+1:Nat):Int)-1)=(i:Int) by omega];have h1:i<x.length:=by rw [HN.out];omega
    obtain⟨a,ha⟩:∃ a,x[i]?=some a:=⟨_,List.getElem?_eq_getElem h1⟩;obtain⟨g1,o1,rfl,q1⟩:=(HT.out.next HB.out) i a ha;have HSt:=hid (shape_step ha);obtain⟨Sa,hSa⟩:∃ S,str a=S:=⟨_,rfl⟩;have ka:=star_or Sa hSa;rw [hSa] at q1;clear h1 ha hSa;rcases ka with ⟨ka,rfl⟩|⟨ka,ka1⟩
    · rw [show markU a=49 from if_pos ka] at HSt;clear ka;go_wp2_with (at_builtin;refine wpList_append_own_at _ rfl (.tmp 17) (.tmp 18) 106 rfl w.heap.size 5 b0 _ 1 1 Tryz.underlying106 hb0 hc0 hc1 hc2 rfl (by decide) (.slice q j d) j (Lib.byteCells acc) (by go_simp) (by have h8:=HO.out.alloc (.cells #[.int .u8 49] 5 (0,0));unfold Own at h8;rw [HL.out] at h8;exact h8) ⟨wr.heap.size,0,none⟩ 1 1 [.int .u8 49] (by go_simp) rfl (cells_new wr _ _) (by simp [Value.oneCell']) (by unfold maxLen;omega) (by omega) (by have h1:=HB.out.size;simp;omega) ?_;intro v6 w3 hown hgr _ _;obtain⟨p7,L7,c7,rfl⟩:=own_slice3 hown;have HO3:=hid (show Own w3 w.heap.size (.slice p7 L7 c7) (acc++ [49]) from Own.put (by rw [HL.out];exact hown) rfl rfl);have HB3:=hid ((HB.out.trans ((below_new wr _).mono HB.out.size)).trans (Own.below (HO.out.alloc _) (by have h1:=HB.out.size;simp;omega) hgr));obtain⟨hL7,_⟩:L7=j+1∧True:=⟨row_lenH hown,trivial⟩;subst hL7;clear hown hgr);go_roundg (i+1)
      case measure=>omega
      case rel=>exact⟨i,j+1,c7,p7,acc++ [49],by omega,by omega,rfl,by push_cast;go_num,rfl,by rw [List.length_append,HL.out];rfl,by rw [HSt.out,HE.out],HO3.out,HB3.out⟩
    · rw [show markU a=48 from if_neg ka] at HSt;have ka2:=star_not ka1;clear ka;go_wp2_with (at_builtin;refine wpList_append_own_at _ rfl (.tmp 20) (.tmp 21) 106 rfl w.heap.size 5 b0 _ 1 1 Tryz.underlying106 hb0 hc0 hc1 hc2 rfl (by decide) (.slice q j d) j (Lib.byteCells acc) (by go_simp) (by have h8:=HO.out.alloc (.cells #[.int .u8 48] 5 (0,0));unfold Own at h8;rw [HL.out] at h8;exact h8) ⟨wr.heap.size,0,none⟩ 1 1 [.int .u8 48] (by go_simp) rfl (cells_new wr _ _) (by simp [Value.oneCell']) (by unfold maxLen;omega) (by omega) (by have h1:=HB.out.size;simp;omega) ?_;intro v6 w3 hown hgr _ _;obtain⟨p7,L7,c7,rfl⟩:=own_slice3 hown;have HO3:=hid (show Own w3 w.heap.size (.slice p7 L7 c7) (acc++ [48]) from Own.put (by rw [HL.out];exact hown) rfl rfl);have HB3:=hid ((HB.out.trans ((below_new wr _).mono HB.out.size)).trans (Own.below (HO.out.alloc _) (by have h1:=HB.out.size;simp;omega) hgr));obtain⟨hL7,_⟩:L7=j+1∧True:=⟨row_lenH hown,trivial⟩;subst hL7;clear hown hgr);go_roundg (i+1)
      case measure=>omega
      case rel=>exact⟨i,j+1,c7,p7,acc++ [48],by omega,by omega,rfl,by push_cast;go_num,rfl,by rw [List.length_append,HL.out];rfl,by rw [HSt.out,HE.out],HO3.out,HB3.out⟩
theorem pick_snoc:∀ {l:List B}{s:B}{i:Nat}{a:B}{c:UInt8},l[i]?=some a→s[i]?=some c→pickS l (s.take (i+1))=pickS l (s.take i)++(if c=48 then [a] else [])
 | [],_,i,a,c,h,_=>by simp at h
 |_::_,[],i,a,c,_,h=>by simp at h
 |x::l,d::s,0,a,c,h1,h2=>by
  simp at h1 h2;subst h1;subst h2;simp [pickS]
 |x::l,d::s,i+1,a,c,h1,h2=>by
  have ih:=@pick_snoc l s i a c (by simpa using h1) (by simpa using h2);rw [List.take_succ_cons,List.take_succ_cons];unfold pickS;split
  · rw [ih];rfl
  · exact ih
theorem joinH_len:∀ {l:List B}{M:Nat},(∀ x∈l,x.length≤M)→(joinH l).length≤(M+1)*l.length
 | [],M,_=>Nat.zero_le _
 | [x],M,h=>by
  rw [joinH_one];have:=h x (by simp);simp;omega
 |x::y::l,M,h=>by
  have ih:=@joinH_len (y::l) M (fun z hz=>h z (by simp at hz ⊢;exact .inr hz));have hx:=h x (by simp);rw [joinH_more,List.length_append,List.length_cons,List.length_cons,Nat.mul_succ];omega
abbrev keyV (a b:B):Value:=.agg #[.string (str a),.string (str b)]
theorem join_any (l:List B) (p:Option Addr) (n c base:Nat) (hn:l.length=n) (hM:∀ x∈l,x.length≤253) (hnn:n≤254) (w:World) (ho:OwnS w base (.slice p n c) l):
 Calls Tryz.prog 310 #[.slice p n c,.string ⟨#[46]⟩] w fun e w'=>e= .returned (.string (str (joinH l)))∧Below w.heap.size w w':=by
 cases l with
 |nil=>
  simp at hn;subst hn;refine(Tryz.strings_Join_none p c ⟨#[46]⟩ w).mono ?_;rintro e w' ⟨rfl,rfl⟩;exact⟨rfl,Below.refl _ _⟩
 |cons x r=>
  obtain⟨g,o,rfl,q⟩:=ho.at (j:=0) (t:=x) rfl;have hlt:=lt_of_cell q;have hcap:=ho.cap;have hj:(joinH (x::r)).length≤254*(x::r).length:=joinH_len hM;have e1:((x::r).map str).map (fun t:ByteArray=>t.data.toList)=x::r:=by
   rw [List.map_map];conv=>rhs;rw [←List.map_id (x::r)]
   apply List.map_congr_left;intro t _;simp
  have h:=Tryz.strings_Join g o c ((x::r).map str) ⟨#[46]⟩ w (fun j y hy=>by
   rw [List.getElem?_map] at hy;obtain⟨t,ht,rfl⟩:=Option.map_eq_some_iff.1 hy;obtain⟨g',o',e',q'⟩:=ho.at ht;injection e' with e'
   injection e' with e2 e3 _
   subst e2;subst e3;exact q') hlt (by simp at hn ⊢;omega) (by simp at hn ⊢;omega) (by
    rw [e1];show (joinH (x::r)).length≤_;rw [hn] at hj;omega)
  rw [e1] at h;rw [List.length_map,hn] at h;exact h
theorem key_size:(Tryz.prog.info? 282).map (fun x=>x.size)=some 2:=by kernel_rfl
theorem results_key {fn:Func}{p u:Tmp} (h:fn.results= #[.cell p 282,.tmp u]) (tmps:Array Value) (w:World) (g:Nat) (t:TypeId) (cs:Array Value) (fr:Nat×Nat)
 (hp:tmps.getD p undef= .pointer (some ⟨g,0,none⟩)) (hg:w.heap[g]?=some (.cells cs t fr)) (hs:cs.size=2):(results fn tmps).run Tryz.prog w= .ok (.tuple #[.agg cs,tmps.getD u undef]) w:=by
 rw [results_cell_tmp h,hp];have hl:=run_loadVar_row (P:=Tryz.prog) w g t 282 cs fr _ hg Tryz.underlying282 rfl (by rw [key_size,hs]);simp [asAddr,Result.andThen,hl]
theorem heap_set1 {w:World}{g o:Nat}{cs:Array Value}{T:TypeId}{fr:Nat×Nat}{v:Value} (h:w.heap[g]?=some (.cells cs T fr)):(w.setCell ⟨g,o,none⟩ v).heap[g]?=some (.cells (cs.setIfInBounds o v) T fr):=by
 unfold World.setCell;show (w.heap.modify g _)[g]?=_;rw [Array.getElem?_modify,if_pos rfl,h];rfl
theorem heap_two {w:World}{g:Nat}{a b:Value}{T:TypeId} (h:w.heap[g]?=some (.cells #[a,b] T (0,0))) (c d:Value):((w.setCell ⟨g,0,none⟩ c).setCell ⟨g,1,none⟩ d).heap[g]?=some (.cells #[c,d] T (0,0)):=by
 have h1:=heap_set1 h (o:=0) (v:=c);have h2:=heap_set1 h1 (o:=1) (v:=d);rw [h2];rfl
theorem box_facts {w:World}{g:Nat}{a b:Value}{T:TypeId} (h:w.heap[g]?=some (.cells #[a,b] T (0,0))):w.cell? ⟨g,0,none⟩=some a∧w.cell? ⟨g,1,none⟩=some b∧w.frozen? ⟨g,0,none⟩=false∧w.frozen? ⟨g,1,none⟩=false:=by
 refine⟨?_,?_,?_,?_⟩
 · simp only [World.cell?,h];rfl
 · simp only [World.cell?,h];rfl
 · simp only [World.frozen?,h];rfl
 · simp only [World.frozen?,h];rfl
theorem und_below {w wr w4:World} (h:Below (w.heap.size+1) (w.alloc (.cells #[.string ⟨#[]⟩,.string ⟨#[]⟩] 282 (0,0))) wr) (h4:Below wr.heap.size wr w4) (a b:Value):Below w.heap.size w ((w4.setCell ⟨w.heap.size,0,none⟩ a).setCell ⟨w.heap.size,1,none⟩ b):=by
 have hs:=h.size;rw [show (w.alloc (.cells #[.string ⟨#[]⟩,.string ⟨#[]⟩] 282 (0,0))).heap.size=w.heap.size+1 by simp] at hs;have h1:Below w.heap.size w wr:=(below_new w _).trans (h.mono (Nat.le_succ _));have h2:Below w.heap.size w w4:=h1.trans (h4.mono (by omega));exact(h2.setCell (Nat.le_refl _) a).setCell (Nat.le_refl _) b
def undV (o:Option B) (sh:B):Value:=match o with
 |none=>.tuple #[keyV [] [],.bool false]
 |some pl=>.tuple #[keyV sh pl,.bool true]
theorem under_any (y:List B) (p:Option Addr) (n c:Nat) (hn:y.length=n) (hnn:n≤254) (hM:∀ x∈y,x.length≤253) (sh:B) (hsl:sh.length≤254) (w:World) (hT:LbAt w p y):
 Calls Tryz.prog 269 #[.slice p n c,.string (str sh)] w fun e w'=>e= .returned (undV (underS y sh) sh)∧Below w.heap.size w w':=by
 obtain⟨j0,hj0,hy0,hy1,hy2⟩:=info_parts infoS;obtain⟨m,hm⟩:∃ m,sh.length=m:=⟨_,rfl⟩;obtain⟨S,hS⟩:∃ S,str sh=S:=⟨_,rfl⟩;have hSn:S.size=m:=by rw [←hS,str_size,hm]
 by_cases hno:sh≠ []∧sh.length≠n
 · have HU:=hid (show underS y sh=none from by unfold underS;rw [hn,if_pos hno]);have hne1:¬S=(⟨#[]⟩:ByteArray):=fun e=>hno.1 (str_inj (by rw [hS,e]))
   have hne2:(S.toList== (⟨#[]⟩:ByteArray).toList)=false:=ne_list hne1;have hne3:S.toList.isEmpty=false:=ne_empty hne1;have hne4:(S.toList== [])=false:=by have h:=hne2;rw [ByteArray.toList_eq,ByteArray.toList_eq] at h;rw [ByteArray.toList_eq];exact h
   have hmn:¬(m:Int)=(n:Int):=by have:=hno.2;omega
   have hmn2:((m:Int)== (n:Int))=false:=by simpa using hmn
   rw [hS];clear hS hm hno hn hT hM;go_enter Tryz.func269,Tryz.ntmps269;go_wp2;refine bodyPost_ret (results_key rfl _ _ w.heap.size 282 _ (0,0) rfl (heap_alloc_new w _) rfl) rfl ?_;exact⟨by rw [HU.out];rfl,below_new _ _⟩
 · have HU:=hid (show underS y sh=some (joinH (pickS y.reverse sh)) from by unfold underS;rw [hn,if_neg hno]);have HMn:sh= []∨(sh≠ []∧n=m):=by
    by_cases h0:sh= []
    · exact .inl h0
    · exact .inr ⟨h0,by rw [←hm];exact Decidable.byContradiction fun h=>hno ⟨h0,fun e=>h e.symm⟩⟩
   clear hno;have HN:=hid hn;have HT:=hid hT;have HM:=hid hM;have HSl:=hid hm;have HS:=hid hS;have HByte:=hid (show ∀ (k:Nat) (h:k<sh.length) (h2:k<S.size),S[k]'h2=sh[k]'h from fun k h h2=>by subst hS;rfl);rcases HMn with rfl|⟨h0,rfl⟩
   · have hm9:0=m:=hm;subst hm9;obtain rfl:(⟨#[]⟩:ByteArray)=S:=hS;rw [show str []=(⟨#[]⟩:ByteArray) from rfl];clear hn hT hM HByte;go_enter Tryz.func269,Tryz.ntmps269;go_wp2;go_loopg [6,20] (0+1) (fun gk s6 s20 wr=>∃ (i k d:Nat) (q:Option Addr) (acc:List B),i≤0∧gk=0-i+1∧s20= .int .i64 (i:Int)∧s6= .slice q k d∧acc.length=k∧k≤i∧acc=pickS y.reverse (([]:B).take i)∧OwnS wr (w.heap.size+1) (.slice q k d) acc∧Below (w.heap.size+1) (w.alloc (.cells #[.string ⟨#[]⟩,.string ⟨#[]⟩] 282 (0,0))) wr)
     case atStart=>exact⟨0,0,0,none,[],by omega,rfl,rfl,rfl,rfl,by omega,by cases y.reverse <;> rfl,OwnS.nil _ _,Below.refl _ _⟩
     case round=>
      obtain⟨i,k,d,q,acc,hi,rfl,rfl,rfl,hl,hki,hE,ho,hb⟩:=hrel;have HE:=hid hE;have HB:=hid hb;have HO:=hid ho;have HL:=hid hl;clear hE hb ho hl;obtain rfl:i=0:=by omega
      have HEnd:=hid (HE.out.trans (by rw [List.take_of_length_le (by rw [HSl.out];exact Nat.le_refl _)]));have HJ:=hid (join_any acc q k d (w.heap.size+1) HL.out (fun x hx=>by rw [HE.out] at hx;exact HM.out x (List.mem_reverse.1 (pick_mem hx))) (by omega) wr HO.out);obtain⟨J,hJ⟩:∃ J,str (joinH acc)=J:=⟨_,rfl⟩;rw [hJ] at HJ;have HJe:=hid hJ;clear hJ;have hs1:=HB.out.size;rw [show (w.alloc (.cells #[.string ⟨#[]⟩,.string ⟨#[]⟩] 282 (0,0))).heap.size=w.heap.size+1 by simp] at hs1;have hbx:wr.heap[w.heap.size]?=some (.cells #[.string ⟨#[]⟩,.string ⟨#[]⟩] 282 (0,0)):=(HB.out.block _ (by simp)).trans (heap_alloc_new w _);go_wp2_with (go_at_call 310;(with_reducible refine HJ.out.mono ?_);rintro e w4 ⟨rfl,hb4⟩;have hbx4:=(hb4.block w.heap.size (by omega)).trans hbx;obtain⟨hq0,hq1,hq2,hq3⟩:=box_facts hbx4;obtain⟨hq4,hq5,hq6,hq7⟩:=box_facts (heap_set1 (o:=0) (v:=.string (⟨#[]⟩:ByteArray)) hbx4);have HB4:=hid hb4;clear hb4 HJ);refine bodyPost_ret (results_key rfl _ _ w.heap.size 282 _ (0,0) rfl (heap_two hbx4 _ _) rfl) rfl ?_;exact⟨by rw [HU.out,←HEnd.out];show _=Ending.returned (.tuple #[.agg #[.string (str []),.string (str (joinH acc))],.bool true]);rw [HJe.out];rfl,und_below HB.out HB4.out _ _⟩
   · have hne1:¬S=(⟨#[]⟩:ByteArray):=fun e=>h0 (str_inj (by rw [hS,e]))
     have hne2:(S.toList== (⟨#[]⟩:ByteArray).toList)=false:=ne_list hne1;have hne3:S.toList.isEmpty=false:=ne_empty hne1;have hne4:(S.toList== [])=false:=by have h:=hne2;rw [ByteArray.toList_eq,ByteArray.toList_eq] at h;rw [ByteArray.toList_eq];exact h
     rw [hS];clear hS hm hn hT hM h0;go_enter Tryz.func269,Tryz.ntmps269;go_wp2;go_loopg [6,20] (n+1) (fun gk s6 s20 wr=>∃ (i k d:Nat) (q:Option Addr) (acc:List B),i≤n∧gk=n-i+1∧s20= .int .i64 (i:Int)∧s6= .slice q k d∧acc.length=k∧k≤i∧acc=pickS y.reverse (sh.take i)∧OwnS wr (w.heap.size+1) (.slice q k d) acc∧Below (w.heap.size+1) (w.alloc (.cells #[.string ⟨#[]⟩,.string ⟨#[]⟩] 282 (0,0))) wr)
     case atStart=>exact⟨0,0,0,none,[],by omega,rfl,rfl,rfl,rfl,by omega,by cases y.reverse <;> rfl,OwnS.nil _ _,Below.refl _ _⟩
     case round=>
      obtain⟨i,k,d,q,acc,hi,rfl,rfl,rfl,hl,hki,hE,ho,hb⟩:=hrel;have HE:=hid hE;have HB:=hid hb;have HO:=hid ho;have HL:=hid hl;clear hE hb ho hl;have hs1:=HB.out.size;rw [show (w.alloc (.cells #[.string ⟨#[]⟩,.string ⟨#[]⟩] 282 (0,0))).heap.size=w.heap.size+1 by simp] at hs1;by_cases hin:i<n
      · have h1:i<sh.length:=by rw [HSl.out];exact hin
        obtain⟨j,hj⟩:∃ j,j+1+i=n:=⟨n-1-i,by omega⟩;have h2:j<y.length:=by rw [HN.out];omega
        obtain⟨a,ha⟩:∃ a,y[j]?=some a:=⟨_,List.getElem?_eq_getElem h2⟩;have har:y.reverse[i]?=some a:=by
         rw [List.getElem?_reverse (by rw [HN.out];exact hin),HN.out,show n-1-i=j by omega];exact ha
        obtain⟨ch,hch⟩:∃ ch,sh[i]?=some ch:=⟨_,List.getElem?_eq_getElem h1⟩;have HSt:=hid (pick_snoc har hch);have hSi:S[i]=ch:=by rw [HByte.out i h1 (by omega)];exact(List.getElem?_eq_some_iff.1 hch).2
        obtain⟨g1,o1,rfl,q1⟩:=(HT.out.next ((below_new w _).trans (HB.out.mono (Nat.le_succ _)))) j a ha;obtain⟨Sa,hSa⟩:∃ S,str a=S:=⟨_,rfl⟩;have HSa:=hid hSa;rw [hSa] at q1;have hjj:((n:Int)-1)-(i:Int)=(j:Int):=by omega
        have hjn:(j:Int)<(n:Int):=by omega
        obtain⟨Y,hY⟩:∃ Y,S[i].toNat=Y:=⟨_,rfl⟩;have hb9:=S[i].toNat_lt;rw [hY] at hb9;by_cases h48:ch=48
        · rw [if_pos h48] at HSt;obtain rfl:Y=48:=by rw [←hY,hSi,h48];rfl
          clear h1 h2 ha har hch hSi hSa h48;go_wp2_with (at_builtin;refine wpList_append_own_at _ rfl (.tmp 27) (.tmp 36) 52 rfl (w.heap.size+1) 9 j0 _ 1 16 Tryz.underlying52 hj0 hy0 hy1 hy2 rfl (by decide) (.slice q k d) k (strC acc) (by go_simp) (by have h8:=HO.out.alloc (.cells #[.string Sa] 9 (0,0));unfold OwnS at h8;rw [HL.out] at h8;exact h8) ⟨wr.heap.size,0,none⟩ 1 1 [.string Sa] (by go_simp) rfl (cells_new wr _ _) (by simp [Value.oneCell']) (by unfold maxLen;omega) (by omega) (by simp;omega) ?_;intro v6 w3 hown hgr _ _;obtain⟨p7,L7,c7,rfl⟩:=own_slice3 hown;have HO3:=hid (show OwnS w3 (w.heap.size+1) (.slice p7 L7 c7) (acc++ [a]) from OwnS.put (by rw [HL.out,HSa.out];exact hown));have HB3:=hid ((HB.out.trans ((below_new wr _).mono hs1)).trans (OwnS.below (HO.out.alloc _) (by simp;omega) hgr));obtain⟨hL7,_⟩:L7=k+1∧True:=⟨row_lenH hown,trivial⟩;subst hL7;clear hown hgr);go_roundg (n-(i+1)+1)
          case measure=>omega
          case rel=>exact⟨i+1,k+1,c7,p7,acc++ [a],by omega,rfl,by push_cast;go_num,rfl,by rw [List.length_append,HL.out];rfl,by omega,by rw [HSt.out,HE.out],HO3.out,HB3.out⟩
        · rw [if_neg h48,List.append_nil] at HSt;have hY48:¬(Y:Int)=48:=fun e=>h48 (by rw [←hSi];apply UInt8.toNat_inj.1;rw [hY];show Y=48;omega)
          have hY49:((Y:Int)== 48)=false:=by simpa using hY48
          clear h1 h2 ha har hch hSi hSa h48;go_wp2;go_roundg (n-(i+1)+1)
          case measure=>omega
          case rel=>exact⟨i+1,k,d,q,acc,by omega,rfl,by push_cast;go_num,rfl,HL.out,by omega,by rw [HSt.out,HE.out],HO.out,HB.out⟩
      · obtain rfl:i=n:=by omega
        have HEnd:=hid (HE.out.trans (by rw [List.take_of_length_le (by rw [HSl.out];exact Nat.le_refl _)]));have HJ:=hid (join_any acc q k d (w.heap.size+1) HL.out (fun x hx=>by rw [HE.out] at hx;exact HM.out x (List.mem_reverse.1 (pick_mem hx))) (by omega) wr HO.out);obtain⟨J,hJ⟩:∃ J,str (joinH acc)=J:=⟨_,rfl⟩;rw [hJ] at HJ;have HJe:=hid hJ;clear hJ;have hbx:wr.heap[w.heap.size]?=some (.cells #[.string ⟨#[]⟩,.string ⟨#[]⟩] 282 (0,0)):=(HB.out.block _ (by simp)).trans (heap_alloc_new w _);have hz0:((i:Nat):Int)<(i:Int)↔False:=by simp
        go_wp2_with (go_at_call 310;(with_reducible refine HJ.out.mono ?_);rintro e w4 ⟨rfl,hb4⟩;have hbx4:=(hb4.block w.heap.size (by omega)).trans hbx;obtain⟨hq0,hq1,hq2,hq3⟩:=box_facts hbx4;obtain⟨hq4,hq5,hq6,hq7⟩:=box_facts (heap_set1 (o:=0) (v:=.string S) hbx4);have HB4:=hid hb4;clear hb4 HJ);refine bodyPost_ret (results_key rfl _ _ w.heap.size 282 _ (0,0) rfl (heap_two hbx4 _ _) rfl) rfl ?_;exact⟨by rw [HU.out,←HEnd.out];show _=Ending.returned (.tuple #[.agg #[.string (str sh),.string (str (joinH acc))],.bool true]);rw [HS.out,HJe.out];rfl,und_below HB.out HB4.out _ _⟩
theorem labs_cut {wild:Bool}{s:B}{x:List B} (h:labsH wild s=some x):x=cutH (lowH s)∧s.length≤253∧x.all (okP_s wild)=true:=by
 rw [labsH_low] at h;split at h
 · cases h
 · rename_i h1
   split at h
   · rename_i h2
     have:=Option.some.inj h;subst this;exact⟨rfl,by omega,h2⟩
   · cases h
theorem labs_mem_len {wild:Bool}{s:B}{x:List B} (h:labsH wild s=some x):∀ t∈x,t.length≤253:=by
 obtain⟨rfl,h1,_⟩:=labs_cut h;intro t ht;have:=cutH_mem_len ht;rw [low_len] at this;omega
theorem labs_len {wild:Bool}{s:B}{x:List B} (h:labsH wild s=some x):x.length≤254:=(labsH_some h).2.2.2.1
def parV (o:Option (List B)):Value:=match o with
 |none=>.tuple #[keyV [] [],err3]
 |some x=>.tuple #[keyV (keyS x).1 (keyS x).2,.nilIface]
theorem parse_below {w w3:World} (h:Below (w.alloc (.cells #[.string ⟨#[]⟩,.string ⟨#[]⟩] 282 (0,0))).heap.size (w.alloc (.cells #[.string ⟨#[]⟩,.string ⟨#[]⟩] 282 (0,0))) w3) (o:Obj) (a b:Value):Below w.heap.size w (((w3.alloc o).setCell ⟨w.heap.size,0,none⟩ a).setCell ⟨w.heap.size,1,none⟩ b):=by
 have hs:=h.size;rw [show (w.alloc (.cells #[.string ⟨#[]⟩,.string ⟨#[]⟩] 282 (0,0))).heap.size=w.heap.size+1 by simp] at hs;have h1:Below w.heap.size w w3:=(below_new w _).trans (h.mono (by simp));have h2:Below w.heap.size w (w3.alloc o):=h1.trans ((below_new w3 o).mono (by omega));exact(h2.setCell (Nat.le_refl _) a).setCell (Nat.le_refl _) b
theorem parse_any (s:B) (hs:s.length≤9223372036854775807) (w:World) (hmx:MxAt w):Calls Tryz.prog 225 #[.string (str s)] w fun e w'=>e= .returned (parV (patH s))∧Below w.heap.size w w':=by
 by_cases h0:s= []
 · subst h0;rw [show str []=(⟨#[]⟩:ByteArray) from rfl];go_enter Tryz.func225,Tryz.ntmps225;go_wp2;refine bodyPost_ret (results_key rfl _ _ w.heap.size 282 _ (0,0) rfl (heap_alloc_new w _) rfl) rfl ?_;exact⟨rfl,below_new _ _⟩
 · have HL:=hid (fun (W:World) (h:MxAt W)=>plabels_any s true hs W h);have HM:=hid (hmx.next (below_new w (.cells #[.string ⟨#[]⟩,.string ⟨#[]⟩] 282 (0,0))));obtain⟨S,hS⟩:∃ S,str s=S:=⟨_,rfl⟩;have hne1:¬S=(⟨#[]⟩:ByteArray):=fun e=>h0 (str_inj (by rw [hS,e]))
   have hne2:(S.toList== (⟨#[]⟩:ByteArray).toList)=false:=ne_list hne1;have hne3:S.toList.isEmpty=false:=ne_empty hne1;have hne4:(S.toList== [])=false:=by have h:=hne2;rw [ByteArray.toList_eq,ByteArray.toList_eq] at h;rw [ByteArray.toList_eq];exact h
   rw [hS] at HL ⊢;rw [patH_ne h0];clear hS h0 hmx;cases hl:labsH true s with
   |none=>
    rw [hl] at HL;unfold PLab at HL;dsimp only at HL;clear hl;go_enter Tryz.func225,Tryz.ntmps225;go_wp2_with (go_at_call 268;(with_reducible refine(HL.out _ HM.out).mono ?_);rintro e w1 ⟨hb,rfl⟩;have HB:=hid hb;have hbx:=(hb.block w.heap.size (by simp)).trans (heap_alloc_new w (.cells #[.string ⟨#[]⟩,.string ⟨#[]⟩] 282 (0,0)));obtain⟨hq0,hq1,hq2,hq3⟩:=box_facts hbx;obtain⟨hq4,hq5,hq6,hq7⟩:=box_facts (heap_set1 (o:=0) (v:=.string ⟨#[]⟩) hbx);clear hb HL HM);refine bodyPost_ret (results_key rfl _ _ w.heap.size 282 _ (0,0) rfl (heap_two hbx _ _) rfl) rfl ?_;exact⟨rfl,((below_new w _).trans (HB.out.mono (by simp))).setCell (Nat.le_refl _) _ |>.setCell (Nat.le_refl _) _⟩
   |some x=>
    have HU:=hid (fun (W:World) (q:Option Addr) (d:Nat) (h:LbAt W q x)=>under_any x q x.length d rfl (labs_len hl) (labs_mem_len hl) (shapeS x) (by rw [shape_len];exact labs_len hl) W h);have HSh:=hid (fun (W:World) (q:Option Addr) (d:Nat) (h:LbAt W q x)=>shapeOf_any x q x.length d rfl (labs_len hl) W h);rw [under_self] at HU;rw [hl] at HL;unfold PLab at HL;dsimp only at HL;unfold parV undV at*;dsimp only at*;have hxl:=labs_len hl;obtain⟨n,hn⟩:∃ n,x.length=n:=⟨_,rfl⟩;rw [hn] at HU HSh HL hxl;obtain⟨SH,hSH⟩:∃ S,str (shapeS x)=S:=⟨_,rfl⟩;obtain⟨PL,hPL⟩:∃ S,str (keyS x).2=S:=⟨_,rfl⟩;have hk1:(keyS x).1=shapeS x:=rfl;unfold keyV at HU ⊢;rw [hSH,hPL] at HU;rw [hSH] at HSh;rw [hk1,hSH,hPL];clear hSH hPL hl hn hk1;go_enter Tryz.func225,Tryz.ntmps225;go_wp2_with (first|(go_at_call 268;(with_reducible refine(HL.out _ HM.out).mono ?_);rintro e w1 ⟨hb,q1,d1,rfl,ho⟩;have HB:=hid hb;have HT:=hid ho.lb;clear hb ho HL HM)|(go_at_call 270;(with_reducible refine(HSh.out _ _ _ HT.out).mono ?_);rintro e w2 ⟨rfl,hb2⟩;have HT2:=hid (HT.out.next hb2);have HB2:=hid (below_out HB.out hb2);clear hb2 HSh HB HT)|(go_at_call 269;(with_reducible refine(HU.out _ _ _ HT2.out).mono ?_);rintro e w3 ⟨rfl,hb3⟩;have HB3:=hid (below_out HB2.out hb3);have hbx:=(HB3.out.block w.heap.size (by simp)).trans (heap_alloc_new w (.cells #[.string ⟨#[]⟩,.string ⟨#[]⟩] 282 (0,0)));have hbx2:=((below_new w3 (.cells #[.string SH,.string PL] 282 (0,0))).block w.heap.size (lt_of_heap hbx)).trans hbx;obtain⟨hq0,hq1,hq2,hq3⟩:=box_facts hbx2;obtain⟨hq4,hq5,hq6,hq7⟩:=box_facts (heap_set1 (o:=0) (v:=.string SH) hbx2);clear hb3 HU HT2 HB2));refine bodyPost_ret (results_key rfl _ _ w.heap.size 282 _ (0,0) rfl (heap_two hbx2 _ _) rfl) rfl ?_;exact⟨rfl,parse_below HB3.out _ _ _⟩
end Go.Proofs.YtlmefgjhbohjlaaGreatDoor
