/- Methods of routes: tokens, none twice; does one have a method, do two have one in common. -/
import Derived.Test.YtlmlljlappjjjaaGreatDoorTRChk
namespace Go.Proofs.YtlmlljlappjjjaaGreatDoor
set_option maxRecDepth 20000
set_option maxHeartbeats 16000000
open Go.RowKit
structure RtC where
 host:B
 path:B
 ms:List B
deriving DecidableEq
def methE (l:List B):Nat:=if l.all tokT then (if decide l.Nodup then 0 else 6) else 3
def takesR (l:List B) (m:B):Bool:=l.isEmpty || l.contains m
def meetR (a b:List B):Bool:=a.isEmpty || b.isEmpty || a.any fun x=>b.contains x
theorem take_snoc_q (l:List B) (i:Nat) (x:B) (h:l[i]?=some x):l.take (i+1)=l.take i++ [x]:=by
 rw [List.take_add_one,h];rfl
theorem methE_bad {l:List B}{i:Nat}{x:B} (hx:l[i]?=some x) (h:tokT x=false):methE l=3:=by
 unfold methE;rw [if_neg];intro h2;rw [List.all_eq_true] at h2;rw [h2 x (List.mem_of_getElem? hx)] at h;cases h
theorem all_to {l:List B}{i:Nat} (h:∀ x∈l.take i,tokT x=true) (hi:i=l.length):l.all tokT=true:=by
 subst hi;rw [List.take_length] at h;rw [List.all_eq_true];exact h
theorem methE_twice {l:List B}{i:Nat}{x:B} (ha:l.all tokT=true) (hx:l[i]?=some x) (h:(l.take i).contains x=true):methE l=6:=by
 unfold methE;rw [if_pos ha,if_neg];intro h2;have h3:=of_decide_eq_true h2;rw [List.contains_iff_mem] at h;have h4:(l.take (i+1)).Nodup:=h3.sublist (List.take_sublist _ _);rw [take_snoc_q l i x hx,List.nodup_append] at h4;exact h4.2.2 x h x (by simp) rfl
theorem methE_ok {l:List B}{i:Nat} (ha:l.all tokT=true) (hi:i=l.length) (h:(l.take i).Nodup):methE l=0:=by
 subst hi;rw [List.take_length] at h;unfold methE;rw [if_pos ha,if_pos (decide_eq_true h)]
theorem nodup_next {l:List B}{i:Nat}{x:B} (h:(l.take i).Nodup) (hx:l[i]?=some x) (hn:(l.take i).contains x=false):(l.take (i+1)).Nodup:=by
 rw [take_snoc_q l i x hx,List.nodup_append];refine⟨h,by simp,fun a ha b hb=>?_⟩;rw [List.mem_singleton.1 hb];intro e;subst e;rw [←List.contains_iff_mem,hn] at ha;cases ha
theorem txt_take {w:World}{p:Option Addr}{l:List B} (h:TxAt w p l) (i:Nat):TxAt w p (l.take i):=by
 intro j t hj;refine h j t ?_;rw [List.getElem?_take] at hj;split at hj
 · exact hj
 · cases hj
theorem contains_to {l:List B}{x:B}{i:Nat} (h:∀ y∈l.take i,¬y=x) (hi:i=l.length):l.contains x=false:=by
 subst hi;rw [List.take_length] at h;rw [←Bool.not_eq_true,List.contains_iff_mem];exact fun hm=>h x hm rfl
theorem rhas_any (l:List B) (p:Option Addr) (n c:Nat) (hn:l.length=n) (hnn:n≤140737488355328) (y:B) (w:World) (hT:TxAt w p l):Calls Tryz.prog 39 #[.slice p n c,.string (str y)] w fun e w'=>e= .returned (.bool (l.contains y))∧w'=w:=by
 have HN:=hid hn;have HT:=hid hT;clear hn hT;obtain⟨Y,hY⟩:∃ Y,str y=Y:=⟨_,rfl⟩;have HY:=hid hY;rw [hY];clear hY;go_enter Tryz.func39,Tryz.ntmps39;go_wp2;go_loopg [5] (n+1) (fun gk s5 wr=>∃ i:Nat,i≤n∧gk=n-i+1∧s5= .int .i64 (i:Int)∧(∀ z∈l.take i,¬z=y)∧wr=w)
 case atStart=>exact⟨0,by omega,rfl,rfl,by simp,rfl⟩
 case round=>
  obtain⟨i,hi,rfl,rfl,hE,hb⟩:=hrel;subst hb;have HE:=hid hE;clear hE;by_cases hin:i<n
  · have h1:i<l.length:=by rw [HN.out];exact hin
    obtain⟨x,hx⟩:∃ x,l[i]?=some x:=⟨_,List.getElem?_eq_getElem h1⟩;have HX:=hid hx;obtain⟨g1,o1,rfl,q1⟩:=HT.out i x hx;clear h1 hx;obtain⟨X,hX⟩:∃ X,str x=X:=⟨_,rfl⟩;have HXs:=hid hX;rw [hX] at q1;clear hX;by_cases hxy:X=Y
    · subst hxy;have HV:=hid (show l.contains y=true from by
       have e:x=y:=str_inj (HXs.out.trans HY.out.symm);rw [List.contains_iff_mem,←e];exact List.mem_of_getElem? HX.out)
      go_wp2;go_ret;exact⟨ret_bool HV.out.symm,rfl⟩
    · have hbf:=ne_list hxy;have HNe:=hid (show ¬x=y from fun e=>hxy (by rw [←HXs.out,←HY.out,e]));go_wp2;go_roundg (n-(i+1)+1)
      case measure=>omega
      case rel=>
       refine⟨i+1,by omega,by omega,by go_num,?_,rfl⟩;intro z hz;rw [take_snoc_q l i x HX.out,List.mem_append,List.mem_singleton] at hz;rcases hz with hz|hz
       · exact HE.out z hz
       · rw [hz];exact HNe.out
  · have HV:=hid (show l.contains y=false from contains_to HE.out (by rw [HN.out];omega));go_wp2;go_ret;exact⟨ret_bool HV.out.symm,rfl⟩
theorem pmeth_any (l:List B) (p:Option Addr) (n c:Nat) (hn:l.length=n) (hc:n≤c) (hz:∀ x∈l,x.length≤maxLen) (hnn:n≤140737488355328) (w:World) (hT:TxAt w p l):Calls Tryz.prog 16 #[.slice p n c] w fun e w'=>e= .returned (errOf (methE l))∧w'=w:=by
 have HN:=hid hn;have HT:=hid hT;have HZ:=hid hz;clear hn hT hz;go_enter Tryz.func16,Tryz.ntmps16;go_wp2;go_loopg [9] (n+1) (fun gk s9 wr=>∃ i:Nat,i≤n∧gk=n-i+1∧s9= .int .i64 (i:Int)∧(∀ z∈l.take i,tokT z=true)∧wr=w)
 case atStart=>exact⟨0,by omega,rfl,rfl,by simp,rfl⟩
 case round=>
  obtain⟨i,hi,rfl,rfl,hE,hb⟩:=hrel;subst hb;have HE:=hid hE;clear hE;by_cases hin:i<n
  · have h1:i<l.length:=by rw [HN.out];exact hin
    obtain⟨x,hx⟩:∃ x,l[i]?=some x:=⟨_,List.getElem?_eq_getElem h1⟩;have HX:=hid hx;obtain⟨g1,o1,rfl,q1⟩:=HT.out i x hx;have HTk:=hid (fun W:World=>istoken_any (str x) W (by rw [str_size];exact HZ.out x (List.mem_of_getElem? hx)));obtain⟨b,hb⟩:∃ b,tokT x=b:=⟨_,rfl⟩;have HBt:=hid hb;rw [show isTok (str x)=b from hb] at HTk;clear h1 hx hb;obtain⟨X,hX⟩:∃ X,str x=X:=⟨_,rfl⟩;rw [hX] at q1 HTk;clear hX;cases b with
    |false=>
     have HV:=hid (methE_bad HX.out HBt.out);go_wp2_with (go_at_call 40;(with_reducible refine(HTk.out _).mono ?_);rintro e w1 ⟨rfl,hw1⟩;subst w1);go_ret;exact⟨by rw [HV.out];rfl,rfl⟩
    |true=>
     go_wp2_with (go_at_call 40;(with_reducible refine(HTk.out _).mono ?_);rintro e w1 ⟨rfl,hw1⟩;subst w1);go_roundg (n-(i+1)+1)
     case measure=>omega
     case rel=>
      refine⟨i+1,by omega,by omega,by go_num,?_,rfl⟩;intro z hz;rw [take_snoc_q l i x HX.out,List.mem_append,List.mem_singleton] at hz;rcases hz with hz|hz
      · exact HE.out z hz
      · rw [hz];exact HBt.out
  · have HA:=hid (all_to HE.out (by rw [HN.out];omega));go_wp2;clear hin hi HE;go_loopg [20] (n+1) (fun gk s20 wr2=>∃ i:Nat,i≤n∧gk=n-i+1∧s20= .int .i64 (i:Int)∧(l.take i).Nodup∧wr2=wr)
    case atStart=>exact⟨0,by omega,rfl,rfl,by simp,rfl⟩
    case round=>
     obtain⟨i,hi,rfl,rfl,hE,hb⟩:=hrel;subst hb;have HE:=hid hE;clear hE;by_cases hin:i<n
     · have h1:i<l.length:=by rw [HN.out];exact hin
       obtain⟨x,hx⟩:∃ x,l[i]?=some x:=⟨_,List.getElem?_eq_getElem h1⟩;have HX:=hid hx;obtain⟨g1,o1,rfl,q1⟩:=HT.out i x hx;have HCt:=hid (contains_any (l.take i) (some ⟨g1,o1,none⟩) i c (by rw [List.length_take];omega) (by omega) x _ (txt_take HT.out i));obtain⟨b,hb⟩:∃ b,(l.take i).contains x=b:=⟨_,rfl⟩;have HBt:=hid hb;rw [hb] at HCt;clear h1 hx hb;obtain⟨X,hX⟩:∃ X,str x=X:=⟨_,rfl⟩;rw [hX] at q1 HCt;clear hX;cases b with
       |true=>
        have HV:=hid (methE_twice HA.out HX.out HBt.out);go_wp2_with (go_at_call 41;(with_reducible refine HCt.out.mono ?_);rintro e w1 ⟨rfl,hw1⟩;subst w1);go_ret;exact⟨by rw [HV.out];rfl,rfl⟩
       |false=>
        go_wp2_with (go_at_call 41;(with_reducible refine HCt.out.mono ?_);rintro e w1 ⟨rfl,hw1⟩;subst w1);go_roundg (n-(i+1)+1)
        case measure=>omega
        case rel=>exact⟨i+1,by omega,by omega,by go_num,nodup_next HE.out HX.out HBt.out,rfl⟩
     · have HV:=hid (methE_ok HA.out (show i=l.length by rw [HN.out];omega) HE.out);go_wp2;go_ret;exact⟨by rw [HV.out];rfl,rfl⟩
theorem rmeet_any (a b:List B) (p q:Option Addr) (n c m d:Nat) (hn:a.length=n) (hm:b.length=m) (hnn:n≤140737488355328) (hmm:m≤140737488355328) (w:World) (hT:TxAt w p a) (hU:TxAt w q b):Calls Tryz.prog 65 #[.slice p n c,.slice q m d] w fun e w'=>e= .returned (.bool (meetR a b))∧w'=w:=by
 have HN:=hid hn;have HT:=hid hT;by_cases h0:n=0
 · subst h0;have HV:=hid (show meetR a b=true from by unfold meetR;rw [List.length_eq_zero_iff.1 hn];rfl);clear hn hm hT hU;go_enter Tryz.func65,Tryz.ntmps65;go_wp2;go_ret;exact⟨ret_bool HV.out.symm,rfl⟩
 by_cases h1:m=0
 · subst h1;have HV:=hid (show meetR a b=true from by unfold meetR;rw [List.length_eq_zero_iff.1 hm];simp);clear hn hm hT hU;go_enter Tryz.func65,Tryz.ntmps65;go_wp2;go_ret;exact⟨ret_bool HV.out.symm,rfl⟩
 have HNa:=hid (show a.isEmpty=false from by cases a with|nil=>exact absurd hn (by simp;omega)|cons x l=>rfl);have HNb:=hid (show b.isEmpty=false from by cases b with|nil=>exact absurd hm (by simp;omega)|cons x l=>rfl);have HH:=hid (fun y:B=>rhas_any b q m d hm hmm y w hU);have hb1:((n:Int)== 0)=false:=by rw [beq_eq_false_iff_ne];omega
 have hb2:((m:Int)== 0)=false:=by rw [beq_eq_false_iff_ne];omega
 clear hn hm hT hU;go_enter Tryz.func65,Tryz.ntmps65;go_wp2;go_loopg [5] (n+1) (fun gk s5 wr=>∃ i:Nat,i≤n∧gk=n-i+1∧s5= .int .i64 (i:Int)∧(∀ z∈a.take i,b.contains z=false)∧wr=w)
 case atStart=>exact⟨0,by omega,rfl,rfl,by simp,rfl⟩
 case round=>
  obtain⟨i,hi,rfl,rfl,hE,hb⟩:=hrel;subst hb;have HE:=hid hE;clear hE;by_cases hin:i<n
  · have h1:i<a.length:=by rw [HN.out];exact hin
    obtain⟨x,hx⟩:∃ x,a[i]?=some x:=⟨_,List.getElem?_eq_getElem h1⟩;have HX:=hid hx;obtain⟨g1,o1,rfl,q1⟩:=HT.out i x hx;have HC:=hid (HH.out x);obtain⟨v,hv⟩:∃ v,b.contains x=v:=⟨_,rfl⟩;have HBt:=hid hv;rw [hv] at HC;clear h1 hx hv;obtain⟨X,hX⟩:∃ X,str x=X:=⟨_,rfl⟩;rw [hX] at q1 HC;clear hX;cases v with
    |true=>
     have HV:=hid (show meetR a b=true from by
      unfold meetR;rw [show (a.any fun x=>b.contains x)=true from List.any_eq_true.2 ⟨x,List.mem_of_getElem? HX.out,HBt.out⟩];simp)
     go_wp2_with (go_at_call 39;(with_reducible refine HC.out.mono ?_);rintro e w1 ⟨rfl,hw1⟩;subst w1);go_ret;exact⟨ret_bool HV.out.symm,rfl⟩
    |false=>
     go_wp2_with (go_at_call 39;(with_reducible refine HC.out.mono ?_);rintro e w1 ⟨rfl,hw1⟩;subst w1);go_roundg (n-(i+1)+1)
     case measure=>omega
     case rel=>
      refine⟨i+1,by omega,by omega,by go_num,?_,rfl⟩;intro z hz;rw [take_snoc_q a i x HX.out,List.mem_append,List.mem_singleton] at hz;rcases hz with hz|hz
      · exact HE.out z hz
      · rw [hz];exact HBt.out
  · have HV:=hid (show meetR a b=false from by
     have he:=HE.out;rw [show i=a.length by rw [HN.out];omega,List.take_length] at he;unfold meetR;rw [HNa.out,HNb.out,Bool.false_or,Bool.false_or,←Bool.not_eq_true,List.any_eq_true];rintro ⟨z,h1,h2⟩;rw [he z h1] at h2;cases h2)
    go_wp2;go_ret;exact⟨ret_bool HV.out.symm,rfl⟩
theorem rmeth_any (l:List B) (p:Option Addr) (n c:Nat) (hn:l.length=n) (hc:n≤c) (hz:∀ x∈l,x.length≤maxLen) (hnn:n≤140737488355328) (w:World) (hT:TxAt w p l):Calls Tryz.prog 17 #[.slice p n c] w fun e w'=>e= .returned (.int .i64 (methE l:Int))∧Below w.heap.size w w':=by
 have HN:=hid hn;have HT:=hid hT;have HZ:=hid hz;clear hn hT hz;go_enter Tryz.func17,Tryz.ntmps17;go_wp2;go_loopg [3] (n+1) (fun gk s9 wr=>∃ i:Nat,i≤n∧gk=n-i+1∧s9= .int .i64 (i:Int)∧(∀ z∈l.take i,tokT z=true)∧wr=w)
 case atStart=>exact⟨0,by omega,rfl,rfl,by simp,rfl⟩
 case round=>
  obtain⟨i,hi,rfl,rfl,hE,hb⟩:=hrel;subst hb;have HE:=hid hE;clear hE;by_cases hin:i<n
  · have h1:i<l.length:=by rw [HN.out];exact hin
    obtain⟨x,hx⟩:∃ x,l[i]?=some x:=⟨_,List.getElem?_eq_getElem h1⟩;have HX:=hid hx;obtain⟨g1,o1,rfl,q1⟩:=HT.out i x hx;have HTk:=hid (fun W:World=>ristoken_any (str x) W (by rw [str_size];exact HZ.out x (List.mem_of_getElem? hx)));obtain⟨b,hb⟩:∃ b,tokT x=b:=⟨_,rfl⟩;have HBt:=hid hb;rw [show isTok (str x)=b from hb] at HTk;clear h1 hx hb;obtain⟨X,hX⟩:∃ X,str x=X:=⟨_,rfl⟩;rw [hX] at q1 HTk;clear hX;cases b with
    |false=>
     have HV:=hid (methE_bad HX.out HBt.out);go_wp2_with (go_at_call 42;(with_reducible refine(HTk.out _).mono ?_);rintro e w1 ⟨rfl,hw1⟩;subst w1);go_ret;exact⟨by rw [HV.out];rfl,Below.refl _ _⟩
    |true=>
     go_wp2_with (go_at_call 42;(with_reducible refine(HTk.out _).mono ?_);rintro e w1 ⟨rfl,hw1⟩;subst w1);go_roundg (n-(i+1)+1)
     case measure=>omega
     case rel=>
      refine⟨i+1,by omega,by omega,by go_num,?_,rfl⟩;intro z hz;rw [take_snoc_q l i x HX.out,List.mem_append,List.mem_singleton] at hz;rcases hz with hz|hz
      · exact HE.out z hz
      · rw [hz];exact HBt.out
  · have HA:=hid (all_to HE.out (by rw [HN.out];omega));obtain⟨w0,hw0⟩:∃ W,W=wr:=⟨_,rfl⟩;subst hw0;go_wp2;clear hin hi HE;go_loopg [4] (n+1) (fun gk s20 wr2=>∃ i:Nat,i≤n∧gk=n-i+1∧s20= .int .i64 (i:Int)∧(l.take i).Nodup∧Below w0.heap.size w0 wr2)
    case atStart=>exact⟨0,by omega,rfl,rfl,by simp,Below.refl _ _⟩
    case round=>
     obtain⟨i,hi,rfl,rfl,hE,hb⟩:=hrel;have HE:=hid hE;have HB:=hid hb;clear hE hb;by_cases hin:i<n
     · have h1:i<l.length:=by rw [HN.out];exact hin
       obtain⟨x,hx⟩:∃ x,l[i]?=some x:=⟨_,List.getElem?_eq_getElem h1⟩;have HX:=hid hx;obtain⟨g1,o1,rfl,q1⟩:=(HT.out.next HB.out) i x hx;have HCt:=hid (fun (W:World) (hb:Below wr.heap.size wr W)=>rhas_any (l.take i) (some ⟨g1,o1,none⟩) i c (by rw [List.length_take];omega) (by omega) x W (txt_take ((HT.out.next HB.out).next hb) i));obtain⟨b,hb⟩:∃ b,(l.take i).contains x=b:=⟨_,rfl⟩;have HBt:=hid hb;rw [hb] at HCt;clear h1 hx hb;obtain⟨X,hX⟩:∃ X,str x=X:=⟨_,rfl⟩;rw [hX] at q1 HCt;clear hX;have hic:i≤c:=by omega
       cases b with
       |true=>
        have HV:=hid (methE_twice HA.out HX.out HBt.out);go_wp2;go_region_with (go_at_call 39;(with_reducible refine(HCt.out _ (by first|exact(Below.refl _ _).drew|exact Below.refl _ _|exact below_drew (Below.refl _ _) _)).mono ?_);rintro e w1 ⟨rfl,hw1⟩;have hbw:Below wr.heap.size wr w1:=(by rw [hw1];first|exact(Below.refl _ _).drew|exact Below.refl _ _|exact below_drew (Below.refl _ _) _);have HB2:=hid (below_out HB.out hbw);clear hw1 hbw);all_goals
         go_wp2;go_ret;exact⟨by rw [HV.out];rfl,HB2.out⟩
       |false=>
        have HNx:=hid (nodup_next HE.out HX.out HBt.out);go_wp2;go_region_with (go_at_call 39;(with_reducible refine(HCt.out _ (by first|exact(Below.refl _ _).drew|exact Below.refl _ _|exact below_drew (Below.refl _ _) _)).mono ?_);rintro e w1 ⟨rfl,hw1⟩;have hbw:Below wr.heap.size wr w1:=(by rw [hw1];first|exact(Below.refl _ _).drew|exact Below.refl _ _|exact below_drew (Below.refl _ _) _);have HB2:=hid (below_out HB.out hbw);clear hw1 hbw);all_goals
         go_wp2;go_roundg (n-(i+1)+1)
         case measure=>omega
         case rel=>exact⟨i+1,by omega,by omega,by go_num,HNx.out,HB2.out⟩
     · have HV:=hid (methE_ok HA.out (show i=l.length by rw [HN.out];omega) HE.out);go_wp2;go_ret;exact⟨by rw [HV.out];rfl,HB.out⟩
theorem ptakes_any (l:List B) (p:Option Addr) (n c:Nat) (hn:l.length=n) (hnn:n≤140737488355328) (P:ByteArray) (y:B) (w:World) (hT:TxAt w p l):Calls Tryz.prog 32 #[.agg #[.string P,.slice p n c],.string (str y)] w fun e w'=>e= .returned (.bool (takesR l y))∧Below w.heap.size w w':=by
 have HCt:=hid (fun (W:World) (hb:Below w.heap.size w W)=>contains_any l p n c hn hnn y W (hT.next hb));unfold takesR;obtain⟨v,hv⟩:∃ v,l.contains y=v:=⟨_,rfl⟩;rw [hv] at HCt ⊢;obtain⟨Y,hY⟩:∃ Y,str y=Y:=⟨_,rfl⟩;rw [hY] at HCt ⊢;clear hv hY hT;have HB0:=hid (below_new w (.cells #[.string P,.slice p n c] 91 (0,0)));by_cases h0:n=0
 · subst h0;rw [List.length_eq_zero_iff.1 hn];clear hn;go_enter Tryz.func32,Tryz.ntmps32;go_wp2;go_ret;exact⟨rfl,HB0.out⟩
 · have HV:=hid (show l.isEmpty=false from by cases l with|nil=>exact absurd hn (by simp;omega)|cons x l=>rfl);have hb1:((n:Int)== 0)=false:=by rw [beq_eq_false_iff_ne];omega
   rw [HV.out,Bool.false_or];clear hn;go_enter Tryz.func32,Tryz.ntmps32;go_wp2_with (go_at_call 41;(with_reducible refine(HCt.out _ HB0.out).mono ?_);rintro e w1 ⟨rfl,hw1⟩;subst w1);go_ret;exact⟨rfl,HB0.out⟩
open Go.RowKit Go.Maps
theorem small_small (c:UInt8):smallU (smallU c)=smallU c:=by
 apply UInt8.toNat_inj.1;have h1:=smallU_val (smallU c);have h2:=smallU_val c;rw [h2] at h1;have h3:=c.toNat_lt;have:((smallU (smallU c)).toNat:Int)=((smallU c).toNat:Int):=by
  rw [h1,h2];unfold smallV;by_cases h:65≤(c.toNat:Int)∧(c.toNat:Int)≤90
  · rw [if_pos h,if_neg (by omega)]
  · rw [if_neg h,if_neg h]
 omega
theorem low_low (s:B):lowH (lowH s)=lowH s:=by
 unfold lowH;rw [List.map_map];apply List.map_congr_left;intro c _;exact small_small c
theorem labs_low (wild:Bool) (s:B):labsH wild (lowH s)=labsH wild s:=by
 rw [labsH_low,labsH_low,low_len,low_low]
theorem pat_low (p:B):patH (lowH p)=patH p:=by
 unfold patH;by_cases h:p= []
 · subst h;rfl
 · rw [if_neg h,if_neg (fun e=>h (by have:=congrArg List.length e;rw [low_len] at this;exact List.eq_nil_of_length_eq_zero this)),labs_low]
theorem pat_join {p:B}{x:List B} (h:patH p=some x):joinH x=lowH p:=by
 rcases patH_some h with ⟨rfl,rfl⟩|⟨_,h1,_⟩
 · rfl
 · rw [(labs_cut h1).1];exact cutH_join _
theorem patL_some {p:B}{x:List B} (h:patH p=some x):patL p=x:=by unfold patL;rw [h];rfl
theorem pat_inj {p q:B}{x:List B} (hp:patH p=some x) (hq:patH q=some x):lowH p=lowH q:=by rw [←pat_join hp,←pat_join hq]
theorem key_len {p:B}{x:List B} (h:patH p=some x):(keyS x).1.length≤254∧(keyS x).2.length≤100000:=by
 have hl:=pat_len h;refine⟨by show (shapeS x).length≤254;rw [shape_len];exact hl,?_⟩;show (joinH (pickS x.reverse (shapeS x))).length≤100000;have hm:∀ y∈pickS x.reverse (shapeS x),y.length≤253:=by
  intro y hy;have hy2:=List.mem_reverse.1 (pick_mem hy);rcases patH_some h with ⟨_,rfl⟩|⟨_,h1,_⟩
  · simp at hy2
  · exact labs_mem_len h1 y hy2
 have h1:=joinH_len hm;have h2:=pick_len x.reverse (shapeS x) (by rw [List.length_reverse,shape_len]);have h3:(shapeS x).countP (· == 48)≤(shapeS x).length:=List.countP_le_length;rw [shape_len] at h3;rw [h2] at h1;have:(253+1)*(shapeS x).countP (· == 48)≤254*254:=Nat.mul_le_mul_left 254 (by omega);omega
structure Tab (w:World) (t:Nat) (P:List (B×Int)) (m:Option Nat) (v1 v2:Value) (L:List B):Prop where
 tab:Tab0 w t P P (P.map (·.1)) m v1 v2 L
 fine:∀ p∈P,(∃ x,patH p.1=some x)∧lowH p.1=p.1
 nd:∀ p∈P,∀ q∈P,p.1=q.1→p=q
 len:P.length≤64
section
variable {w w' : World} {t : Nat} {P : List (B × Int)} {m : Option Nat} {v1 v2 : Value} {L : List B}
theorem Tab.next (h:Tab w t P m v1 v2 L) (hb:Below w.heap.size w w'):Tab w' t P m v1 v2 L:=⟨h.tab.next hb,h.fine,h.nd,h.len⟩
theorem Tab.keep (h:Tab w t P m v1 v2 L) (hk:∀ i,Ft t m v1 v2 i→i<w.heap.size→w'.heap[i]?=w.heap[i]?):Tab w' t P m v1 v2 L:=⟨h.tab.keep hk,h.fine,h.nd,h.len⟩
theorem Tab.apart (h:Tab w t P m v1 v2 L) {p q:B×Int} (hp:p∈P) (hq:q∈P) (e:patL p.1=patL q.1):p=q:=by
 obtain⟨⟨x,hx⟩,h1⟩:=h.fine p hp;obtain⟨⟨y,hy⟩,h2⟩:=h.fine q hq;rw [patL_some hx,patL_some hy] at e;subst e;refine h.nd p hp q hq ?_;rw [←h1,←h2];exact pat_inj hx hy
theorem Tab.dot (h:Tab w t P m v1 v2 L) {p:B×Int} (hp:p∈P):noDot (patL p.1):=by
 obtain⟨⟨x,hx⟩,_⟩:=h.fine p hp;rw [patL_some hx];exact pat_nodot hx
theorem ids_some {P:List (B×Int)}{k:B×B}{i:Int} (h:idsF P k=some i):∃ p∈P,keyS (patL p.1)=k∧p.2=i:=by
 unfold idsF at h;obtain⟨p,hp,rfl⟩:=Option.map_eq_some_iff.1 h;have h2:=List.find?_some hp;simp only [decide_eq_true_eq] at h2;exact⟨p,List.mem_of_find?_eq_some hp,h2,rfl⟩
theorem Tab.ids (h:Tab w t P m v1 v2 L) (k:B×B) (i:Int):idsF P k=some i↔∃ p∈P,keyS (patL p.1)=k∧p.2=i:=by
 constructor
 · exact ids_some
 · rintro ⟨p,hp,hk,hi⟩;cases hf:idsF P k with
   |none=>
    unfold idsF at hf;rw [Option.map_eq_none_iff,List.find?_eq_none] at hf;exact absurd (decide_eq_true hk) (hf p hp)
   |some j=>
    obtain⟨q,hq,hk2,hj⟩:=ids_some hf;have:=h.apart hq hp (key_inj (h.dot hq) (h.dot hp) (hk2.trans hk.symm));subst this;rw [←hj,hi]
end
def addE (P:List (B×Int)) (p:B):Nat:=if (patH p).isNone then 3 else if P.any (fun q=>decide (q.1=lowH p)) then 6 else if 64≤P.length then 9 else 0
def addP (P:List (B×Int)) (p:B) (id:Int):List (B×Int):=if addE P p=0 then P++ [(lowH p,id)] else P
theorem any_ids {w:World}{t:Nat}{P:List (B×Int)}{m:Option Nat}{v1 v2:Value}{L:List B} (h:Tab w t P m v1 v2 L) {p:B}{x:List B} (hx:patH p=some x):P.any (fun q=>decide (q.1=lowH p))=(idsF P (keyS x)).isSome:=by
 rw [Bool.eq_iff_iff,List.any_eq_true,Option.isSome_iff_exists];constructor
 · rintro ⟨q,hq,e⟩;have e:=of_decide_eq_true e;refine⟨q.2,(h.ids _ _).2 ⟨q,hq,?_,rfl⟩⟩;rw [e,show patL (lowH p)=x from patL_some (by rw [pat_low];exact hx)]
 · rintro ⟨i,hi⟩;obtain⟨q,hq,hk,_⟩:=ids_some hi;refine⟨q,hq,decide_eq_true ?_⟩;obtain⟨⟨y,hy⟩,h1⟩:=h.fine q hq;rw [patL_some hy] at hk;have:=key_inj (pat_nodot hy) (pat_nodot hx) hk;subst this;rw [←h1];exact pat_inj hy hx
theorem Tab.more {w w':World}{t:Nat}{P:List (B×Int)}{m m':Option Nat}{v1 v2 v1' v2':Value}{L L':List B}{p:B}{id:Int}{x:List B} (h:Tab w t P m v1 v2 L) (hx:patH p=some x) (hno:idsF P (keyS x)=none) (hl:P.length<64) (hT:Tab0 w' t (P++ [(lowH p,id)]) (P++ [(lowH p,id)]) (P.map (·.1)++ [lowH p]) m' v1' v2' L'):Tab w' t (P++ [(lowH p,id)]) m' v1' v2' L':=by
 have hn:∀ q∈P,q.1≠lowH p:=by
  intro q hq e;have h1:=any_ids h hx;rw [hno] at h1;have h2:P.any (fun q=>decide (q.1=lowH p))=true:=List.any_eq_true.2 ⟨q,hq,decide_eq_true e⟩;rw [h2] at h1;cases h1
 refine⟨by rw [List.map_append];exact hT,fun q hq=>?_,fun q hq r hr e=>?_,by rw [List.length_append];simp;omega⟩
 · rcases List.mem_append.1 hq with hq|hq
   · exact h.fine q hq
   · simp at hq;subst hq;exact⟨⟨x,by rw [pat_low];exact hx⟩,low_low p⟩
 · rcases List.mem_append.1 hq with hq|hq <;> rcases List.mem_append.1 hr with hr|hr
   · exact h.nd q hq r hr e
   · simp at hr;subst hr;exact absurd e (hn q hq)
   · simp at hq;subst hq;exact absurd e.symm (hn r hr)
   · simp at hq hr;rw [hq,hr]
def findP (P:List (B×Int)) (y:List B) (o:Option Int):Prop:=match o with
 |none=>∀ p∈P,fitsS (patL p.1) y=false
 |some i=>∃ p∈P,p.2=i∧fitsS (patL p.1) y=true∧∀ q∈P,fitsS (patL q.1) y=true→q=p∨aheadP (patL p.1) (patL q.1)=true
theorem Tab.found {w:World}{t:Nat}{P:List (B×Int)}{m:Option Nat}{v1 v2:Value}{L:List B} (h:Tab w t P m v1 v2 L) {y:List B} (hy:noDot y):findP P y (findO (idsF P) y L):=by
 have hs:∀ p∈P,shapeS (patL p.1)∈L:=fun p hp=>(h.tab.mem _).2 ⟨p,hp,rfl⟩
 rcases find_spec (ids:=idsF P) (h:=y) (P:=P) (lab:=fun p=>patL p.1) (num:=fun p=>p.2) hy (fun p hp=>h.dot hp) (fun p hp q hq e=>h.apart hp hq e) h.ids h.tab.srt with ⟨h1,h2⟩|⟨p,hp,h1,h2,h3⟩
 · rw [h1];exact fun p hp=>h2 p hp (hs p hp)
 · rw [h1];exact⟨p,hp,rfl,h2,fun q hq hf=>h3 q hq (hs q hq) hf⟩
end Go.Proofs.YtlmlljlappjjjaaGreatDoor
