/- Whether a pattern fits a host, and which of two goes ahead, by the document. -/
import Derived.Test.YtlmlljlappjjjaaGreatDoorSLab
namespace Go.Proofs.YtlmlljlappjjjaaGreatDoor
set_option maxRecDepth 20000
set_option maxHeartbeats 8000000
open Go.RowKit
def LbAt (w:World) (p:Option Addr) (l:List B):Prop:=∀ (j:Nat) (t:B),l[j]?=some t→∃ g o,p=some ⟨g,o,none⟩∧w.cell? ⟨g,o+j,none⟩=some (.string (str t))
theorem OwnS.lb {w:World}{base n c:Nat}{p:Option Addr}{l:List B} (h:OwnS w base (.slice p n c) l):LbAt w p l:=fun _ _ hj=>h.at hj
theorem LbAt.next {w w':World}{p:Option Addr}{l:List B} (h:LbAt w p l) (hb:Below w.heap.size w w'):LbAt w' p l:=by
 intro j t hj;obtain⟨g,o,e,hc⟩:=h j t hj;exact⟨g,o,e,cell_keep hb hc⟩
theorem below_drewH (w:World) (n:Nat):Below w.heap.size w (w.drewN n):=⟨rfl,rfl,rfl,Nat.le_refl _,fun _ _=>rfl⟩
theorem labsH_some {wild:Bool}{s:B}{x:List B} (h:labsH wild s=some x):s≠ []∧s.length≤253∧x=(cutH s).map lowH∧x.length≤254∧x≠ []:=by
 unfold labsH at h;split at h
 · cases h
 · rename_i h1
   split at h
   · injection h with h
     subst h;have:=cutH_len s;refine⟨fun e=>h1 (.inl e),Nat.le_of_not_lt (fun e=>h1 (.inr e)),rfl,?_,?_⟩
     · rw [List.length_map];have h2:¬253<s.length:=fun e=>h1 (.inr e)
       omega
     · intro e;exact cutH_ne s (List.map_eq_nil_iff.1 e)
   · cases h
theorem fitsL_len:∀ {x y:List B},fitsL x y=true→x.length=y.length
 | [],[],_=>rfl
 | [],_::_,h=>by simp [fitsL] at h
 |_::_,[],h=>by simp [fitsL] at h
 |a::x,b::y,h=>by
  unfold fitsL at h;rw [Bool.and_eq_true] at h;rw [List.length_cons,List.length_cons,fitsL_len h.2]
theorem fitsL_step {x y:List B}{i:Nat}{a b:B} (ha:x[i]?=some a) (hb:y[i]?=some b):fitsL (x.drop i) (y.drop i)=((decide (a=starL) || decide (a=b)) && fitsL (x.drop (i+1)) (y.drop (i+1))):=by
 obtain⟨h1,e1⟩:=(List.getElem?_eq_some_iff.1 ha);obtain⟨h2,e2⟩:=(List.getElem?_eq_some_iff.1 hb);rw [List.drop_eq_getElem_cons h1,List.drop_eq_getElem_cons h2,e1,e2];rfl
theorem rfits_nil (h:B) (w:World):Calls Tryz.prog 52 #[.string (str []),.string (str h)] w fun e w'=>e= .returned (.bool true)∧w'=w:=by
 go_enter Tryz.func52,Tryz.ntmps52;go_wp2;go_ret;exact⟨rfl,rfl⟩
theorem rfits_any (p h:B) (x y:List B) (hp:labsH true p=some x) (hh:labsH false h=some y) (w:World):Calls Tryz.prog 52 #[.string (str p),.string (str h)] w fun e w'=>e= .returned (.bool (fitsL x y))∧Below w.heap.size w w':=by
 obtain⟨hp0,hpl,_,hxl,_⟩:=labsH_some hp;obtain⟨_,hhl,_,hyl,_⟩:=labsH_some hh;have HSa:=hid (fun W:World=>by have h1:=rlabels_any p true (by omega) W;rw [hp] at h1;exact h1);have HSb:=hid (fun W:World=>by have h1:=rlabels_any h false (by omega) W;rw [hh] at h1;exact h1);obtain⟨A,hA⟩:∃ A,str p=A:=⟨_,rfl⟩;obtain⟨C,hC⟩:∃ C,str h=C:=⟨_,rfl⟩;have hne1:¬A=(⟨#[]⟩:ByteArray):=fun e=>hp0 (str_inj (by rw [hA,e]))
 have hne2:(A.toList== (⟨#[]⟩:ByteArray).toList)=false:=ne_list hne1;have hne3:A.toList.isEmpty=false:=ne_empty hne1;have hne4:(A.toList== [])=false:=by have h:=hne2;rw [ByteArray.toList_eq,ByteArray.toList_eq] at h;rw [ByteArray.toList_eq];exact h
 rw [hA] at HSa ⊢;rw [hC] at HSb ⊢;obtain⟨n,hn⟩:∃ n,x.length=n:=⟨_,rfl⟩;obtain⟨m,hm⟩:∃ m,y.length=m:=⟨_,rfl⟩;have HN:=hid hn;have HM:=hid hm;have hnn:n≤254:=by omega
 have hmm:m≤254:=by omega
 unfold LabAns at HSa HSb;dsimp only at HSa HSb;rw [hn] at HSa;rw [hm] at HSb;clear hA hC hn hm hp hh hp0 hpl hhl hxl hyl;by_cases hnm:n=m
 case neg=>
  have HV:=hid (show fitsL x y=false from by
   cases h:fitsL x y with
   |false=>rfl
   |true=>exact absurd (by have:=fitsL_len h;rw [HN.out,HM.out] at this;exact this) hnm)
  have hz1:¬(n:Int)=(m:Int):=by omega
  have hz2:((n:Int) != (m:Int))=true:=by simp;omega
  have hz3:((n:Int)== (m:Int))=false:=by simp;omega
  rw [HV.out];go_enter Tryz.func52,Tryz.ntmps52;go_wp2_with (go_at_call 51;first|((with_reducible refine(HSa.out _).mono ?_);rintro e w1 ⟨hb,p1,c1,rfl,ho⟩;have HT1:=hid ho.lb;have HB1:=hid hb;clear ho hb HSa)|((with_reducible refine(HSb.out _).mono ?_);rintro e w2 ⟨hb,p2,c2,rfl,ho⟩;have HT2:=hid ho.lb;have HT3:=hid (HT1.out.next hb);have HB2:=hid (below_out HB1.out hb);clear ho hb HSb HT1 HB1));go_ret;exact⟨rfl,HB2.out⟩
 subst hnm;go_enter Tryz.func52,Tryz.ntmps52;go_wp2_with (go_at_call 51;first|((with_reducible refine(HSa.out _).mono ?_);rintro e w1 ⟨hb,p1,c1,rfl,ho⟩;have HT1:=hid ho.lb;have HB1:=hid hb;clear ho hb HSa)|((with_reducible refine(HSb.out _).mono ?_);rintro e w2 ⟨hb,p2,c2,rfl,ho⟩;have HT2:=hid ho.lb;have HT3:=hid (HT1.out.next hb);have HB2:=hid (below_out HB1.out hb);clear ho hb HSb HT1 HB1));go_loopg [9] (n+1) (fun gk s9 wr=>∃ i:Nat,i≤n∧gk=n-i+1∧s9= .int .i64 (i:Int)∧fitsL x y=fitsL (x.drop i) (y.drop i)∧Below w2.heap.size w2 wr)
 case atStart=>exact⟨0,by omega,rfl,rfl,rfl,Below.refl _ _⟩
 case round=>
  obtain⟨i,hi,rfl,rfl,hE,hb⟩:=hrel;have HE:=hid hE;have HB:=hid hb;clear hE hb;by_cases hin:i<n
  · have h1:i<x.length:=by rw [HN.out];exact hin
    have h2:i<y.length:=by rw [HM.out];exact hin
    obtain⟨a,ha⟩:∃ a,x[i]?=some a:=⟨_,List.getElem?_eq_getElem h1⟩;obtain⟨b,hb⟩:∃ b,y[i]?=some b:=⟨_,List.getElem?_eq_getElem h2⟩;obtain⟨g1,o1,rfl,q1⟩:=(HT3.out.next HB.out) i a ha;obtain⟨g2,o2,rfl,q2⟩:=(HT2.out.next HB.out) i b hb;have HSt:=hid (fitsL_step ha hb);obtain⟨Sa,hSa⟩:∃ S,str a=S:=⟨_,rfl⟩;obtain⟨Sb,hSb⟩:∃ S,str b=S:=⟨_,rfl⟩;have HIn:=hid (show Sa=Sb→a=b from fun h=>str_inj (by rw [hSa,hSb];exact h));have HIn2:=hid (show a=b→Sa=Sb from fun h=>by rw [←hSa,←hSb,h]);have HStar:=hid (show Sa=(⟨#[42]⟩:ByteArray)→a=starL from fun h=>str_inj (by rw [hSa,h];rfl));have HStar2:=hid (show a=starL→Sa=(⟨#[42]⟩:ByteArray) from fun h=>by rw [←hSa,h];rfl);rw [hSa] at q1;rw [hSb] at q2;clear h1 h2 ha hb hSa hSb;by_cases hs:a=starL
    · have hS:=HStar2.out hs;subst hS;rw [decide_eq_true hs,Bool.true_or,Bool.true_and] at HSt;clear hs;go_wp2;go_quiet (fail);go_wp2;go_roundg (n-(i+1)+1)
      case measure=>omega
      case rel=>exact⟨i+1,by omega,rfl,by push_cast;go_num,HE.out.trans HSt.out,HB.out.trans ((below_drewH _ _).mono HB.out.size)⟩
    · have hs1:¬Sa=(⟨#[42]⟩:ByteArray):=fun h=>hs (HStar.out h)
      have hs4:(Sa.toList== (⟨#[42]⟩:ByteArray).toList)=false:=ne_list hs1;have hs5:(Sa.toList== [42])=false:=by have h:=hs4;rw [ByteArray.toList_eq,ByteArray.toList_eq] at h;rw [ByteArray.toList_eq];exact h
      have hs6:(!Sa.toList== [42])=true:=by rw [hs5];rfl
      rw [decide_eq_false hs,Bool.false_or] at HSt;clear hs;by_cases hab:a=b
      · have hS:=HIn2.out hab;subst hS;rw [decide_eq_true hab,Bool.true_and] at HSt;clear hab;go_wp2;go_quiet (fail);go_wp2;go_roundg (n-(i+1)+1)
        case measure=>omega
        case rel=>exact⟨i+1,by omega,rfl,by push_cast;go_num,HE.out.trans HSt.out,HB.out.trans ((below_drewH _ _).mono HB.out.size)⟩
      · have hS:¬Sa=Sb:=fun h=>hab (HIn.out h)
        have hS4:(Sa.toList== Sb.toList)=false:=ne_list hS;have hS5:(!Sa.toList== Sb.toList)=true:=by rw [hS4];rfl
        rw [decide_eq_false hab,Bool.false_and] at HSt;clear hab;go_wp2;go_quiet (fail);go_wp2;go_ret;exact⟨by rw [HE.out,HSt.out];rfl,below_out HB2.out (HB.out.trans ((below_drewH _ _).mono HB.out.size))⟩
  · obtain rfl:n=i:=by omega
    have HV:=hid (show fitsL (x.drop n) (y.drop n)=true from by
     rw [List.drop_of_length_le (l:=x) (by rw [HN.out];exact Nat.le_refl _),List.drop_of_length_le (l:=y) (by rw [HM.out];exact Nat.le_refl _)];rfl)
    go_wp2;go_ret;exact⟨by rw [HE.out,HV.out];rfl,below_out HB2.out HB.out⟩
def aheadR (x y:List B):Bool:=aheadL x.reverse y.reverse
theorem take_rev {x:List B}{i:Nat}{a:B} (h:x[i]?=some a):(x.take (i+1)).reverse=a::(x.take i).reverse:=by
 rw [List.take_add_one,h];simp
theorem aheadR_step {x y:List B}{i:Nat}{a b:B} (ha:x[i]?=some a) (hb:y[i]?=some b):aheadL (x.take (i+1)).reverse (y.take (i+1)).reverse=if (a=starL)=(b=starL) then aheadL (x.take i).reverse (y.take i).reverse else decide (b=starL):=by
 rw [take_rev ha,take_rev hb];rfl
theorem rahead_nil (b:B) (w:World):Calls Tryz.prog 55 #[.string (str []),.string (str b)] w fun e w'=>e= .returned (.bool false)∧w'=w:=by
 obtain⟨C,hC⟩:∃ C,str b=C:=⟨_,rfl⟩;rw [hC];clear hC;go_enter Tryz.func55,Tryz.ntmps55;go_wp2;go_ret;exact⟨rfl,rfl⟩
theorem rahead_one (a:B) (ha:a≠ []) (w:World):Calls Tryz.prog 55 #[.string (str a),.string (str [])] w fun e w'=>e= .returned (.bool true)∧w'=w:=by
 obtain⟨A,hA⟩:∃ A,str a=A:=⟨_,rfl⟩;have hne1:¬A=(⟨#[]⟩:ByteArray):=fun e=>ha (str_inj (by rw [hA,e]))
 have hne2:(A.toList== (⟨#[]⟩:ByteArray).toList)=false:=ne_list hne1;have hne3:A.toList.isEmpty=false:=ne_empty hne1;have hne4:(A.toList== [])=false:=by have h:=hne2;rw [ByteArray.toList_eq,ByteArray.toList_eq] at h;rw [ByteArray.toList_eq];exact h
 rw [hA];clear hA ha;go_enter Tryz.func55,Tryz.ntmps55;go_wp2;go_ret;exact⟨rfl,rfl⟩
theorem star_or (S:ByteArray) {a:B} (h:str a=S):(a=starL∧S=(⟨#[42]⟩:ByteArray))∨(¬a=starL∧¬S=(⟨#[42]⟩:ByteArray)):=by
 by_cases e:a=starL
 · exact .inl ⟨e,by rw [←h,e];rfl⟩
 · exact .inr ⟨e,fun h1=>e (str_inj (by rw [h,h1];rfl))⟩
theorem star_not {S:ByteArray} (h:¬S=(⟨#[42]⟩:ByteArray)):(S.toList== [42])=false:=by
 have h:=ne_list h;rw [ByteArray.toList_eq,ByteArray.toList_eq] at h;rw [ByteArray.toList_eq];exact h
theorem rahead_any (p h:B) (x y:List B) (hp:labsH true p=some x) (hh:labsH true h=some y) (hxy:x.length=y.length) (w:World):Calls Tryz.prog 55 #[.string (str p),.string (str h)] w fun e w'=>e= .returned (.bool (aheadR x y))∧Below w.heap.size w w':=by
 obtain⟨hp0,hpl,hp7,hxl,hp8⟩:=labsH_some hp;obtain⟨hh0,hhl,hh7,hyl,hh8⟩:=labsH_some hh;clear hp7 hp8 hh7 hh8;have HSa:=hid (fun W:World=>by have h1:=rlabels_any p true (by omega) W;rw [hp] at h1;exact h1);have HSb:=hid (fun W:World=>by have h1:=rlabels_any h true (by omega) W;rw [hh] at h1;exact h1);obtain⟨A,hA⟩:∃ A,str p=A:=⟨_,rfl⟩;obtain⟨C,hC⟩:∃ C,str h=C:=⟨_,rfl⟩;have hne1:¬A=(⟨#[]⟩:ByteArray):=fun e=>hp0 (str_inj (by rw [hA,e]))
 have hne2:(A.toList== (⟨#[]⟩:ByteArray).toList)=false:=ne_list hne1;have hne3:A.toList.isEmpty=false:=ne_empty hne1;have hne4:(A.toList== [])=false:=by have h:=hne2;rw [ByteArray.toList_eq,ByteArray.toList_eq] at h;rw [ByteArray.toList_eq];exact h
 have hnf1:¬C=(⟨#[]⟩:ByteArray):=fun e=>hh0 (str_inj (by rw [hC,e]))
 have hnf2:(C.toList== (⟨#[]⟩:ByteArray).toList)=false:=ne_list hnf1;have hnf3:C.toList.isEmpty=false:=ne_empty hnf1;have hnf4:(C.toList== [])=false:=by have h:=hnf2;rw [ByteArray.toList_eq,ByteArray.toList_eq] at h;rw [ByteArray.toList_eq];exact h
 rw [hA] at HSa ⊢;rw [hC] at HSb ⊢;obtain⟨n,hn⟩:∃ n,x.length=n:=⟨_,rfl⟩;have hm:y.length=n:=by rw [←hxy,hn]
 have HN:=hid hn;have HM:=hid hm;have hnn:n≤254:=by omega
 unfold LabAns at HSa HSb;dsimp only at HSa HSb;rw [hn] at HSa;rw [hm] at HSb;have HX:=hid (show x.take n=x from List.take_of_length_le (by omega));have HY:=hid (show y.take n=y from List.take_of_length_le (by omega));clear hA hC hn hm hp hh hp0 hh0 hpl hhl hxl hyl hxy;go_enter Tryz.func55,Tryz.ntmps55;go_wp2_with (go_at_call 51;first|((with_reducible refine(HSa.out _).mono ?_);rintro e w1 ⟨hb,p1,c1,rfl,ho⟩;have HT1:=hid ho.lb;have HB1:=hid hb;clear ho hb HSa)|((with_reducible refine(HSb.out _).mono ?_);rintro e w2 ⟨hb,p2,c2,rfl,ho⟩;have HT2:=hid ho.lb;have HT3:=hid (HT1.out.next hb);have HB2:=hid (below_out HB1.out hb);clear ho hb HSb HT1 HB1));go_loopg [9] (n+1) (fun gk s9 wr=>∃ i:Nat,i≤n∧gk=i+1∧s9= .int .i64 ((i:Int)-1)∧aheadR x y=aheadL (x.take i).reverse (y.take i).reverse∧Below w2.heap.size w2 wr)
 case atStart=>exact⟨n,by omega,rfl,by go_num,by rw [HX.out,HY.out];rfl,Below.refl _ _⟩
 case round=>
  obtain⟨i0,hi,rfl,rfl,hE,hb⟩:=hrel;have HE:=hid hE;have HB:=hid hb;clear hE hb;rcases i0 with _|i
  · obtain⟨z,hz⟩:∃ z:Int,((0:Nat):Int)-1=z:=⟨_,rfl⟩;rw [hz];have hz0:¬(0:Int)≤z:=by omega
    clear hz;have HV:=hid (show aheadL (x.take 0).reverse (y.take 0).reverse=false from rfl);go_wp2;go_ret;exact⟨by rw [HE.out,HV.out];rfl,below_out HB2.out HB.out⟩
  · rw [show (((i+1:Nat):Int)-1)=(i:Int) by omega];have h1:i<x.length:=by rw [HN.out];omega
    have h2:i<y.length:=by rw [HM.out];omega
    obtain⟨a,ha⟩:∃ a,x[i]?=some a:=⟨_,List.getElem?_eq_getElem h1⟩;obtain⟨b,hb⟩:∃ b,y[i]?=some b:=⟨_,List.getElem?_eq_getElem h2⟩;obtain⟨g1,o1,rfl,q1⟩:=(HT3.out.next HB.out) i a ha;obtain⟨g2,o2,rfl,q2⟩:=(HT2.out.next HB.out) i b hb;have HSt:=hid (aheadR_step ha hb);obtain⟨Sa,hSa⟩:∃ S,str a=S:=⟨_,rfl⟩;obtain⟨Sb,hSb⟩:∃ S,str b=S:=⟨_,rfl⟩;have ka:=star_or Sa hSa;have kb:=star_or Sb hSb;rw [hSa] at q1;rw [hSb] at q2;clear h1 h2 ha hb hSa hSb;rcases ka with ⟨ka,rfl⟩|⟨ka,ka1⟩
    · rcases kb with ⟨kb,rfl⟩|⟨kb,kb1⟩
      · rw [if_pos (propext ⟨fun _=>kb,fun _=>ka⟩)] at HSt;clear ka kb;go_wp2;go_quiet (fail);go_wp2;go_roundg (i+1)
        case measure=>omega
        case rel=>exact⟨i,by omega,rfl,by push_cast;go_num,HE.out.trans HSt.out,HB.out.trans ((below_drewH _ _).mono HB.out.size)⟩
      · rw [if_neg (fun e:(a=starL)=(b=starL)=>kb (e.mp ka)),decide_eq_false kb] at HSt;have kb2:=star_not kb1;clear ka kb;go_wp2;go_quiet (fail);go_wp2;go_ret;exact⟨by rw [HE.out,HSt.out];rfl,below_out HB2.out (HB.out.trans ((below_drewH _ _).mono HB.out.size))⟩
    · have ka2:=star_not ka1;rcases kb with ⟨kb,rfl⟩|⟨kb,kb1⟩
      · rw [if_neg (fun e:(a=starL)=(b=starL)=>ka (e.mpr kb)),decide_eq_true kb] at HSt;clear ka kb;go_wp2;go_quiet (fail);go_wp2;go_ret;exact⟨by rw [HE.out,HSt.out];rfl,below_out HB2.out (HB.out.trans ((below_drewH _ _).mono HB.out.size))⟩
      · rw [if_pos (propext ⟨fun h=>absurd h ka,fun h=>absurd h kb⟩)] at HSt;have kb2:=star_not kb1;clear ka kb;go_wp2;go_quiet (fail);go_wp2;go_roundg (i+1)
        case measure=>omega
        case rel=>exact⟨i,by omega,rfl,by push_cast;go_num,HE.out.trans HSt.out,HB.out.trans ((below_drewH _ _).mono HB.out.size)⟩
def patH (p:B):Option (List B):=if p= [] then some [] else labsH true p
theorem patH_nil:patH []=some []:=rfl
theorem patH_ne {p:B} (h:p≠ []):patH p=labsH true p:=if_neg h
theorem labsH_nil (wild:Bool):labsH wild []=none:=rfl
theorem rcanon_any (s:B) (hs:s.length≤9223372036854775807) (w:World):Calls Tryz.prog 33 #[.string (str s)] w fun e w'=>(e= .returned (match labsH false s with|none=>.tuple #[.string ⟨#[]⟩,.int .i64 3]|some _=>.tuple #[.string (str (lowH s)),.int .i64 0]))∧Below w.heap.size w w':=by
 have HL:=hid (fun W:World=>rlabels_any s false (by omega) W);have HLo:=hid (fun (W:World) (h253:s.length≤253)=>by have h1:=rlower_any (str s) W (by rw [str_size];omega);rw [lowS_strH] at h1;exact h1);obtain⟨S,hS⟩:∃ S,str s=S:=⟨_,rfl⟩;obtain⟨Z,hZ⟩:∃ Z,str (lowH s)=Z:=⟨_,rfl⟩;rw [hS] at HL HLo ⊢;rw [hZ] at HLo ⊢;clear hS hZ;unfold LabAns at HL;cases hl:labsH false s with
 |none=>
  rw [hl] at HL;go_enter Tryz.func33,Tryz.ntmps33;go_wp2_with (go_at_call 51;(with_reducible refine(HL.out _).mono ?_);rintro e w1 ⟨hb,rfl⟩;have HB1:=hid hb;clear hb);go_ret2;exact⟨rfl,HB1.out⟩
 |some L=>
  rw [hl] at HL;have h253:=(labsH_some hl).2.1;go_enter Tryz.func33,Tryz.ntmps33;go_wp2_with (first|(go_at_call 51;(with_reducible refine(HL.out _).mono ?_);rintro e w1 ⟨hb,q,d,rfl,ho⟩;have HB1:=hid hb;clear hb ho)|(go_at_call 69;(with_reducible refine(HLo.out _ h253).mono ?_);rintro e w2 ⟨rfl,hb2⟩;have HB2:=hid (below_out HB1.out hb2);clear hb2));go_ret2;exact⟨rfl,HB2.out⟩
theorem rcheck_any (s:B) (hs:s.length≤9223372036854775807) (w:World):Calls Tryz.prog 27 #[.string (str s)] w fun e w'=>e= .returned (.int .i64 (if (patH s).isSome then 0 else 3))∧Below w.heap.size w w':=by
 have HL:=hid (fun W:World=>rlabels_any s true (by omega) W);by_cases h0:s= []
 · subst h0;rw [labsH_nil] at HL;rw [patH_nil];unfold LabAns at HL;go_enter Tryz.func27,Tryz.ntmps27;go_wp2_with (go_at_call 51;(with_reducible refine(HL.out _).mono ?_);rintro e w1 ⟨hb,rfl⟩;have HB1:=hid hb;clear hb);go_ret;exact⟨rfl,HB1.out⟩
 · rw [patH_ne h0];obtain⟨A,hA⟩:∃ A,str s=A:=⟨_,rfl⟩;have hne1:¬A=(⟨#[]⟩:ByteArray):=fun e=>h0 (str_inj (by rw [hA,e]))
   have hne2:(A.toList== (⟨#[]⟩:ByteArray).toList)=false:=ne_list hne1;have hne3:A.toList.isEmpty=false:=ne_empty hne1;have hne4:(A.toList== [])=false:=by have h:=hne2;rw [ByteArray.toList_eq,ByteArray.toList_eq] at h;rw [ByteArray.toList_eq];exact h
   rw [hA] at HL ⊢;clear hA h0;unfold LabAns at HL;cases hl:labsH true s with
   |none=>
    rw [hl] at HL;go_enter Tryz.func27,Tryz.ntmps27;go_wp2_with (go_at_call 51;(with_reducible refine(HL.out _).mono ?_);rintro e w1 ⟨hb,rfl⟩;have HB1:=hid hb;clear hb);go_ret;exact⟨rfl,HB1.out⟩
   |some L=>
    rw [hl] at HL;go_enter Tryz.func27,Tryz.ntmps27;go_wp2_with (go_at_call 51;(with_reducible refine(HL.out _).mono ?_);rintro e w1 ⟨hb,q,d,rfl,ho⟩;have HB1:=hid hb;clear hb ho);go_ret;exact⟨rfl,HB1.out⟩
def fitsAns (p h:B):Option Bool:=match patH p,labsH false h with
 |some x,some y=>some (fitsS x y)
 |_,_=>none
theorem patH_some {p:B}{x:List B} (h:patH p=some x):(p= []∧x= [])∨(p≠ []∧labsH true p=some x∧x≠ []):=by
 by_cases e:p= []
 · subst e;rw [patH_nil] at h;injection h with h
   exact .inl ⟨rfl,h.symm⟩
 · rw [patH_ne e] at h;exact .inr ⟨e,h,(labsH_some h).2.2.2.2⟩
theorem rfits_pat (p h:B) (x y:List B) (hp:patH p=some x) (hh:labsH false h=some y) (w:World):Calls Tryz.prog 52 #[.string (str p),.string (str h)] w fun e w'=>e= .returned (.bool (fitsS x y))∧Below w.heap.size w w':=by
 rcases patH_some hp with ⟨e1,e2⟩|⟨e1,e2,e3⟩
 · subst e1 e2;exact(rfits_nil h w).mono (by rintro e w' ⟨rfl,rfl⟩;exact⟨rfl,Below.refl _ _⟩)
 · have hs:fitsS x y=fitsL x y:=by unfold fitsS;rw [decide_eq_false e3,Bool.false_or]
   rw [hs];exact rfits_any p h x y e2 hh w
def aheadP (x y:List B):Bool:=aheadS x.reverse y.reverse
theorem rahead_pat (a b:B) (x y h:List B) (ha:patH a=some x) (hb:patH b=some y) (fa:fitsS x h=true) (fb:fitsS y h=true) (w:World):Calls Tryz.prog 55 #[.string (str a),.string (str b)] w fun e w'=>e= .returned (.bool (aheadP x y))∧Below w.heap.size w w':=by
 rcases patH_some ha with ⟨e1,e2⟩|⟨e1,e2,e3⟩
 · subst e1 e2;have hv:aheadP [] y=false:=by
    show aheadS [] y.reverse=false;unfold aheadS;rw [if_pos (.inl rfl)];rfl
   rw [hv];exact(rahead_nil b w).mono (by rintro e w' ⟨rfl,rfl⟩;exact⟨rfl,Below.refl _ _⟩)
 · rcases patH_some hb with ⟨e4,e5⟩|⟨e4,e5,e6⟩
   · subst e4 e5;have hv:aheadP x []=true:=by
      show aheadS x.reverse []=true;unfold aheadS;rw [if_pos (.inr rfl),decide_eq_true (show x.reverse≠ [] from fun e=>e3 (List.reverse_eq_nil_iff.1 e))];rfl
     rw [hv];exact(rahead_one a e1 w).mono (by rintro e w' ⟨rfl,rfl⟩;exact⟨rfl,Below.refl _ _⟩)
   · have hv:aheadP x y=aheadR x y:=by
      show aheadS x.reverse y.reverse=_;unfold aheadS;rw [if_neg (fun e=>e.elim (fun e=>e3 (List.reverse_eq_nil_iff.1 e)) (fun e=>e6 (List.reverse_eq_nil_iff.1 e)))];rfl
     unfold fitsS at fa fb;rw [decide_eq_false e3,Bool.false_or] at fa;rw [decide_eq_false e6,Bool.false_or] at fb;rw [hv];exact rahead_any a b x y e2 e5 ((fitsL_len fa).trans (fitsL_len fb).symm) w
theorem fitsL_snoc:∀ (l r:List B) (a b:B),l.length=r.length→fitsL (l++ [a]) (r++ [b])=(fitsL l r && (decide (a=starL) || decide (a=b)))
 | [],[],a,b,_=>by simp [fitsL]
 | [],_::_,_,_,h=>by simp at h
 |_::_,[],_,_,h=>by simp at h
 |x::l,y::r,a,b,h=>by
  have ih:=fitsL_snoc l r a b (by simpa using h);rw [List.cons_append,List.cons_append,fitsL,ih,fitsL,Bool.and_assoc]
theorem fitsL_rev:∀ {x y:List B},fitsL x y=true→fitsL x.reverse y.reverse=true
 | [],[],_=>rfl
 | [],_::_,h=>by simp [fitsL] at h
 |_::_,[],h=>by simp [fitsL] at h
 |x::l,y::r,h=>by
  unfold fitsL at h;rw [Bool.and_eq_true] at h;rw [List.reverse_cons,List.reverse_cons,fitsL_snoc _ _ _ _ (by rw [List.length_reverse,List.length_reverse,fitsL_len h.2]),fitsL_rev h.2,h.1];rfl
theorem fitsS_rev {x y:List B} (h:fitsS x y=true):fitsS x.reverse y.reverse=true:=by
 unfold fitsS at h ⊢;rw [Bool.or_eq_true] at h ⊢;rcases h with h|h
 · have:=of_decide_eq_true h;subst this;exact .inl rfl
 · exact .inr (fitsL_rev h)
theorem aheadP_irrefl (a:List B):aheadP a a=false:=aheadS_irrefl _
theorem aheadP_trans {a b c:List B} (h1:aheadP a b=true) (h2:aheadP b c=true):aheadP a c=true:=aheadS_trans h1 h2
theorem aheadP_asymm {a b:List B} (h:aheadP a b=true):aheadP b a=false:=aheadS_asymm h
theorem aheadP_total (a b h:List B) (ha:fitsS a h=true) (hb:fitsS b h=true):a=b∨aheadP a b=true∨aheadP b a=true:=by
 rcases aheadS_total a.reverse b.reverse h.reverse (fitsS_rev ha) (fitsS_rev hb) with h|h
 · exact .inl (List.reverse_inj.1 h)
 · exact .inr h
end Go.Proofs.YtlmlljlappjjjaaGreatDoor
