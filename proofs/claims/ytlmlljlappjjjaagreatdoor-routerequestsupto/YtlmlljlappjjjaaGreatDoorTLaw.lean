/- Split of the document. -/
import Derived.Test.YtlmlljlappjjjaaGreatDoorCNum
import Derived.Test.YtlmlljlappjjjaaGreatDoorQMeth2
namespace Go.Proofs.YtlmlljlappjjjaaGreatDoor
set_option maxRecDepth 20000
set_option maxHeartbeats 8000000
open Go.RowKit
def splitAt (s:B) (k:Nat):Value:=match labsH false (s.take k) with
 |none=>.tuple #[.string ⟨#[]⟩,.int .i64 0,.int .i64 3]
 |some _=>if k=s.length then .tuple #[.string (str (lowH (s.take k))),.int .i64 0,.int .i64 0]
  else if numE 10 65535 (str (s.drop (k+1)))≠0∨numN 10 65535 (str (s.drop (k+1)))<1∨s[k+1]?=some 48 then .tuple #[.string ⟨#[]⟩,.int .i64 0,.int .i64 3]
  else .tuple #[.string (str (lowH (s.take k))),.int .i64 (numN 10 65535 (str (s.drop (k+1)))),.int .i64 0]
theorem splitAt_eq (s:B) (k:Nat):splitAt s k=match labsH false (s.take k) with
 |none=>.tuple #[.string ⟨#[]⟩,.int .i64 0,.int .i64 3]
 |some _=>if k=s.length then .tuple #[.string (str (lowH (s.take k))),.int .i64 0,.int .i64 0]
  else if numE 10 65535 (str (s.drop (k+1)))≠0∨numN 10 65535 (str (s.drop (k+1)))<1∨s[k+1]?=some 48 then .tuple #[.string ⟨#[]⟩,.int .i64 0,.int .i64 3]
  else .tuple #[.string (str (lowH (s.take k))),.int .i64 (numN 10 65535 (str (s.drop (k+1)))),.int .i64 0]:=rfl
def colonH (s:B):Nat:=(s.takeWhile (fun c=>c != 58)).length
theorem colon_at:∀ (s:B) (i:Nat),(∀ y∈s.take i,y≠58)→s[i]?=some 58→colonH s=i
 | [],i,_,h=>by simp at h
 |x::s,0,_,h=>by
  simp at h;subst h;rfl
 |x::s,i+1,ha,h=>by
  have h1:x≠58:=ha x (by simp);have ih:=colon_at s i (fun y hy=>ha y (by simp [hy])) (by simpa using h);unfold colonH at ih ⊢;rw [List.takeWhile_cons,if_pos (by simpa using h1),List.length_cons,ih]
theorem colon_end:∀ (s:B),(∀ y∈s,y≠58)→colonH s=s.length
 | [],_=>rfl
 |x::s,ha=>by
  have h1:x≠58:=ha x (by simp);have ih:=colon_end s (fun y hy=>ha y (by simp [hy]));unfold colonH at ih ⊢;rw [List.takeWhile_cons,if_pos (by simpa using h1),List.length_cons,ih,List.length_cons]
theorem num_ne {s:ByteArray}{m:Int} (hm:0≤m) (h:numE 10 m s=0):0<s.size:=by
 unfold numE at h;rw [if_neg (by omega)] at h;by_cases hd:digAll 10 s=false
 · rw [if_pos hd] at h;cases h
 · unfold digAll at hd;by_cases h0:s.size=0
   · exact absurd (by rw [decide_eq_false (fun h=>h h0),Bool.false_and]) hd
   · omega
theorem ext_dropH (s:B) (k n:Nat) (hn:s.length=n):(str s).extract k n=str (s.drop k):=by
 rw [ext_str,List.take_of_length_le (by rw [List.length_drop];omega)]
theorem rsplit_any (s:B) (hs:s.length≤9223372036854775807) (w:World):Calls Tryz.prog 47 #[.string (str s)] w fun e w'=>e= .returned (splitAt s (colonH s))∧Below w.heap.size w w':=by
 have HCan:=hid (fun (k:Nat) (W:World)=>rcanon_any (s.take k) (by rw [List.length_take];omega) W);have HDec:=hid (fun (k:Nat) (W:World)=>rdecimal_any (str (s.drop k)) 65535 W (by rw [str_size,List.length_drop];unfold maxLen;omega) (by omega) (by omega));obtain⟨n,hn⟩:∃ n,s.length=n:=⟨_,rfl⟩;have HExT:=hid (take_ext s);have HExD:=hid (fun k=>ext_dropH s k n hn);obtain⟨S,hS⟩:∃ S,str s=S:=⟨_,rfl⟩;have hSn:S.size=n:=by rw [←hS,str_size,hn]
 have HByte:=hid (show ∀ (k:Nat) (h:k<s.length) (h2:k<S.size),S[k]'h2=s[k]'h from fun k h h2=>by subst hS;rfl);have HN:=hid hn;rw [hn] at hs;rw [hS] at HExT HExD ⊢;clear hS hn;go_enter Tryz.func47,Tryz.ntmps47;go_wp2;go_loopg [5,6] (n+1) (fun gk s5 s6 wr=>∃ i:Nat,i≤n∧gk=n-i+1∧s5= .int .i64 (n:Int)∧s6= .int .i64 (i:Int)∧(∀ y∈s.take i,y≠58)∧wr=w)
 case atStart=>exact⟨0,by omega,rfl,rfl,rfl,fun y hy=>by simp at hy,rfl⟩
 case round=>
  obtain⟨i,hi,rfl,rfl,rfl,hA,rfl⟩:=hrel;have HA:=hid hA;clear hA;by_cases hin:i<n
  · have h1:i<s.length:=by rw [HN.out];exact hin
    have h2:i<S.size:=by omega
    have hB:=HByte.out i h1 h2;obtain⟨c,hc⟩:∃ c,s[i]'h1=c:=⟨_,rfl⟩;have HC:=hid (show s[i]?=some c from by rw [List.getElem?_eq_getElem h1,hc]);rw [hc] at hB;clear hc h1;by_cases h58:c=58
    · subst h58;have HK:=hid (colon_at s i HA.out HC.out);have hex:=HExT.out i;have hexd:=HExD.out (i+1);have HCn:=hid (HCan.out i);have HDc:=hid (HDec.out (i+1));have HP1:=hid (show 0<(str (s.drop (i+1))).size→i+1<s.length from fun h=>by rw [str_size,List.length_drop] at h;omega);have HPb:=hid (show ∀ (h:0<(str (s.drop (i+1))).size),some ((str (s.drop (i+1)))[0]'h)=s[i+1]? from fun h=>by
       have h9:i+1<s.length:=HP1.out h;rw [List.getElem?_eq_getElem h9];show some ((s.drop (i+1))[0]'_)=_;rw [List.getElem_drop])
      have HSp:=hid ((congrArg (splitAt s) HK.out).trans (splitAt_eq s i));have hni:¬i=s.length:=by rw [HN.out];omega
      have hni2:¬(i:Int)=(n:Int):=by omega
      obtain⟨T,hT⟩:∃ T,str (s.take i)=T:=⟨_,rfl⟩;obtain⟨Z,hZ⟩:∃ Z,str (lowH (s.take i))=Z:=⟨_,rfl⟩;obtain⟨P,hP⟩:∃ P,str (s.drop (i+1))=P:=⟨_,rfl⟩;rw [hT] at hex HCn;rw [hP] at hexd HDc HSp HPb;rw [hZ] at HCn HSp;clear HCan HDec HExT HExD hT hZ hP HP1 HByte;cases hl:labsH false (s.take i) with
      |none=>
       rw [hl] at HCn HSp;go_wp2_with (go_at_call 33;(with_reducible refine(HCn.out _).mono ?_);rintro e w1 ⟨rfl,hb⟩;have HB1:=hid hb;clear hb);go_ret3;exact⟨by rw [HSp.out];rfl,HB1.out⟩
      |some L=>
       rw [hl] at HCn HSp;dsimp only at HSp HCn;rw [if_neg hni] at HSp;have HNe:=hid (fun h=>num_ne (s:=P) (m:=65535) (by omega) h);obtain⟨E,hE⟩:∃ E,numE 10 65535 P=E:=⟨_,rfl⟩;obtain⟨V,hV⟩:∃ V,numN 10 65535 P=V:=⟨_,rfl⟩;rw [hE] at HDc HSp HNe;rw [hV] at HDc HSp;by_cases hE0:E=0
       · subst hE0;have hPs:=HNe.out rfl;have hPd:=HPb.out hPs;obtain⟨d,hd⟩:∃ d,P[0]'hPs=d:=⟨_,rfl⟩;rw [hd] at hPd;by_cases hV1:V<1
         · rw [if_pos (.inr (.inl hV1))] at HSp;clear hPd hE hV;go_wp2_with (first|(go_at_call 33;(with_reducible refine(HCn.out _).mono ?_);rintro e w1 ⟨rfl,hb⟩;have HB1:=hid hb;clear hb)|(go_at_call 86;(with_reducible refine(HDc.out _).mono ?_);rintro e w2 ⟨rfl,hw2⟩;subst hw2));go_ret3;exact⟨by rw [HSp.out];rfl,HB1.out⟩
         · by_cases h48:d=48
           · subst h48;rw [if_pos (.inr (.inr hPd.symm))] at HSp;clear hPd hE hV;go_wp2_with (first|(go_at_call 33;(with_reducible refine(HCn.out _).mono ?_);rintro e w1 ⟨rfl,hb⟩;have HB1:=hid hb;clear hb)|(go_at_call 86;(with_reducible refine(HDc.out _).mono ?_);rintro e w2 ⟨rfl,hw2⟩;subst hw2));go_ret3;exact⟨by rw [HSp.out];rfl,HB1.out⟩
           · rw [if_neg (fun h=>h.elim (fun h=>h rfl) (fun h=>h.elim hV1 (fun h=>h48 (by rw [←hPd] at h;injection h))))] at HSp;have h48n:¬d.toNat=48:=fun h=>h48 (UInt8.toNat_inj.1 (by show d.toNat=48;omega))
             have h48b:(d== 48)=false:=by simpa using h48
             have h48i:((d.toNat:Int)== 48)=false:=by simp;omega
             have h48':¬(d.toNat:Int)=48:=fun h=>h48 (UInt8.toNat_inj.1 (by show d.toNat=48;omega))
             clear hPd hE hV;go_wp2_with (first|(go_at_call 33;(with_reducible refine(HCn.out _).mono ?_);rintro e w1 ⟨rfl,hb⟩;have HB1:=hid hb;clear hb)|(go_at_call 86;(with_reducible refine(HDc.out _).mono ?_);rintro e w2 ⟨rfl,hw2⟩;subst hw2));go_ret3;exact⟨by rw [HSp.out];rfl,HB1.out⟩
       · rw [if_pos (.inl hE0)] at HSp;clear hE hV;go_wp2_with (first|(go_at_call 33;(with_reducible refine(HCn.out _).mono ?_);rintro e w1 ⟨rfl,hb⟩;have HB1:=hid hb;clear hb)|(go_at_call 86;(with_reducible refine(HDc.out _).mono ?_);rintro e w2 ⟨rfl,hw2⟩;subst hw2));go_ret3;exact⟨by rw [HSp.out];rfl,HB1.out⟩
    · have h58':¬(c.toNat:Int)=58:=fun h=>h58 (UInt8.toNat_inj.1 (by show c.toNat=58;omega))
      have HA2:=hid (show ∀ y∈s.take (i+1),y≠58 from fun y hy=>by
       rw [List.take_add_one,HC.out] at hy;rcases List.mem_append.1 hy with hy|hy
       · exact HA.out y hy
       · simp at hy;subst hy;exact h58)
      go_wp2;go_roundg (n-(i+1)+1)
      case measure=>omega
      case rel=>exact⟨i+1,by omega,rfl,rfl,by push_cast;go_num,HA2.out,rfl⟩
  · obtain rfl:n=i:=by omega
    have hT9:s.take n=s:=List.take_of_length_le (by rw [HN.out];exact Nat.le_refl _);have hA9:=HA.out;rw [hT9] at hA9;have HK:=hid (show colonH s=n from by rw [colon_end s hA9,HN.out]);have HSp:=hid ((congrArg (splitAt s) HK.out).trans (splitAt_eq s n));rw [if_pos HN.out.symm] at HSp;have hex:=HExT.out n;have HCn:=hid (HCan.out n);obtain⟨T,hT⟩:∃ T,str (s.take n)=T:=⟨_,rfl⟩;obtain⟨Z,hZ⟩:∃ Z,str (lowH (s.take n))=Z:=⟨_,rfl⟩;rw [hT] at hex HCn;rw [hZ] at HCn HSp;clear HCan HDec HExT HExD hT hZ HByte hT9 hA9;cases hl:labsH false (s.take n) with
    |none=>
     rw [hl] at HCn HSp;go_wp2_with (go_at_call 33;(with_reducible refine(HCn.out _).mono ?_);rintro e w1 ⟨rfl,hb⟩;have HB1:=hid hb;clear hb);go_ret3;exact⟨by rw [HSp.out];rfl,HB1.out⟩
    |some L=>
     rw [hl] at HCn HSp;go_wp2_with (go_at_call 33;(with_reducible refine(HCn.out _).mono ?_);rintro e w1 ⟨rfl,hb⟩;have HB1:=hid hb;clear hb);go_ret3;exact⟨by rw [HSp.out];rfl,HB1.out⟩
theorem numL_ge (most:Int):∀ (r:List UInt8) (n m:Int),0≤n→numL 10 most r n=some m→n≤m
 | [],n,m,_,h=>by
  have:=Option.some.inj h;omega
 |b::r,n,m,h0,h=>by
  unfold numL at h;split at h
  · cases h
  · have hv:=hexV_bd (b.toNat:Int);have:=numL_ge most r _ m (by omega) h;omega
theorem num_pos {d:B} (h0:d[0]? ≠some 48) (he:numE 10 65535 (str d)=0):¬numN 10 65535 (str d)<1:=by
 have hp:=num_ne (by decide) he;unfold numE at he;unfold numN;rw [if_neg (by decide)] at he ⊢;by_cases hd:digAll 10 (str d)=false
 · rw [if_pos hd] at he;cases he
 · rw [if_neg hd] at he ⊢;cases d with
   |nil=>exact absurd hp (by decide)
   |cons c r=>
    cases hl:numL 10 65535 (str (c::r)).data.toList 0 with
    |none=>rw [hl] at he;cases he
    |some m=>
     have hl2:numL 10 65535 (c::r) 0=some m:=by simpa using hl
     unfold numL at hl2;split at hl2
     · cases hl2
     · have hv:=hexV_bd (c.toNat:Int);have hg:=numL_ge 65535 r _ m (by omega) hl2;have hc:okDg 10 (c.toNat:Int)=true:=by
        have h1:digAll 10 (str (c::r))=true:=by simpa using hd
        unfold digAll digTo at h1;rw [Bool.and_eq_true] at h1;exact List.all_eq_true.1 h1.2 c (by rw [str_size,List.length_cons];simp)
       have hc48:¬c.toNat=48:=fun e=>h0 (by simp;apply UInt8.toNat_inj.1;exact e)
       unfold okDg hexB at hc;rw [Bool.and_eq_true,decide_eq_true_eq,decide_eq_true_eq] at hc;have h2:1≤hexV (c.toNat:Int):=by
        have h3:=hc.2;unfold hexV at h3 ⊢;split at h3 <;> rename_i h4
        · rw [if_pos h4];omega
        · split at h3 <;> rename_i h5
          · omega
          · split at h3
            · omega
            · rename_i h6
              rcases hc.1 with h7|h7|h7
              · exact absurd h7 h4
              · exact absurd h7 h5
              · exact absurd h7 h6
       show ¬m<1;omega
def portN (d:B):Int×Nat:=if numE 10 65535 (str d)≠0∨numN 10 65535 (str d)<1∨d[0]?=some 48 then (0,3) else (numN 10 65535 (str d),0)
theorem pre_zero (d:B):Lib.hasPrefix d [48]=decide (d[0]?=some 48):=by
 cases d with
 |nil=>rfl
 |cons c r=>
  unfold Lib.hasPrefix;simp [List.isPrefixOf];rw [Bool.eq_iff_iff];simp;exact⟨fun h=>h.symm,fun h=>h.symm⟩
theorem portOf_any (d:B) (hd:d.length≤9223372036854775807) (w:World):Calls Tryz.prog 81 #[.string (str d)] w fun e w'=>e= .returned (.tuple #[.int .i64 (portN d).1,errOf (portN d).2])∧w'=w:=by
 have HP:=hid (fun W:World=>Tryz.strings_HasPrefix (str d) ⟨#[48]⟩ W);rw [show (str d).data.toList=d by simp,show (⟨#[48]⟩:ByteArray).data.toList= [48] from rfl,pre_zero] at HP;have HD:=hid (fun W:World=>decimal_any (str d) 65535 W (by rw [str_size];unfold maxLen;omega) (by omega) (by omega));have hE:=num_pos (d:=d);unfold portN;obtain⟨E,hEE⟩:∃ E,numE 10 65535 (str d)=E:=⟨_,rfl⟩;obtain⟨V,hV⟩:∃ V,numN 10 65535 (str d)=V:=⟨_,rfl⟩;obtain⟨S,hS⟩:∃ S,str d=S:=⟨_,rfl⟩;rw [hEE,hV] at HD hE;rw [hEE,hV];rw [hS] at HP HD ⊢;clear hEE hV hS;by_cases h48:d[0]?=some 48
 · rw [decide_eq_true h48] at HP;rw [if_pos (.inr (.inr h48))];dsimp only;rw [show errOf 3=err3 from rfl];clear h48 hE;go_enter Tryz.func81,Tryz.ntmps81;go_wp2_with (go_at_call 87;(with_reducible refine(HP.out _).mono ?_);rintro e w1 ⟨rfl,rfl⟩);go_ret2;exact⟨rfl,rfl⟩
 · rw [decide_eq_false h48] at HP;by_cases h0:E=0
   · have h1:=hE h48 h0;rw [if_neg (fun h=>h.elim (fun h=>h h0) (fun h=>h.elim h1 h48))];rw [h0,show errV 0= .nilIface from rfl] at HD;dsimp only;rw [errOf_zero];clear h48 hE h0 h1;go_enter Tryz.func81,Tryz.ntmps81;go_wp2_with (first|(go_at_call 87;(with_reducible refine(HP.out _).mono ?_);rintro e w1 ⟨rfl,rfl⟩)|(go_at_call 123;(with_reducible refine(HD.out _).mono ?_);rintro e w1 ⟨rfl,rfl⟩));go_ret2;exact⟨rfl,rfl⟩
   · rw [if_pos (.inl h0)];rw [show errV E= .iface 74 (.int .i64 E) from if_neg h0] at HD;dsimp only;rw [show errOf 3=err3 from rfl];clear h48 hE h0;go_enter Tryz.func81,Tryz.ntmps81;go_wp2_with (first|(go_at_call 87;(with_reducible refine(HP.out _).mono ?_);rintro e w1 ⟨rfl,rfl⟩)|(go_at_call 123;(with_reducible refine(HD.out _).mono ?_);rintro e w1 ⟨rfl,rfl⟩));go_ret2;exact⟨rfl,rfl⟩
def splitN (s:B):B×Int×Nat:=match labsH false (s.take (colonH s)) with
 |none=>([],0,3)
 |some _=>if colonH s=s.length then (lowH (s.take (colonH s)),0,0) else if (portN (s.drop (colonH s+1))).2=0 then (lowH (s.take (colonH s)),(portN (s.drop (colonH s+1))).1,0) else ([],0,3)
theorem splitAt_N (s:B):splitAt s (colonH s)= .tuple #[.string (str (splitN s).1),.int .i64 (splitN s).2.1,.int .i64 ((splitN s).2.2:Int)]:=by
 unfold splitAt splitN;cases labsH false (s.take (colonH s)) with
 |none=>rfl
 |some x=>
  dsimp only;by_cases h:colonH s=s.length
  · rw [if_pos h,if_pos h];rfl
  · rw [if_neg h,if_neg h];unfold portN;have e:(s.drop (colonH s+1))[0]?=s[colonH s+1]?:=by rw [List.getElem?_drop];first|done|rfl
    rw [e];split
    · rw [if_neg (by decide)];rfl
    · rw [if_pos rfl];rfl
theorem cut_colon (s:B):(cutF 58 s).1=s.take (colonH s)∧((cutF 58 s).2.2=false↔colonH s=s.length)∧((cutF 58 s).2.2=true→(cutF 58 s).2.1=s.drop (colonH s+1)):=by
 obtain⟨h1,h2,h3⟩:=cutF_spec 58 s;obtain⟨c1,hc1⟩:∃ c,(cutF 58 s).1=c:=⟨_,rfl⟩;obtain⟨c2,hc2⟩:∃ c,(cutF 58 s).2.1=c:=⟨_,rfl⟩;rw [hc1] at h1 h2 ⊢;rw [hc2] at h2 h3 ⊢;cases hf:(cutF 58 s).2.2 with
 |false=>
  rw [hf,if_neg (by decide),List.append_nil] at h2;have hk:colonH s=s.length:=colon_end s (by rw [h2];exact h1);exact⟨by rw [hk,List.take_length];exact h2.symm,⟨fun _=>hk,fun _=>rfl⟩,fun h=>by cases h⟩
 |true=>
  rw [hf,if_pos rfl] at h2;have hk:colonH s=c1.length:=colon_at s c1.length (by rw [h2];intro y hy;rw [List.take_left'  rfl] at hy;exact h1 y hy) (by rw [h2];simp);refine⟨?_,⟨fun h=>Bool.noConfusion h,fun h=>?_⟩,fun _=>?_⟩
  · rw [hk];conv=>rhs;rw [h2]
    rw [List.take_left' rfl]
  · have:=congrArg List.length h2;rw [List.length_append,List.length_cons] at this;omega
  · rw [hk];conv=>rhs;rw [h2]
    rw [show c1++58::c2=(c1++ [58])++c2 by simp,List.drop_left' (by simp)]
theorem psplit_any (s:B) (hs:s.length≤9223372036854775807) (w:World) (hmx:MxAt w):Calls Tryz.prog 45 #[.string (str s)] w fun e w'=>e= .returned (.tuple #[.string (str (splitN s).1),.int .i64 (splitN s).2.1,errOf (splitN s).2.2])∧Below w.heap.size w w':=by
 obtain⟨hc1,hc2,hc3⟩:=cut_colon s;have HC:=hid (pcutH s (by omega) w hmx);have HCa:=hid (fun (W:World) (h:MxAt W)=>pcanon_any (s.take (colonH s)) (by rw [List.length_take];omega) W h);have HPo:=hid (fun W:World=>portOf_any (s.drop (colonH s+1)) (by rw [List.length_drop];omega) W);have HM:=hid (show ∀ q,MxAt (w.drewN q) from fun q=>hmx.next (below_drewH w q));rw [hc1] at HC;unfold splitN;obtain⟨S,hS⟩:∃ S,str s=S:=⟨_,rfl⟩;obtain⟨C1,hC1⟩:∃ S,str (s.take (colonH s))=S:=⟨_,rfl⟩;rw [hS,hC1] at HC;rw [hC1] at HCa;rw [hS];cases hf:(cutF 58 s).2.2 with
 |false=>
  have hk:=hc2.1 hf;rw [hf] at HC;obtain⟨C2,hC2⟩:∃ S,str (cutF 58 s).2.1=S:=⟨_,rfl⟩;rw [hC2] at HC;rw [if_pos hk];obtain⟨SL,hSL⟩:∃ S,str (lowH (s.take (colonH s)))=S:=⟨_,rfl⟩;rw [hSL] at HCa;cases hl:labsH false (s.take (colonH s)) with
  |none=>
   rw [hl] at HCa;dsimp only at HCa ⊢;rw [show errOf 3=err3 from rfl];clear hc1 hc2 hc3 HPo hS hC1 hC2 hf hk hl hSL hmx hs;go_enter Tryz.func45,Tryz.ntmps45;go_wp2_with (first|(go_at_call 80;(with_reducible refine HC.out.mono ?_);rintro e w1 ⟨rfl,q,rfl⟩)|(go_at_call 66;(with_reducible refine(HCa.out _ (HM.out _)).mono ?_);rintro e w2 ⟨rfl,hb⟩;have HB:=hid (below_out (below_drewH w _) hb);clear hb));go_ret3;exact⟨rfl,HB.out⟩
  |some x=>
   rw [hl] at HCa;dsimp only at HCa ⊢;rw [errOf_zero,hSL];clear hc1 hc2 hc3 HPo hS hC1 hC2 hf hk hl hSL hmx hs;go_enter Tryz.func45,Tryz.ntmps45;go_wp2_with (first|(go_at_call 80;(with_reducible refine HC.out.mono ?_);rintro e w1 ⟨rfl,q,rfl⟩)|(go_at_call 66;(with_reducible refine(HCa.out _ (HM.out _)).mono ?_);rintro e w2 ⟨rfl,hb⟩;have HB:=hid (below_out (below_drewH w _) hb);clear hb));go_ret3;exact⟨rfl,HB.out⟩
 |true=>
  have hk:¬colonH s=s.length:=fun h=>by rw [hc2.2 h] at hf;cases hf
  rw [hf,hc3 hf] at HC;obtain⟨C2,hC2⟩:∃ S,str (s.drop (colonH s+1))=S:=⟨_,rfl⟩;rw [hC2] at HC HPo;rw [if_neg hk];obtain⟨SL,hSL⟩:∃ S,str (lowH (s.take (colonH s)))=S:=⟨_,rfl⟩;rw [hSL] at HCa;cases hl:labsH false (s.take (colonH s)) with
  |none=>
   rw [hl] at HCa;dsimp only at HCa ⊢;rw [show errOf 3=err3 from rfl];clear hc1 hc2 hc3 HPo hS hC1 hC2 hf hk hl hSL hmx hs;go_enter Tryz.func45,Tryz.ntmps45;go_wp2_with (first|(go_at_call 80;(with_reducible refine HC.out.mono ?_);rintro e w1 ⟨rfl,q,rfl⟩)|(go_at_call 66;(with_reducible refine(HCa.out _ (HM.out _)).mono ?_);rintro e w2 ⟨rfl,hb⟩;have HB:=hid (below_out (below_drewH w _) hb);clear hb));go_ret3;exact⟨rfl,HB.out⟩
  |some x=>
   rw [hl] at HCa;dsimp only at HCa ⊢;obtain⟨V,E,hVE⟩:∃ V E,portN (s.drop (colonH s+1))=(V,E):=⟨_,_,rfl⟩;rw [hVE] at HPo ⊢;dsimp only at HPo ⊢;by_cases h0:E=0
   · rw [if_pos h0];rw [h0,errOf_zero] at HPo;dsimp only;rw [errOf_zero,hSL];clear hc1 hc2 hc3 hS hC1 hC2 hf hk hl hSL hmx hs hVE h0;go_enter Tryz.func45,Tryz.ntmps45;go_wp2_with (first|(go_at_call 80;(with_reducible refine HC.out.mono ?_);rintro e w1 ⟨rfl,q,rfl⟩)|(go_at_call 66;(with_reducible refine(HCa.out _ (HM.out _)).mono ?_);rintro e w2 ⟨rfl,hb⟩;have HB:=hid (below_out (below_drewH w _) hb);clear hb)|(go_at_call 81;(with_reducible refine(HPo.out _).mono ?_);rintro e w3 ⟨rfl,rfl⟩));go_ret3;exact⟨rfl,HB.out⟩
   · rw [if_neg h0];rw [errOf_pos h0] at HPo;dsimp only;rw [show errOf 3=err3 from rfl];have h3:E=3:=by
      unfold portN at hVE;split at hVE
      · injection hVE with _ h;exact h.symm
      · injection hVE with _ h;exact absurd h.symm h0
     subst h3;clear hc1 hc2 hc3 hS hC1 hC2 hf hk hl hSL hmx hs hVE h0;go_enter Tryz.func45,Tryz.ntmps45;go_wp2_with (first|(go_at_call 80;(with_reducible refine HC.out.mono ?_);rintro e w1 ⟨rfl,q,rfl⟩)|(go_at_call 66;(with_reducible refine(HCa.out _ (HM.out _)).mono ?_);rintro e w2 ⟨rfl,hb⟩;have HB:=hid (below_out (below_drewH w _) hb);clear hb)|(go_at_call 81;(with_reducible refine(HPo.out _).mono ?_);rintro e w3 ⟨rfl,rfl⟩));go_ret3;exact⟨rfl,HB.out⟩
open Go.RowKit Go.Maps
def stepF (y:List B) (o:Option (B×Int)) (p:B×Int):Option (B×Int):=if fitsS (patL p.1) y && (match o with|none=>true|some b=>aheadP (patL p.1) (patL b.1)) then some p else o
def bestF (y:List B) (P:List (B×Int)):Option (B×Int):=P.foldl (stepF y) none
theorem best_snoc (y:List B) (P:List (B×Int)) (p:B×Int):bestF y (P++ [p])=stepF y (bestF y P) p:=by unfold bestF;rw [List.foldl_append];rfl
def bestP (y:List B) (P:List (B×Int)) (o:Option (B×Int)):Prop:=match o with
 |none=>∀ p∈P,fitsS (patL p.1) y=false
 |some p=>p∈P∧fitsS (patL p.1) y=true∧∀ q∈P,fitsS (patL q.1) y=true→patL q.1=patL p.1∨aheadP (patL p.1) (patL q.1)=true
theorem best_spec (y:List B):∀ (n:Nat) (P:List (B×Int)),P.length=n→bestP y P (bestF y P)
 |0,P,h=>by
  obtain rfl:P= []:=List.eq_nil_of_length_eq_zero h;exact fun p hp=>by simp at hp
 |n+1,P,h=>by
  obtain⟨R,p,rfl⟩:∃ R p,P=R++ [p]:=⟨P.dropLast,P.getLast (by intro e;rw [e] at h;cases h),(List.dropLast_concat_getLast _).symm⟩;have ih:=best_spec y n R (by simpa using h);rw [best_snoc];unfold stepF;cases hb:bestF y R with
  |none=>
   rw [hb] at ih;have ih:∀ p∈R,fitsS (patL p.1) y=false:=ih;dsimp only;rw [Bool.and_true];cases hf:fitsS (patL p.1) y with
   |false=>
    rw [if_neg (by decide)];intro q hq;rcases List.mem_append.1 hq with h1|h1
    · exact ih q h1
    · simp at h1;rw [h1];exact hf
   |true=>
    rw [if_pos rfl];refine⟨by simp,hf,fun q hq hfq=>?_⟩;rcases List.mem_append.1 hq with h1|h1
    · rw [ih q h1] at hfq;cases hfq
    · simp at h1;rw [h1];exact .inl rfl
  |some b=>
   rw [hb] at ih;obtain⟨h1,h2,h3⟩:b∈R∧fitsS (patL b.1) y=true∧∀ q∈R,fitsS (patL q.1) y=true→patL q.1=patL b.1∨aheadP (patL b.1) (patL q.1)=true:=ih;dsimp only;cases hf:fitsS (patL p.1) y with
   |false=>
    rw [Bool.false_and,if_neg (by decide)];refine⟨List.mem_append.2 (.inl h1),h2,fun q hq hfq=>?_⟩;rcases List.mem_append.1 hq with h4|h4
    · exact h3 q h4 hfq
    · simp at h4;rw [h4,hf] at hfq;cases hfq
   |true=>
    rw [Bool.true_and];cases ha:aheadP (patL p.1) (patL b.1) with
    |true=>
     rw [if_pos rfl];refine⟨by simp,hf,fun q hq hfq=>?_⟩;rcases List.mem_append.1 hq with h4|h4
     · rcases h3 q h4 hfq with e|e
       · exact .inr (e ▸ ha)
       · exact .inr (aheadP_trans ha e)
     · simp at h4;rw [h4];exact .inl rfl
    |false=>
     rw [if_neg (by decide)];refine⟨List.mem_append.2 (.inl h1),h2,fun q hq hfq=>?_⟩;rcases List.mem_append.1 hq with h4|h4
     · exact h3 q h4 hfq
     · simp at h4;rw [h4];rcases aheadP_total (patL p.1) (patL b.1) y hf h2 with e|e|e
       · exact .inl e
       · rw [ha] at e;cases e
       · exact .inr e
theorem Tab.best {w:World}{t:Nat}{P:List (B×Int)}{m:Option Nat}{v1 v2:Value}{L:List B} (h:Tab w t P m v1 v2 L) {y:List B} (hy:noDot y):findO (idsF P) y L=(bestF y P).map (·.2):=by
 have h1:=h.found hy;have h2:=best_spec y P.length P rfl;cases hf:findO (idsF P) y L with
 |none=>
  rw [hf] at h1;have h1:∀ p∈P,fitsS (patL p.1) y=false:=h1;cases hb:bestF y P with
  |none=>rfl
  |some p=>
   rw [hb] at h2;have h2:p∈P∧fitsS (patL p.1) y=true∧_:=h2;rw [h1 p h2.1] at h2;exact absurd h2.2.1 (by decide)
 |some i=>
  rw [hf] at h1;obtain⟨p,hp,hi,hfp,hbest⟩:∃ p∈P,p.2=i∧fitsS (patL p.1) y=true∧∀ q∈P,fitsS (patL q.1) y=true→q=p∨aheadP (patL p.1) (patL q.1)=true:=h1;cases hb:bestF y P with
  |none=>
   rw [hb] at h2;have h2:∀ p∈P,fitsS (patL p.1) y=false:=h2;rw [h2 p hp] at hfp;cases hfp
  |some b=>
   rw [hb] at h2;obtain⟨h3,h4,h5⟩:b∈P∧fitsS (patL b.1) y=true∧∀ q∈P,fitsS (patL q.1) y=true→patL q.1=patL b.1∨aheadP (patL b.1) (patL q.1)=true:=h2;have:b=p:=by
    rcases hbest b h3 h4 with e|e
    · exact e
    · rcases h5 p hp hfp with e2|e2
      · exact(h.apart hp h3 e2).symm
      · rw [aheadP_asymm e] at e2;cases e2
   rw [this,Option.map_some,hi]
def findN (P:List (B×Int)) (host:B):Int×Nat:=match labsH false host with
 |none=>(0,3)
 |some y=>match bestF y P with
  |none=>(0,8)
  |some p=>(p.2,0)
theorem Tab.findN {w:World}{t:Nat}{P:List (B×Int)}{m:Option Nat}{v1 v2:Value}{L:List B} (h:Tab w t P m v1 v2 L) (host:B):findT P L host= .tuple #[.int .i64 (findN P host).1,errOf (findN P host).2]:=by
 unfold findT Go.Proofs.YtlmlljlappjjjaaGreatDoor.findN;cases hl:labsH false host with
 |none=>rfl
 |some y=>
  dsimp only;rw [h.best (labs_nodot hl)];cases bestF y P <;> rfl
theorem find_num {w:World}{t:Nat}{P:List (B×Int)}{m:Option Nat}{v1 v2:Value}{L:List B} (h:Tab w t P m v1 v2 L) (hmx:MxAt w) (host:B) (hh:host.length≤9223372036854775807):
  Calls Tryz.prog 67 #[.pointer (some ⟨t,0,none⟩),.string (str host)] w fun e w'=>e= .returned (.tuple #[.int .i64 (findN P host).1,errOf (findN P host).2])∧Below w.heap.size w w':=by
 have:=find_any h hmx host hh;rw [h.findN host] at this;exact this
theorem assert_errno (k:Int) (w:World):(Instr.typeAssert (.iface 74 (.int .i64 k)) 28 74 true).run Tryz.prog w= .ok (.tuple #[.int .i64 k,.bool true]) w:=by kernel_rfl
theorem num_any (k:Nat) (hk:k≤1000) (w:World):Calls Tryz.prog 11 #[errOf k] w fun e w'=>e= .returned (.int .i64 (k:Int))∧w'=w:=by
 by_cases h:k=0
 · subst h;rw [errOf_zero];go_enter Tryz.func11,Tryz.ntmps11;go_wp2;go_ret;exact⟨rfl,rfl⟩
 · rw [errOf_pos h];have hta:=assert_errno;go_enter Tryz.func11,Tryz.ntmps11;go_wp2;go_ret;exact⟨rfl,rfl⟩
def canonN (s:B):B×Nat:=match labsH false s with
 |none=>([],3)
 |some _=>(lowH s,0)
def checkN (s:B):Nat:=if (patH s).isSome then 0 else 3
theorem pcanonN (s:B) (hs:s.length≤9223372036854775807) (w:World) (hmx:MxAt w):Calls Tryz.prog 66 #[.string (str s)] w fun e w'=>e= .returned (.tuple #[.string (str (canonN s).1),errOf (canonN s).2])∧Below w.heap.size w w':=by
 have h:=pcanon_any s hs w hmx;unfold canonN;cases hl:labsH false s with
 |none=>rw [hl] at h;exact h
 |some x=>rw [hl] at h;exact h
theorem pcheckN (s:B) (hs:s.length≤9223372036854775807) (w:World) (hmx:MxAt w):Calls Tryz.prog 56 #[.string (str s)] w fun e w'=>e= .returned (errOf (checkN s))∧Below w.heap.size w w':=by
 have h:=pcheck_any s hs w hmx;unfold checkN;cases hl:patH s with
 |none=>rw [hl] at h;exact h
 |some x=>rw [hl] at h;exact h
theorem rcheckN (s:B) (hs:s.length≤9223372036854775807) (w:World):Calls Tryz.prog 27 #[.string (str s)] w fun e w'=>e= .returned (.int .i64 (checkN s:Int))∧Below w.heap.size w w':=by
 have h:=rcheck_any s hs w;unfold checkN;cases hl:patH s with
 |none=>rw [hl] at h;exact h
 |some x=>rw [hl] at h;exact h
theorem rsplitN (s:B) (hs:s.length≤9223372036854775807) (w:World):Calls Tryz.prog 47 #[.string (str s)] w fun e w'=>e= .returned (.tuple #[.string (str (splitN s).1),.int .i64 (splitN s).2.1,.int .i64 ((splitN s).2.2:Int)])∧Below w.heap.size w w':=by
 have h:=rsplit_any s hs w;rw [splitAt_N] at h;exact h
def fitsN (p h:B):Bool×Nat:=match fitsAns p h with
 |none=>(false,3)
 |some v=>(v,0)
structure HS where
 resp:Bool
 most:Int
 lines:List B
 line:B
 len:Nat
 done:Bool
 err:Nat
theorem new_second (w:World) (o1 o2:Obj):((w.alloc o1).alloc o2).heap[w.heap.size+1]?=some o2:=by
 have:=heap_alloc_new (w.alloc o1) o2
 rwa [show (w.alloc o1).heap.size=w.heap.size+1 by simp] at this
theorem two_at {w W0:World}{o1 o2:Obj} (h:W0=(w.alloc o1).alloc o2):W0.heap[w.heap.size]?=some o1∧W0.heap[w.heap.size+1]?=some o2∧Below w.heap.size w W0:=by
 subst h;refine⟨?_,new_second w o1 o2,?_⟩
 · rw [Below.heap_alloc _ _ _ (by simp)];exact heap_alloc_new w o1
 · exact(below_new w o1).trans ((below_new _ o2).mono (by simp))
theorem clone_any (s:ByteArray) (w:World) (hs:s.size≤281474976710656):
  Calls Tryz.prog 58 #[.string s] w fun e w'=>e= .returned (.string s)∧Below w.heap.size w w':=by
 go_enter Tryz.func58,Tryz.ntmps58;go_wp2_with (go_at_call 98;refine(Tryz.stringslite_Clone _ _ hs).mono ?_;rintro e w' ⟨rfl,hb⟩);go_ret;exact⟨rfl,by assumption⟩
theorem late_skip {P:Program}{ops:Array Oper}{Q:Exit→Act→World→Prop}{md:Region.Mode}{S:World→Prop}{D:Nat→Bool}{i:Nat}{oi:Oper}{fuel:Nat}{listed:Array Bool}{a:Act}{w:World} (d:Option Tmp) (hi:ops[i]?=some oi) (hd:oi.dst=d)
  (hs:Region.noSelect ops=true) (hf:Region.free md ops listed i=true) (hr:(Region.ready md ops listed).contains i=true) (hD:lateB md ops D i=true) (hn:noneLateB D listed=true)
  (hQ:∀ c a w,Q (.panic c) (a.put d undef) w→Q (.panic c) a w) (hw:Region.wanted oi (yielded ops a.tmps)=false) (hS:S w)
  (h:wpAnyD P md ops Q S D fuel (listed.setIfInBounds i true) (a.put d undef) w):wpAnyD P md ops Q S D (fuel+1) listed a w:=by
 subst hd;exact wpAnyD_take hi hs hf hr hD hn hQ (Or.inr ⟨hw,rfl⟩) hS h
def FAt (w:World) (p:Option Addr) (fs:List (B×B)):Prop:=∀ j f,fs[j]?=some f→∃ g o,p=some ⟨g,o,none⟩∧w.cell? ⟨g,o+j*2,none⟩=some (.string (str f.1))∧w.cell? ⟨g,o+j*2+1,none⟩=some (.string (str f.2))
theorem FAt.next {w w':World}{p:Option Addr}{fs:List (B×B)} (h:FAt w p fs) (hb:Below w.heap.size w w'):FAt w' p fs:=by
 intro j f hj;obtain⟨g,o,e,h1,h2⟩:=h j f hj;exact⟨g,o,e,cell_keep hb h1,cell_keep hb h2⟩
theorem OwnF.fat {w:World}{b n c:Nat}{p:Option Addr}{fs:List (B×B)} (h:OwnF w b (.slice p n c) fs):FAt w p fs:=by
 intro j f hj;obtain⟨g,o,e,h1,h2⟩:=h.at hj;exact⟨g,o,e,by rw [Nat.mul_comm];exact h1,by rw [Nat.mul_comm];exact h2⟩
def RFitsAns (o:Option (Option (List (B×B)))) (w:World) (e:Ending) (w':World):Prop:=Below w.heap.size w w'∧match o with
 |none=>e= .returned (.tuple #[.bool false,.slice none 0 0,.int .i64 3])
 |some none=>e= .returned (.tuple #[.bool false,.slice none 0 0,.int .i64 0])
 |some (some F)=>∃ q d,e= .returned (.tuple #[.bool true,.slice q F.length d,.int .i64 0])∧OwnF w' w.heap.size (.slice q F.length d) F
theorem rfitsO_any (pa path:B) (ha:pa.length≤4398046511104) (hp:path.length≤4294967280) (w:World):Calls Tryz.prog 22 #[.string (str pa),.string (str path)] w fun e w'=>RFitsAns (fitsO pa path) w e w':=by
 have HCk:=hid (fun W:World=>rcheck_any_r pa ha W);obtain⟨ck,hck⟩:∃ ck,checkP pa=ck:=⟨_,rfl⟩;have HCk2:=hid (show ∀ W:World,Calls Tryz.prog 28 #[.string (str pa)] W fun e w'=>e= .returned (.int .i64 (if ck then 0 else 3))∧Below W.heap.size W w' from fun W=>by have h:=HCk.out W;unfold RChkAns at h;rw [hck] at h;exact h);clear HCk;cases hb:begB 47 path with
 |false=>
  have e1:fitsO pa path=none:=by unfold fitsO;rw [hb,Bool.and_false];rfl
  have HSp:=hid (fun W:World=>rsplit_none (p:=path) (by omega) hb W);rw [e1];obtain⟨S,hS⟩:∃ S,str pa=S:=⟨_,rfl⟩;obtain⟨Y,hY⟩:∃ S,str path=S:=⟨_,rfl⟩;rw [hS] at HCk2 ⊢;rw [hY] at HSp ⊢;clear hS hY ha hp hb e1 hck;cases ck with
  |false=>
   rw [if_neg (by decide)] at HCk2;go_enter Tryz.func22,Tryz.ntmps22;go_wp2_with (first|(go_at_call 53;(with_reducible refine(HSp.out _).mono ?_);rintro e w1 ⟨rfl,hw1⟩;subst w1)|(go_at_call 28;(with_reducible refine(HCk2.out _).mono ?_);rintro e w2 ⟨rfl,hb2⟩;have HB2:=hid hb2;clear hb2));go_ret3;exact⟨HB2.out,rfl⟩
  |true=>
   rw [if_pos rfl] at HCk2;go_enter Tryz.func22,Tryz.ntmps22;go_wp2_with (first|(go_at_call 53;(with_reducible refine(HSp.out _).mono ?_);rintro e w1 ⟨rfl,hw1⟩;subst w1)|(go_at_call 28;(with_reducible refine(HCk2.out _).mono ?_);rintro e w2 ⟨rfl,hb2⟩;have HB2:=hid hb2;clear hb2));go_ret3;exact⟨HB2.out,rfl⟩
 |true=>
  obtain⟨t,rfl⟩:=beg_cons hb;have htl:t.length≤4294967280:=by simp at hp;omega
  have HSp:=hid (fun W:World=>rsplit_yes t (by omega) W);have hcl:=cutT_len t;obtain⟨X,hX⟩:∃ X,cutT t=X:=⟨_,rfl⟩;obtain⟨n,hn⟩:∃ n,X.length=n:=⟨_,rfl⟩;have HN:=hid hn;rw [hX,hn] at HSp hcl;cases ck with
  |false=>
   have e1:fitsO pa (47::t)=none:=by unfold fitsO;rw [hck];rfl
   rw [e1];rw [if_neg (by decide)] at HCk2;obtain⟨S,hS⟩:∃ S,str pa=S:=⟨_,rfl⟩;obtain⟨Y,hY⟩:∃ S,str (47::t)=S:=⟨_,rfl⟩;rw [hS] at HCk2 ⊢;rw [hY] at HSp ⊢;clear hS hY ha hp hb e1 hck hX hn;go_enter Tryz.func22,Tryz.ntmps22;go_wp2_with (first|(go_at_call 53;(with_reducible refine(HSp.out _).mono ?_);rintro e w1 ⟨p1,c1,rfl,ho,hb1⟩;have HB1:=hid hb1;clear hb1 ho)|(go_at_call 28;(with_reducible refine(HCk2.out _).mono ?_);rintro e w2 ⟨rfl,hb2⟩;have HB2:=hid (below_out HB1.out hb2);clear hb2));go_ret3;exact⟨HB2.out,rfl⟩
  |true=>
   rw [if_pos rfl] at HCk2;obtain⟨tp,etp,h64,h256,hrl⟩:=check_parts hck;have e1:fitsO pa (47::t)=some (fitsT (cutT tp) X):=by unfold fitsO;rw [hck,hb,etp];show some (fitsT (cutT tp) (cutT t))=_;rw [hX]
   rw [e1];have HFt:=hid (fun (py:Option Addr) (c:Nat) (hc:n≤c) (W:World) (h:TxAt W py X)=>rfits_any_r tp (by rw [etp] at h256;simp at h256;omega) X py n c HN.out (by omega) hc (by rw [←hX,joinT_cut];omega) W h);rw [←etp] at HFt;obtain⟨S,hS⟩:∃ S,str pa=S:=⟨_,rfl⟩;obtain⟨Y,hY⟩:∃ S,str (47::t)=S:=⟨_,rfl⟩;rw [hS] at HCk2 HFt ⊢;rw [hY] at HSp ⊢;obtain⟨R,hR⟩:∃ R,fitsT (cutT tp) X=R:=⟨_,rfl⟩;rw [hR] at HFt ⊢;clear hS hY ha hp hb e1 hck hX hn hR etp h64 h256 hrl;cases R with
   |none=>
    go_enter Tryz.func22,Tryz.ntmps22;go_wp2_with (first|(go_at_call 53;(with_reducible refine(HSp.out _).mono ?_);rintro e w1 ⟨p1,c1,rfl,ho,hb1⟩;have HB1:=hid hb1;have HCp:=hid ho.cap;have HTx:=hid ho.tx;clear hb1 ho)|(go_at_call 28;(with_reducible refine(HCk2.out _).mono ?_);rintro e w2 ⟨rfl,hb2⟩;have HB2:=hid (below_out HB1.out hb2);have HT2:=hid (HTx.out.next hb2);clear hb2)|(go_at_call 54;(with_reducible refine(HFt.out _ _ HCp.out _ HT2.out).mono ?_);rintro e w3 ⟨rfl,hb3⟩;have HB3:=hid (below_out HB2.out hb3);clear hb3));go_ret3;exact⟨HB3.out,rfl⟩
   |some F=>
    obtain⟨L,hL⟩:∃ L,F.length=L:=⟨_,rfl⟩;have HF2:=hid (fun (py:Option Addr) (c:Nat) (hc:n≤c) (W:World) (h:TxAt W py X)=>(HFt.out py c hc W h).mono (R':=fun e w'=>∃ q d,e= .returned (.tuple #[.bool true,.slice q L d])∧OwnF w' W.heap.size (.slice q L d) F∧Below W.heap.size W w') (by rintro e w' ⟨q,d,h3,h4⟩;rw [hL] at h3 h4;exact⟨q,d,h3,h4⟩));have HL:=hid hL;clear hL HFt;go_enter Tryz.func22,Tryz.ntmps22;go_wp2_with (first|(go_at_call 53;(with_reducible refine(HSp.out _).mono ?_);rintro e w1 ⟨p1,c1,rfl,ho,hb1⟩;have HB1:=hid hb1;have HCp:=hid ho.cap;have HTx:=hid ho.tx;clear hb1 ho)|(go_at_call 28;(with_reducible refine(HCk2.out _).mono ?_);rintro e w2 ⟨rfl,hb2⟩;have HB2:=hid (below_out HB1.out hb2);have HT2:=hid (HTx.out.next hb2);clear hb2)|(go_at_call 54;(with_reducible refine(HF2.out _ _ HCp.out _ HT2.out).mono ?_);rintro e w3 ⟨q3,d3,rfl,ho3,hb3⟩;have HO3:=hid (ho3.lowT HB2.out.size);have HB3:=hid (below_out HB2.out hb3);clear hb3 ho3));go_ret3;exact⟨HB3.out,q3,d3,by rw [HL.out];rfl,by rw [HL.out];exact HO3.out⟩
end Go.Proofs.YtlmlljlappjjjaaGreatDoor
