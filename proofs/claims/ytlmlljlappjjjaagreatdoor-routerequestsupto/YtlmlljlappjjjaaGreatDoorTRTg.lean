/- Where a host ends; which texts are hosts. -/
import Derived.Test.YtlmlljlappjjjaaGreatDoorTPAny
namespace Go.Proofs.YtlmlljlappjjjaaGreatDoor
set_option maxRecDepth 20000
set_option maxHeartbeats 8000000
open Go.RowKit
theorem ends_list:ends.data.toList= [47,63]:=rfl
theorem stop_ends (b:UInt8):([47,63]:B).contains b= !stopC b:=by
 unfold stopC;simp only [List.contains_cons,List.contains_nil,Bool.or_false];rw [Bool.eq_iff_iff];simp only [Bool.or_eq_true,beq_iff_eq,Bool.not_eq_true',Bool.and_eq_false_iff,decide_eq_false_iff_not,ne_eq,Decidable.not_not]
theorem high_stop {b:UInt8} (h:128≤b.toNat):([47,63]:B).contains b=false:=by
 rw [stop_ends];unfold stopC;have h1:b≠47:=fun e=>by rw [e] at h;exact absurd h (by decide)
 have h2:b≠63:=fun e=>by rw [e] at h;exact absurd h (by decide)
 simp [h1,h2]
theorem any_tw:∀ s:B,Lib.indexAny s [47,63]=if (s.takeWhile stopC).length<s.length then ((s.takeWhile stopC).length:Int) else -1
 | []=>rfl
 |b::l=>by
  have ih:=any_tw l;rw [Lib.indexAny,stop_ends];cases h:stopC b with
  |false=>simp [h]
  |true=>
   rw [List.takeWhile_cons,if_pos h,ih];simp only [Bool.not_true,Bool.false_eq_true,if_false,List.length_cons,Nat.add_lt_add_iff_right];by_cases q:(l.takeWhile stopC).length<l.length
   · rw [if_pos q,if_pos q,if_neg (by simp)];push_cast;rfl
   · rw [if_neg q,if_neg q];rfl
theorem tw_take (f:UInt8→Bool):∀ s:B,s.takeWhile f=s.take (s.takeWhile f).length∧s.dropWhile f=s.drop (s.takeWhile f).length
 | []=>⟨rfl,rfl⟩
 |b::l=>by
  obtain⟨h1,h2⟩:=tw_take f l;cases h:f b with
  |false=>rw [List.takeWhile_cons,if_neg (by rw [h];simp),List.dropWhile_cons,if_neg (by rw [h];simp)];exact⟨rfl,rfl⟩
  |true=>
   rw [List.takeWhile_cons,if_pos h,List.dropWhile_cons,if_pos h];exact⟨by rw [List.length_cons,List.take_succ_cons,←h1],by rw [List.length_cons,List.drop_succ_cons,←h2]⟩
theorem tw_le (f:UInt8→Bool) (s:B):(s.takeWhile f).length≤s.length:=by
 have:=congrArg List.length (tw_take f s).1;rw [List.length_take] at this;omega
theorem no_span {s:B}{i k:Nat} (h:Lib.NoAny s [47,63] i) (hk:∀ j,j<k→∀ b,s[i+j]?=some b→128≤b.toNat):Lib.NoAny s [47,63] (i+k):=by
 intro j b hj hb;by_cases hij:j<i
 · exact h j b hij hb
 · obtain⟨d,rfl⟩:∃ d,j=i+d:=⟨j-i,by omega⟩;exact high_stop (hk d (by omega) b hb)
theorem irune_any (r:Int) (hv:Utf8.valid r=true) (h128:128≤r) (w:World):Calls Tryz.prog 163 #[.string ends,.int .i32 r] w fun e w'=>e= .returned (.int .i64 (-1))∧Below w.heap.size w w':=by
 by_cases h:r=65533
 · subst h;exact irune_err w
 · exact irune_high r hv h128 h w
theorem iany_short (s:B) (hs:s.length≤8) (w:World):Calls Tryz.prog 148 #[.string (str s),.string ends] w fun e w'=>e= .returned (.int .i64 (Lib.indexAny s [47,63]))∧Below w.heap.size w w':=by
 obtain⟨n,hn⟩:∃ n,s.length=n:=⟨_,rfl⟩;have HN:=hid hn;obtain⟨S,hS⟩:∃ S,str s=S:=⟨_,rfl⟩;have hSn:S.size=n:=by rw [←hS,str_size,hn]
 have HByte:=hid (show ∀ (k:Nat) (h:k<s.length) (h2:k<S.size),S[k]'h2=s[k]'h from fun k h h2=>by subst hS;rfl);have HSh:=hid (show ∀ w,Calls Tryz.prog 164 #[.int .i64 (n:Int)] w fun e w'=>e= .returned (.bool false)∧w'=w from fun w=>by
  refine(Tryz.strings_shouldUseASCIISet (n:Int) w).mono ?_;rintro e w' ⟨rfl,rfl⟩;rw [decide_eq_false (by omega)];exact⟨rfl,rfl⟩)
 obtain⟨R,hR⟩:∃ R,Lib.indexAny s [47,63]=R:=⟨_,rfl⟩;have HRn:=hid (show Lib.NoAny s [47,63] n→R= -1 from fun h=>by rw [←hR];exact Lib.indexAny_none (by rw [hn];exact h));have HRh:=hid (show ∀ (i:Nat) (x:UInt8),Lib.NoAny s [47,63] i→s[i]?=some x→([47,63]:B).contains x=true→R=(i:Int) from fun i x h1 h2 h3=>by rw [←hR];exact Lib.indexAny_hit h1 h2 h3);have HSd:=hid (show ∀ (i:Nat) (h:i<S.size),128≤(S[i]'h).toNat→Utf8.valid ((Utf8.decode S i).1:Int)=true∧128≤(Utf8.decode S i).1∧1≤(Utf8.decode S i).2∧i+(Utf8.decode S i).2≤n∧∀ j,j<(Utf8.decode S i).2→∀ b,s[i+j]?=some b→128≤b.toNat from fun i h h1=>by
  obtain⟨a1,a2⟩:=decode_in S i h h1;obtain⟨a3,a4⟩:=decode_high S i h h1;refine⟨a1,a3,a4,?_,?_⟩
  · have:=(a2 ((Utf8.decode S i).2-1) (by omega)).1;omega
  · intro j hj b hb;obtain⟨c1,c2⟩:=a2 j hj;have h9:=get_at S (i+j) c1;rw [Nat.add_zero] at h9;rw [h9,HByte.out (i+j) (by rw [hn,←hSn];exact c1) c1] at c2;have hb2:s[i+j]'(by rw [hn,←hSn];exact c1)=b:=by rw [List.getElem?_eq_getElem (by rw [hn,←hSn];exact c1)] at hb;exact Option.some.inj hb
    rw [←hb2];exact c2)
 rw [hn] at hs;rw [hS,hR];obtain⟨Ed,hEd⟩:∃ Ed,ends=Ed:=⟨_,rfl⟩;have HEd:=hid hEd;have hemp:Ed.toList.isEmpty=false:=by rw [←hEd,Lib.toList_data];rfl
 have hed2:Ed.size=2:=by rw [←hEd];rfl
 have HRu:=hid (show ∀ (r:Int),Utf8.valid r=true→128≤r→∀ w,_ from irune_any);rw [hEd] at HRu ⊢;clear hn hS hR hEd;go_enter Tryz.func148,Tryz.ntmps148;go_wp2_with (go_at_call 164;(with_reducible refine(HSh.out _).mono ?_);rintro e w1 ⟨rfl,hw1⟩;subst w1);go_loopg [9,10] (n+1) (fun gk _ _ wx=>∃ i:Nat,i≤n∧gk=n-i+1∧wx.heap[w.heap.size]?=some (.stringIter S i)∧Below w.heap.size w wx∧Lib.NoAny s [47,63] i)
 case atStart=>exact⟨0,by omega,rfl,World.iter_heap _ _ _,below_new _ _,Lib.NoAny.zero _ _⟩
 case round=>
  obtain⟨i,hi,rfl,hit,hb,hno⟩:=hrel;have HNo:=hid hno;have HB:=hid hb;clear hno hb;by_cases hin:i<n
  · have hi1:i<s.length:=by rw [HN.out];exact hin
    obtain⟨y,hy⟩:∃ y,s[i]=y:=⟨_,rfl⟩;have hiS:i<S.size:=by rw [hSn];exact hin
    have hyS:S[i]'hiS=y:=by rw [HByte.out i hi1 hiS,hy]
    have HY:=hid (show s[i]?=some y from by rw [List.getElem?_eq_getElem hi1,hy]);clear hy hi1;by_cases hlow:y.toNat<128
    · have hnx:=fun ty=>Lib.run_next_ascii_at (P:=Tryz.prog) wr w.heap.size S i ty hit hiS (by rw [hyS];exact hlow)
      rw [hyS] at hnx;have HIt:=hid (Lib.iterAt_heap wr w.heap.size S i (i+1) hit);have HB1:=hid (Lib.below_iterAt HB.out (Nat.le_refl _) S (i+1));have HRa:=hid (show ∀ w,_ from fun w=>Tryz.strings_IndexRune_ascii Ed (y.toNat:Int) w (by omega) (by omega));rw [show ((y.toNat:Int)).toNat.toUInt8=y from by simp] at HRa;have hcon:=Lib.contains_iff_indexByte [47,63] y;rw [←HEd.out,ends_list,HEd.out] at HRa;obtain⟨W1,hW1⟩:∃ W1,wr.iterAt w.heap.size S (i+1)=W1:=⟨_,rfl⟩;rw [hW1] at hnx HIt HB1;clear hW1 hit hiS hyS;cases hc:([47,63]:B).contains y with
      |false=>
       have HNx:=hid (HNo.out.succ HY.out hc);rw [hc] at hcon;have hlt:¬((0:Int)≤Lib.indexByte [47,63] y):=of_decide_eq_false hcon.symm;obtain⟨q,hq⟩:∃ q,Lib.indexByte [47,63] y=q:=⟨_,rfl⟩;rw [hq] at HRa hlt;clear hcon hq hc;go_wp2_with (go_at_call 163;(with_reducible refine(HRa.out _).mono ?_);rintro e w2 ⟨rfl,hw2⟩;subst hw2);go_roundg (n-(i+1)+1)
       case measure=>omega
       case rel=>exact⟨i+1,by omega,rfl,HIt.out,HB1.out,HNx.out⟩
      |true=>
       have HV:=hid (HRh.out i y HNo.out HY.out hc);rw [hc] at hcon;have hlt:((0:Int)≤Lib.indexByte [47,63] y):=of_decide_eq_true hcon.symm;obtain⟨q,hq⟩:∃ q,Lib.indexByte [47,63] y=q:=⟨_,rfl⟩;rw [hq] at HRa hlt;clear hcon hq hc;go_wp2_with (go_at_call 163;(with_reducible refine(HRa.out _).mono ?_);rintro e w2 ⟨rfl,hw2⟩;subst hw2);go_ret;exact⟨by rw [HV.out];rfl,HB1.out⟩
    · have hnx:=fun ty=>Lib.run_next_any_at (P:=Tryz.prog) wr w.heap.size S i ty hit hiS
      obtain⟨d1,d2,d3,d4,d5⟩:=HSd.out i hiS (by rw [hyS];omega);obtain⟨rr,hrr⟩:∃ rr,(Utf8.decode S i).1=rr:=⟨_,rfl⟩;obtain⟨kk,hkk⟩:∃ kk,(Utf8.decode S i).2=kk:=⟨_,rfl⟩;rw [hrr,hkk] at hnx;rw [hrr] at d1 d2;rw [hkk] at d3 d4 d5;have HNx:=hid (no_span HNo.out d5);have HRi:=hid (HRu.out (rr:Int) d1 (by omega));have HIt:=hid (Lib.iterAt_heap wr w.heap.size S i (i+kk) hit);have HB1:=hid (Lib.below_iterAt HB.out (Nat.le_refl _) S (i+kk));obtain⟨W1,hW1⟩:∃ W1,wr.iterAt w.heap.size S (i+kk)=W1:=⟨_,rfl⟩;rw [hW1] at hnx HIt HB1;clear hW1 hit hiS hyS d1 d5 hrr hkk;go_wp2_with (go_at_call 163;(with_reducible refine(HRi.out _).mono ?_);rintro e w2 ⟨rfl,hb2⟩;have HB2:=hid (below_out HB1.out hb2);have HIt2:=hid (kB hb2 HIt.out);clear hb2);go_roundg (n-(i+kk)+1)
      case measure=>omega
      case rel=>exact⟨i+kk,by omega,rfl,HIt2.out,HB2.out,HNx.out⟩
  · obtain rfl:n=i:=by omega
    have HV:=hid (HRn.out HNo.out);have hnx:=fun ty=>Lib.run_next_end_at (P:=Tryz.prog) wr w.heap.size S n ty hit (by omega)
    go_wp2;go_ret;exact⟨by rw [HV.out];rfl,HB.out⟩
theorem iany_any (s:B) (hs:s.length≤4294967280) (w:World):Calls Tryz.prog 148 #[.string (str s),.string ends] w fun e w'=>e= .returned (.int .i64 (Lib.indexAny s [47,63]))∧Below w.heap.size w w':=by
  by_cases h:s.length≤8
  · exact iany_short s h w
  · refine(Tryz.strings_IndexAny_long (zero_of_info (P:=Tryz.prog) (t:=226) (n:=256) (by kernel_rfl)).1 (str s) ends w (by decide) (by rw [str_size];omega) (by rw [str_size];omega) (by decide) (fun j b hb=>by
      rw [ends_list] at hb
      have:b∈([47,63]:B):=List.mem_of_getElem? hb
      simp only [List.mem_cons,List.not_mem_nil,or_false] at this
      rcases this with rfl|rfl <;> decide)).mono ?_
    rintro e w' ⟨rfl,rfl⟩
    exact⟨rfl,(below_new w _).alloc (below_new w _).size _⟩
theorem cuthost_any (s:B) (hs:s.length≤4294967280) (w:World):Calls Tryz.prog 120 #[.string (str s)] w fun e w'=>e= .returned (.tuple #[.string (str (s.takeWhile stopC)),.string (str (s.dropWhile stopC))])∧Below w.heap.size w w':=by
 obtain⟨n,hn⟩:∃ n,s.length=n:=⟨_,rfl⟩;have HIa:=hid (iany_any s hs);rw [any_tw] at HIa;obtain⟨h1,h2⟩:=tw_take stopC s;have hle:=tw_le stopC s;obtain⟨k,hk⟩:∃ k,(s.takeWhile stopC).length=k:=⟨_,rfl⟩;rw [hk] at HIa h1 h2 hle;rw [hn] at HIa hle hs;obtain⟨S,hS⟩:∃ S,str s=S:=⟨_,rfl⟩;have hSn:S.size=n:=by rw [←hS,str_size,hn]
 have hx1:S.extract 0 k=str (s.takeWhile stopC):=by rw [←hS,ext_str,h1];simp
 have hx2:S.extract k n=str (s.dropWhile stopC):=by rw [←hS,ext_drop s k n hn,h2]
 rw [hS] at HIa ⊢;obtain⟨Ta,hTa⟩:∃ Ta,str (s.takeWhile stopC)=Ta:=⟨_,rfl⟩;obtain⟨Tb,hTb⟩:∃ Tb,str (s.dropWhile stopC)=Tb:=⟨_,rfl⟩;rw [hTa] at hx1 ⊢;rw [hTb] at hx2 ⊢;have HTb:=hid (show n≤k→Tb=ByteArray.empty from fun h=>by rw [←hTb,h2,List.drop_of_length_le (by omega)];rfl);clear h1 h2 hk hS hTa hTb hn;by_cases hlt:k<n
 · rw [if_pos hlt] at HIa;have hk0:¬(k:Int)<0:=by omega
   have hk1:(0:Int)≤(k:Int)∧(k:Int)≤(n:Int):=by omega
   go_enter Tryz.func120,Tryz.ntmps120;go_wp2_with (go_at_call 148;(with_reducible refine(HIa.out _).mono ?_);rintro e w1 ⟨rfl,hb⟩;have HB1:=hid hb;clear hb);refine wp_region_noPanic ?_;refine any_begin 8 (by kernel_rfl) (by kernel_rfl) ?_;refine atk (i:=0) (some 11) rfl rfl (v:= ?v0h) ?hy0h ?rest0h
   case hy0h=>intro w0;go_simp;try with_reducible rfl
   simp only [Act.put,sA,sB,sC];refine atk (i:=1) (some 12) rfl rfl (v:= ?v1h) ?hy1h ?rest1h
   case hy1h=>intro w0;go_simp;try with_reducible rfl
   simp only [Act.put,sA,sB,sC];refine atk (i:=2) (some 13) rfl rfl (v:= ?v2h) ?hy2h ?rest2h
   case hy2h=>intro w0;go_simp;try with_reducible rfl
   simp only [Act.put,sA,sB,sC];refine atk (i:=3) (some 14) rfl rfl (v:= ?v3h) ?hy3h ?rest3h
   case hy3h=>intro w0;go_simp;try with_reducible rfl
   simp only [Act.put,sA,sB,sC];refine atk (i:=4) (some 15) rfl rfl (v:= ?v4h) ?hy4h ?rest4h
   case hy4h=>intro w0;go_simp;try with_reducible rfl
   simp only [Act.put,sA,sB,sC];refine atk (i:=5) (some 16) rfl rfl (v:= ?v5h) ?hy5h ?rest5h
   case hy5h=>intro w0;go_simp;try with_reducible rfl
   simp only [Act.put,sA,sB,sC];refine atk (i:=6) (some 2) rfl rfl (v:= ?v6h) ?hy6h ?rest6h
   case hy6h=>intro w0;go_simp;try with_reducible rfl
   simp only [Act.put,sA,sB,sC];refine atk (i:=7) (some 3) rfl rfl (v:= ?v7h) ?hy7h ?rest7h
   case hy7h=>intro w0;go_simp;try with_reducible rfl
   simp only [Act.put,sA,sB,sC];refine any_done (by kernel_rfl) ?_ _;refine NoPanic.normal ?_;go_wp2;go_ret2;exact⟨rfl,⟨HB1.out.os,HB1.out.tape,HB1.out.output,HB1.out.size,HB1.out.block⟩⟩
 · obtain rfl:k=n:=by omega
   rw [if_neg hlt] at HIa;have hTe:=HTb.out (Nat.le_refl _);subst hTe;go_enter Tryz.func120,Tryz.ntmps120;go_wp2_with (go_at_call 148;(with_reducible refine(HIa.out _).mono ?_);rintro e w1 ⟨rfl,hb⟩;have HB1:=hid hb;clear hb);refine wp_region_noPanic ?_;refine any_begin 8 (by kernel_rfl) (by kernel_rfl) ?_;refine atk (i:=0) (some 11) rfl rfl (v:= ?v0k) ?hy0k ?rest0k
   case hy0k=>intro w0;go_simp;try with_reducible rfl
   simp only [Act.put,sA,sB,sC];refine atk (i:=1) (some 12) rfl rfl (v:= ?v1k) ?hy1k ?rest1k
   case hy1k=>intro w0;go_simp;try with_reducible rfl
   simp only [Act.put,sA,sB,sC];refine atk (i:=2) (some 13) rfl rfl (v:= ?v2k) ?hy2k ?rest2k
   case hy2k=>intro w0;go_simp;try with_reducible rfl
   simp only [Act.put,sA,sB,sC];refine atk (i:=3) (some 14) rfl rfl (v:= ?v3k) ?hy3k ?rest3k
   case hy3k=>intro w0;go_simp;try with_reducible rfl
   simp only [Act.put,sA,sB,sC];refine atk (i:=4) (some 15) rfl rfl (v:= ?v4k) ?hy4k ?rest4k
   case hy4k=>intro w0;go_simp;try with_reducible rfl
   simp only [Act.put,sA,sB,sC];refine atk (i:=5) (some 16) rfl rfl (v:= ?v5k) ?hy5k ?rest5k
   case hy5k=>intro w0;go_simp;try with_reducible rfl
   simp only [Act.put,sA,sB,sC];refine atk (i:=6) (some 2) rfl rfl (v:= ?v6k) ?hy6k ?rest6k
   case hy6k=>intro w0;go_simp;try with_reducible rfl
   simp only [Act.put,sA,sB,sC];refine atk (i:=7) (some 3) rfl rfl (v:= ?v7k) ?hy7k ?rest7k
   case hy7k=>intro w0;go_simp;try with_reducible rfl
   simp only [Act.put,sA,sB,sC];refine any_done (by kernel_rfl) ?_ _;refine NoPanic.normal ?_;go_wp2;go_ret2;exact⟨rfl,⟨HB1.out.os,HB1.out.tape,HB1.out.output,HB1.out.size,HB1.out.block⟩⟩
theorem ishost_any (s:B) (hs:s.length≤4294967280) (w:World):Calls Tryz.prog 121 #[.string (str s)] w fun e w'=>e= .returned (.bool (isHostB s))∧w'=w:=by
 obtain⟨n,hn⟩:∃ n,s.length=n:=⟨_,rfl⟩;have HN:=hid hn;obtain⟨S,hS⟩:∃ S,str s=S:=⟨_,rfl⟩;have hSn:S.size=n:=by rw [←hS,str_size,hn]
 have HByte:=hid (show ∀ (k:Nat) (h:k<s.length) (h2:k<S.size),S[k]'h2=s[k]'h from fun k h h2=>by subst hS;rfl);have HH:=hid (show ∀ (c:UInt8) (w:World),_ from phost_any);have HR0:=hid (show isHostB s=(s.all hostB && decide (s≠ []) && decide (s.length≤255)) from rfl);obtain⟨R,hR⟩:∃ R,isHostB s=R:=⟨_,rfl⟩;rw [hR,hn] at HR0;have HEm:=hid (show (decide (s≠ []):Bool)=decide (n≠0) from by rw [←hn];cases s <;> simp);have HEq:=hid (show ∀ b:Bool,(S.toList== (⟨#[]⟩:ByteArray).toList)=b↔decide (n=0)=b from fun b=>by
  have:(S.toList== (⟨#[]⟩:ByteArray).toList)=decide (n=0):=by
   rw [←hS,←hn,Lib.toList_data,Lib.toList_data];cases s with
   |nil=>rfl
   |cons c l=>
    simp only [List.length_cons,Nat.add_eq_zero_iff,Nat.one_ne_zero,and_false,decide_false];rfl
  rw [this])
 rw [hn] at hs;rw [hS,hR];clear hn hS hR;go_enter Tryz.func121,Tryz.ntmps121;go_wp2;go_loopg [6] (n+1) (fun gk s6 wr=>∃ i:Nat,i≤n∧gk=n-i+1∧s6= .int .i64 (i:Int)∧(s.take i).all hostB=true∧wr=w)
 case atStart=>exact⟨0,by omega,rfl,rfl,rfl,rfl⟩
 case round=>
  obtain⟨i,hi,rfl,rfl,hal,rfl⟩:=hrel;have HAl:=hid hal;clear hal;by_cases hin:i<n
  · have hi1:i<s.length:=by rw [HN.out];exact hin
    obtain⟨y,hy⟩:∃ y,s[i]=y:=⟨_,rfl⟩;obtain⟨Y,hY⟩:∃ Y:Nat,y.toNat=Y:=⟨_,rfl⟩;have hY256:Y<256:=by rw [←hY];exact y.toNat_lt
    have hbyte:∀ h:i<S.size,(S[i]'h).toNat=Y:=fun h=>by rw [HByte.out i hi1 h,hy,hY]
    have HTk:=hid (show (s.take (i+1)).all hostB=hostB y from by rw [List.take_add_one,List.getElem?_eq_getElem hi1,hy,List.all_append,HAl.out];simp);have HFa:=hid (show hostB y=false→R=false from fun h=>by
     rw [HR0.out];have:s.all hostB=false:=by
      rw [List.all_eq_false];exact⟨y,by rw [←hy];exact List.getElem_mem hi1,by rw [h];simp⟩
     rw [this];rfl)
    have HHy:=hid (HH.out y);unfold byteV at HHy;rw [hY] at HHy;clear hy hi1 hY;cases hh:hostB y with
    |true=>
     rw [hh] at HHy HTk;clear hh;go_wp2_with (go_at_call 149;(with_reducible refine(HHy.out _).mono ?_);rintro e w1 ⟨rfl,rfl⟩);go_roundg (n-(i+1)+1)
     case measure=>omega
     case rel=>exact⟨i+1,by omega,rfl,by push_cast;go_num,HTk.out,rfl⟩
    |false=>
     rw [hh] at HHy;have HV:=hid (HFa.out hh);clear hh;go_wp2_with (go_at_call 149;(with_reducible refine(HHy.out _).mono ?_);rintro e w1 ⟨rfl,rfl⟩);go_ret;exact⟨by rw [HV.out];rfl,rfl⟩
  · obtain rfl:n=i:=by omega
    have HV:=hid (show R=(decide (n≠0) && decide (n≤255)) from by rw [HR0.out,HEm.out];rw [List.take_of_length_le (by rw [HN.out];exact Nat.le_refl _)] at HAl;rw [HAl.out];rfl);by_cases h0:n=0
    · have e1:(S.toList== (⟨#[]⟩:ByteArray).toList)=true:=(HEq.out true).2 (decide_eq_true h0);have e2:S.toList.isEmpty=true:=by
       have:=beq_iff_eq.1 e1;rw [this,Lib.toList_data];rfl
      have HV2:=hid (show R=false from by rw [HV.out];simp [h0]);go_wp2;go_ret;exact⟨by rw [HV2.out];rfl,rfl⟩
    · have e1:(S.toList== (⟨#[]⟩:ByteArray).toList)=false:=(HEq.out false).2 (decide_eq_false h0);have e2:S.toList.isEmpty=false:=by
       cases hq:S.toList with
       |nil=>rw [hq,Lib.toList_data] at e1;exact absurd e1 (by decide)
       |cons c l=>rfl
      by_cases h255:n≤255
      · have HV2:=hid (show R=true from by rw [HV.out];simp [h0,h255]);have h255i:(n:Int)≤255:=by omega
        go_wp2;go_ret;exact⟨by rw [HV2.out];simp,rfl⟩
      · have HV2:=hid (show R=false from by rw [HV.out];simp [h255]);have h255i:¬(n:Int)≤255:=by omega
        go_wp2;go_ret;exact⟨by rw [HV2.out];simp,rfl⟩
structure Five (w:World) (g:Nat) (c0 c1 c2 c3 c4:Value):Prop where
 a0:w.cell? ⟨g,0,none⟩=some c0
 a1:w.cell? ⟨g,1,none⟩=some c1
 a2:w.cell? ⟨g,2,none⟩=some c2
 a3:w.cell? ⟨g,3,none⟩=some c3
 a4:w.cell? ⟨g,4,none⟩=some c4
 fz:∀ j,w.frozen? ⟨g,j,none⟩=false
theorem five {w:World}{g:Nat}{c0 c1 c2 c3 c4:Value}{T:TypeId} (h:w.heap[g]?=some (.cells #[c0,c1,c2,c3,c4] T (0,0))):Five w g c0 c1 c2 c3 c4:=by
 refine⟨?_,?_,?_,?_,?_,fun j=>by simp [World.frozen?,h]⟩ <;> simp [World.cell?,h]
theorem has_five {w:World}{g:Nat}{T:TypeId}{fr:Nat×Nat}{x0 x1 x2 x3 x4:Value} (h:w.heap[g]?=some (.cells #[x0,x1,x2,x3,x4] T fr)):∃ cs:Array Value,cs.size=5∧w.heap[g]?=some (.cells cs T fr):=⟨_,rfl,h⟩
theorem five_put {w:World}{g:Nat}{T:TypeId}{fr:Nat×Nat} (h:∃ cs:Array Value,cs.size=5∧w.heap[g]?=some (.cells cs T fr)) (c0 c1 c2 c3 c4:Value):
  (((((w.setCell ⟨g,0,none⟩ c0).setCell ⟨g,1,none⟩ c1).setCell ⟨g,2,none⟩ c2).setCell ⟨g,3,none⟩ c3).setCell ⟨g,4,none⟩ c4).heap[g]?=some (.cells #[c0,c1,c2,c3,c4] T fr):=by
 obtain⟨⟨l⟩,hs,h⟩:=h;rcases l with _|⟨x0,_|⟨x1,_|⟨x2,_|⟨x3,_|⟨x4,_|⟨x5,r⟩⟩⟩⟩⟩⟩ <;> simp at hs
 · simp [World.setCell,Array.getElem?_modify,h]
theorem tg_size:(Tryz.prog.info? 111).map (·.size)=some 5:=by kernel_rfl
theorem results_tgtmp {fn:Func}{p u:Tmp} (h:fn.results= #[.cell p 111,.tmp u]) (tmps:Array Value) (w:World) (g:Nat) (t:TypeId) (cs:Array Value) (fr:Nat×Nat)
  (hp:tmps.getD p undef= .pointer (some ⟨g,0,none⟩)) (hg:w.heap[g]?=some (.cells cs t fr)) (hs:cs.size=5):(results fn tmps).run Tryz.prog w= .ok (.tuple #[.agg cs,tmps.getD u undef]) w:=by
 have hl:=run_loadVar_row (P:=Tryz.prog) w g t 111 cs fr _ hg Tryz.underlying111 rfl (by rw [tg_size,hs]);rw [results_cell_tmp h,hp];simp [asAddr,Result.andThen,hl]
structure TW (w W:World) (c0 c1 c2 c3 c4:Value):Prop where
 r:W.heap[w.heap.size]?=some (.cells #[c0,c1,c2,c3,c4] 111 (0,0))
 o:W.heap[w.heap.size+1]?=some (.cells #[.int .i64 0,.string ⟨#[]⟩,.string ⟨#[]⟩,.string ⟨#[]⟩,.bool false] 111 (0,0))
 low:Below w.heap.size w W
theorem TW.below {w W V:World}{c0 c1 c2 c3 c4:Value} (h:TW w W c0 c1 c2 c3 c4) (hb:Below W.heap.size W V):TW w V c0 c1 c2 c3 c4:=
 ⟨kB hb h.r,kB hb h.o,h.low.trans (hb.mono h.low.size)⟩
theorem TW.start {w W0:World}{c0 c1 c2 c3 c4:Value} (h:W0=(w.alloc (.cells #[c0,c1,c2,c3,c4] 111 (0,0))).alloc (.cells #[.int .i64 0,.string ⟨#[]⟩,.string ⟨#[]⟩,.string ⟨#[]⟩,.bool false] 111 (0,0))):TW w W0 c0 c1 c2 c3 c4:=by
 obtain⟨a,b,c⟩:=two_at h;exact⟨a,b,c⟩
theorem TW.store {w W:World}{c0 c1 c2 c3 c4:Value} (h:TW w W c0 c1 c2 c3 c4) (d2 d3 d4:Value):TW w (((W.setCell ⟨w.heap.size,2,none⟩ d2).setCell ⟨w.heap.size,3,none⟩ d3).setCell ⟨w.heap.size,4,none⟩ d4) c0 c1 d2 d3 d4:=by
 refine⟨?_,?_,?_⟩
 · simp [World.setCell,Array.getElem?_modify,h.r]
 · iterate 3 rw [Below.heap_setCell _ _ _ _ (show w.heap.size+1≠w.heap.size by omega)]
   exact h.o
 · iterate 3 refine Below.setCell ?_ (show w.heap.size≤w.heap.size from Nat.le_refl _) _
   exact h.low
theorem TW.out {w W:World}{c0 c1 c2 c3 c4:Value} (h:TW w W c0 c1 c2 c3 c4) (a0 a1 a2 a3 a4:Value):Below w.heap.size w (((((W.setCell ⟨w.heap.size+1,0,none⟩ a0).setCell ⟨w.heap.size+1,1,none⟩ a1).setCell ⟨w.heap.size+1,2,none⟩ a2).setCell ⟨w.heap.size+1,3,none⟩ a3).setCell ⟨w.heap.size+1,4,none⟩ a4):=by
 iterate 5 refine Below.setCell ?_ (show w.heap.size≤w.heap.size+1 by omega) _
 exact h.low
def tgV (t:TG):Value:=.agg #[.int .i64 t.form,.string (str t.host),.string (str t.path),.string (str t.query),.bool t.has]
theorem rbehind_root (f:Int) (h s:B) (hs:s.length≤35184372088832) (A P Q:B) (K:Bool) (hc:cutF 63 s=(A,Q,K)) (hP:P=pathOf f A) (hA:A= []) (hf:f=2) (w:World):Calls Tryz.prog 82 #[tgV ⟨f,h,[],[],false⟩,.string (str s)] w fun e w'=>e= .returned (.tuple #[tgV (behindB f h s).1,.int .i64 ((behindB f h s).2:Int)])∧Below w.heap.size w w':=by
 have HCu:=hid (rcut_any s 63 hs);rw [hc] at HCu;dsimp only at HCu;rw [show byteV 63= .int .u8 63 from rfl] at HCu;have hl:=cutF_len 63 s;rw [hc] at hl;dsimp only at hl;have hPl:P.length≤35184372088832:=by
  rw [hP];unfold pathOf;split
  · simp
  · exact Nat.le_trans hl.1 hs
 have HPa:=hid (rpath_any P hPl);have HQu:=hid (rquery_any Q (Nat.le_trans hl.2 hs));have HBe:=hid (show behindB f h s=if isPath P=false∨isQuery Q=false then (TG.zero,23) else (⟨f,h,P,Q,K⟩,0) from by unfold behindB;rw [hc,hP]);subst hA;subst hf;obtain rfl:P= [47]:=by rw [hP];rfl
 obtain⟨S,hS⟩:∃ S,str s=S:=⟨_,rfl⟩;rw [hS] at HCu ⊢;obtain⟨Hs,hHs⟩:∃ Hs,str h=Hs:=⟨_,rfl⟩;have HHs:=hid hHs;obtain⟨W0,hW0⟩:∃ W0,W0=(w.alloc (.cells #[.int .i64 2,.string (str h),.string ⟨#[]⟩,.string ⟨#[]⟩,.bool false] 111 (0,0))).alloc (.cells #[.int .i64 0,.string ⟨#[]⟩,.string ⟨#[]⟩,.string ⟨#[]⟩,.bool false] 111 (0,0)):=⟨_,rfl⟩;have HW0:=hid hW0;have HT0:=hid (TW.start hW0);clear hW0 hHs hS hl hPl hs hc hP;unfold tgV;dsimp only;rw [show str []=(⟨#[]⟩:ByteArray) from rfl];cases hp:isPath [47] with
 |false=>
  have HV:=hid (show behindB 2 h s=(TG.zero,23) from by rw [HBe.out,if_pos (.inl hp)]);rw [hp] at HPa;clear hp;go_enter Tryz.func82,Tryz.ntmps82;go_wp2_with (first|(go_at_call 124;(with_reducible refine(HCu.out _).mono ?_);rintro e w1 ⟨rfl,hb⟩;rw [←HW0.out] at hb;have HT1:=hid (HT0.out.below hb);obtain⟨x0,x1,x2,x3,x4,xz⟩:=five HT1.out.r;clear hb xz)|(go_at_call 70;(with_reducible refine(HPa.out _).mono ?_);rintro e w2 ⟨rfl,hb⟩;have HT2:=hid (HT1.out.below hb);clear x0 x1 x2 x3 x4;obtain⟨x0,x1,x2,x3,x4,xz⟩:=five HT2.out.r;obtain⟨_,_,_,_,_,oz⟩:=five HT2.out.o;have oz0:=oz 0;have oz1:=oz 1;have oz2:=oz 2;have oz3:=oz 3;have oz4:=oz 4;clear hb xz oz))
  (try simp only [Exit.inBlock,Exit.then])
  refine bodyPost_ret (results_tgtmp rfl _ _ _ 111 _ (0,0) rfl (five_put (has_five HT2.out.o) _ _ _ _ _) rfl) rfl ?_;rw [HV.out];exact⟨rfl,HT2.out.out _ _ _ _ _⟩
 |true=>
  rw [hp] at HPa;cases hq:isQuery Q with
  |false=>
   have HV:=hid (show behindB 2 h s=(TG.zero,23) from by rw [HBe.out,if_pos (.inr hq)]);rw [hq] at HQu;clear hp hq;go_enter Tryz.func82,Tryz.ntmps82;go_wp2_with (first|(go_at_call 124;(with_reducible refine(HCu.out _).mono ?_);rintro e w1 ⟨rfl,hb⟩;rw [←HW0.out] at hb;have HT1:=hid (HT0.out.below hb);obtain⟨x0,x1,x2,x3,x4,xz⟩:=five HT1.out.r;clear hb xz)|(go_at_call 70;(with_reducible refine(HPa.out _).mono ?_);rintro e w2 ⟨rfl,hb⟩;have HT2:=hid (HT1.out.below hb);clear x0 x1 x2 x3 x4;obtain⟨x0,x1,x2,x3,x4,xz⟩:=five HT2.out.r;obtain⟨_,_,_,_,_,oz⟩:=five HT2.out.o;have oz0:=oz 0;have oz1:=oz 1;have oz2:=oz 2;have oz3:=oz 3;have oz4:=oz 4;clear hb xz oz)|(go_at_call 125;(with_reducible refine(HQu.out _).mono ?_);rintro e w3 ⟨rfl,hb⟩;have HT3:=hid (HT2.out.below hb);clear x0 x1 x2 x3 x4 oz0 oz1 oz2 oz3 oz4;obtain⟨x0,x1,x2,x3,x4,xz⟩:=five HT3.out.r;have xz2:=xz 2;have xz3:=xz 3;have xz4:=xz 4;obtain⟨y0,y1,y2,y3,y4,oz⟩:=five HT3.out.o;have oz0:=oz 0;have oz1:=oz 1;have oz2:=oz 2;have oz3:=oz 3;have oz4:=oz 4;clear hb xz oz))
   (try simp only [Exit.inBlock,Exit.then])
   refine bodyPost_ret (results_tgtmp rfl _ _ _ 111 _ (0,0) rfl (five_put (has_five HT3.out.o) _ _ _ _ _) rfl) rfl ?_;rw [HV.out];exact⟨rfl,HT3.out.out _ _ _ _ _⟩
  |true=>
   have HV:=hid (show behindB 2 h s=(⟨2,h,[47],Q,K⟩,0) from by rw [HBe.out,if_neg (by rw [hp,hq];simp)]);rw [hq] at HQu;clear hp hq;go_enter Tryz.func82,Tryz.ntmps82;go_wp2_with (first|(go_at_call 124;(with_reducible refine(HCu.out _).mono ?_);rintro e w1 ⟨rfl,hb⟩;rw [←HW0.out] at hb;have HT1:=hid (HT0.out.below hb);obtain⟨x0,x1,x2,x3,x4,xz⟩:=five HT1.out.r;clear hb xz)|(go_at_call 70;(with_reducible refine(HPa.out _).mono ?_);rintro e w2 ⟨rfl,hb⟩;have HT2:=hid (HT1.out.below hb);clear x0 x1 x2 x3 x4;obtain⟨x0,x1,x2,x3,x4,xz⟩:=five HT2.out.r;obtain⟨_,_,_,_,_,oz⟩:=five HT2.out.o;have oz0:=oz 0;have oz1:=oz 1;have oz2:=oz 2;have oz3:=oz 3;have oz4:=oz 4;clear hb xz oz)|(go_at_call 125;(with_reducible refine(HQu.out _).mono ?_);rintro e w3 ⟨rfl,hb⟩;have HT3:=hid (HT2.out.below hb);clear x0 x1 x2 x3 x4 oz0 oz1 oz2 oz3 oz4;obtain⟨x0,x1,x2,x3,x4,xz⟩:=five HT3.out.r;have xz2:=xz 2;have xz3:=xz 3;have xz4:=xz 4;obtain⟨y0,y1,y2,y3,y4,oz⟩:=five HT3.out.o;have oz0:=oz 0;have oz1:=oz 1;have oz2:=oz 2;have oz3:=oz 3;have oz4:=oz 4;clear hb xz oz))
   (try simp only [Exit.inBlock,Exit.then])
   refine bodyPost_ret (results_tgtmp rfl _ _ _ 111 _ (0,0) rfl (five_put (has_five (HT3.out.store _ _ _).o) _ _ _ _ _) rfl) rfl ?_;rw [HV.out];exact⟨rfl,(HT3.out.store _ _ _).out _ _ _ _ _⟩
theorem rbehind_none (f:Int) (h s:B) (hs:s.length≤35184372088832) (A P Q:B) (K:Bool) (hc:cutF 63 s=(A,Q,K)) (hP:P=pathOf f A) (hA:A= []) (hf:f=1) (w:World):Calls Tryz.prog 82 #[tgV ⟨f,h,[],[],false⟩,.string (str s)] w fun e w'=>e= .returned (.tuple #[tgV (behindB f h s).1,.int .i64 ((behindB f h s).2:Int)])∧Below w.heap.size w w':=by
 have HCu:=hid (rcut_any s 63 hs);rw [hc] at HCu;dsimp only at HCu;rw [show byteV 63= .int .u8 63 from rfl] at HCu;have hl:=cutF_len 63 s;rw [hc] at hl;dsimp only at hl;have hPl:P.length≤35184372088832:=by
  rw [hP];unfold pathOf;split
  · simp
  · exact Nat.le_trans hl.1 hs
 have HPa:=hid (rpath_any P hPl);have HQu:=hid (rquery_any Q (Nat.le_trans hl.2 hs));have HBe:=hid (show behindB f h s=if isPath P=false∨isQuery Q=false then (TG.zero,23) else (⟨f,h,P,Q,K⟩,0) from by unfold behindB;rw [hc,hP]);subst hA;subst hf;obtain rfl:P= []:=by rw [hP];rfl
 obtain⟨S,hS⟩:∃ S,str s=S:=⟨_,rfl⟩;rw [hS] at HCu ⊢;obtain⟨Hs,hHs⟩:∃ Hs,str h=Hs:=⟨_,rfl⟩;have HHs:=hid hHs;obtain⟨W0,hW0⟩:∃ W0,W0=(w.alloc (.cells #[.int .i64 1,.string (str h),.string ⟨#[]⟩,.string ⟨#[]⟩,.bool false] 111 (0,0))).alloc (.cells #[.int .i64 0,.string ⟨#[]⟩,.string ⟨#[]⟩,.string ⟨#[]⟩,.bool false] 111 (0,0)):=⟨_,rfl⟩;have HW0:=hid hW0;have HT0:=hid (TW.start hW0);clear hW0 hHs hS hl hPl hs hc hP;unfold tgV;dsimp only;rw [show str []=(⟨#[]⟩:ByteArray) from rfl];cases hp:isPath [] with
 |false=>
  have HV:=hid (show behindB 1 h s=(TG.zero,23) from by rw [HBe.out,if_pos (.inl hp)]);rw [hp] at HPa;clear hp;go_enter Tryz.func82,Tryz.ntmps82;go_wp2_with (first|(go_at_call 124;(with_reducible refine(HCu.out _).mono ?_);rintro e w1 ⟨rfl,hb⟩;rw [←HW0.out] at hb;have HT1:=hid (HT0.out.below hb);obtain⟨x0,x1,x2,x3,x4,xz⟩:=five HT1.out.r;clear hb xz)|(go_at_call 70;(with_reducible refine(HPa.out _).mono ?_);rintro e w2 ⟨rfl,hb⟩;have HT2:=hid (HT1.out.below hb);clear x0 x1 x2 x3 x4;obtain⟨x0,x1,x2,x3,x4,xz⟩:=five HT2.out.r;obtain⟨_,_,_,_,_,oz⟩:=five HT2.out.o;have oz0:=oz 0;have oz1:=oz 1;have oz2:=oz 2;have oz3:=oz 3;have oz4:=oz 4;clear hb xz oz))
  (try simp only [Exit.inBlock,Exit.then])
  refine bodyPost_ret (results_tgtmp rfl _ _ _ 111 _ (0,0) rfl (five_put (has_five HT2.out.o) _ _ _ _ _) rfl) rfl ?_;rw [HV.out];exact⟨rfl,HT2.out.out _ _ _ _ _⟩
 |true=>
  rw [hp] at HPa;cases hq:isQuery Q with
  |false=>
   have HV:=hid (show behindB 1 h s=(TG.zero,23) from by rw [HBe.out,if_pos (.inr hq)]);rw [hq] at HQu;clear hp hq;go_enter Tryz.func82,Tryz.ntmps82;go_wp2_with (first|(go_at_call 124;(with_reducible refine(HCu.out _).mono ?_);rintro e w1 ⟨rfl,hb⟩;rw [←HW0.out] at hb;have HT1:=hid (HT0.out.below hb);obtain⟨x0,x1,x2,x3,x4,xz⟩:=five HT1.out.r;clear hb xz)|(go_at_call 70;(with_reducible refine(HPa.out _).mono ?_);rintro e w2 ⟨rfl,hb⟩;have HT2:=hid (HT1.out.below hb);clear x0 x1 x2 x3 x4;obtain⟨x0,x1,x2,x3,x4,xz⟩:=five HT2.out.r;obtain⟨_,_,_,_,_,oz⟩:=five HT2.out.o;have oz0:=oz 0;have oz1:=oz 1;have oz2:=oz 2;have oz3:=oz 3;have oz4:=oz 4;clear hb xz oz)|(go_at_call 125;(with_reducible refine(HQu.out _).mono ?_);rintro e w3 ⟨rfl,hb⟩;have HT3:=hid (HT2.out.below hb);clear x0 x1 x2 x3 x4 oz0 oz1 oz2 oz3 oz4;obtain⟨x0,x1,x2,x3,x4,xz⟩:=five HT3.out.r;have xz2:=xz 2;have xz3:=xz 3;have xz4:=xz 4;obtain⟨y0,y1,y2,y3,y4,oz⟩:=five HT3.out.o;have oz0:=oz 0;have oz1:=oz 1;have oz2:=oz 2;have oz3:=oz 3;have oz4:=oz 4;clear hb xz oz))
   (try simp only [Exit.inBlock,Exit.then])
   refine bodyPost_ret (results_tgtmp rfl _ _ _ 111 _ (0,0) rfl (five_put (has_five HT3.out.o) _ _ _ _ _) rfl) rfl ?_;rw [HV.out];exact⟨rfl,HT3.out.out _ _ _ _ _⟩
  |true=>
   have HV:=hid (show behindB 1 h s=(⟨1,h,[],Q,K⟩,0) from by rw [HBe.out,if_neg (by rw [hp,hq];simp)]);rw [hq] at HQu;clear hp hq;go_enter Tryz.func82,Tryz.ntmps82;go_wp2_with (first|(go_at_call 124;(with_reducible refine(HCu.out _).mono ?_);rintro e w1 ⟨rfl,hb⟩;rw [←HW0.out] at hb;have HT1:=hid (HT0.out.below hb);obtain⟨x0,x1,x2,x3,x4,xz⟩:=five HT1.out.r;clear hb xz)|(go_at_call 70;(with_reducible refine(HPa.out _).mono ?_);rintro e w2 ⟨rfl,hb⟩;have HT2:=hid (HT1.out.below hb);clear x0 x1 x2 x3 x4;obtain⟨x0,x1,x2,x3,x4,xz⟩:=five HT2.out.r;obtain⟨_,_,_,_,_,oz⟩:=five HT2.out.o;have oz0:=oz 0;have oz1:=oz 1;have oz2:=oz 2;have oz3:=oz 3;have oz4:=oz 4;clear hb xz oz)|(go_at_call 125;(with_reducible refine(HQu.out _).mono ?_);rintro e w3 ⟨rfl,hb⟩;have HT3:=hid (HT2.out.below hb);clear x0 x1 x2 x3 x4 oz0 oz1 oz2 oz3 oz4;obtain⟨x0,x1,x2,x3,x4,xz⟩:=five HT3.out.r;have xz2:=xz 2;have xz3:=xz 3;have xz4:=xz 4;obtain⟨y0,y1,y2,y3,y4,oz⟩:=five HT3.out.o;have oz0:=oz 0;have oz1:=oz 1;have oz2:=oz 2;have oz3:=oz 3;have oz4:=oz 4;clear hb xz oz))
   (try simp only [Exit.inBlock,Exit.then])
   refine bodyPost_ret (results_tgtmp rfl _ _ _ 111 _ (0,0) rfl (five_put (has_five (HT3.out.store _ _ _).o) _ _ _ _ _) rfl) rfl ?_;rw [HV.out];exact⟨rfl,(HT3.out.store _ _ _).out _ _ _ _ _⟩
theorem rbehind_some (f:Int) (h s:B) (hs:s.length≤35184372088832) (A P Q:B) (K:Bool) (hc:cutF 63 s=(A,Q,K)) (hP:P=pathOf f A) (hA:A≠ []) (w:World):Calls Tryz.prog 82 #[tgV ⟨f,h,[],[],false⟩,.string (str s)] w fun e w'=>e= .returned (.tuple #[tgV (behindB f h s).1,.int .i64 ((behindB f h s).2:Int)])∧Below w.heap.size w w':=by
 have HCu:=hid (rcut_any s 63 hs);rw [hc] at HCu;dsimp only at HCu;rw [show byteV 63= .int .u8 63 from rfl] at HCu;have hl:=cutF_len 63 s;rw [hc] at hl;dsimp only at hl;have hPl:P.length≤35184372088832:=by
  rw [hP];unfold pathOf;split
  · simp
  · exact Nat.le_trans hl.1 hs
 have HPa:=hid (rpath_any P hPl);have HQu:=hid (rquery_any Q (Nat.le_trans hl.2 hs));have HBe:=hid (show behindB f h s=if isPath P=false∨isQuery Q=false then (TG.zero,23) else (⟨f,h,P,Q,K⟩,0) from by unfold behindB;rw [hc,hP]);obtain rfl:P=A:=by rw [hP,pathOf,if_neg (fun e=>hA e.1)]
 have hq1:=ne_empty (str_ne hA);have hq2:=ne_list (str_ne hA);obtain⟨S,hS⟩:∃ S,str s=S:=⟨_,rfl⟩;rw [hS] at HCu ⊢;obtain⟨Hs,hHs⟩:∃ Hs,str h=Hs:=⟨_,rfl⟩;have HHs:=hid hHs;obtain⟨W0,hW0⟩:∃ W0,W0=(w.alloc (.cells #[.int .i64 f,.string (str h),.string ⟨#[]⟩,.string ⟨#[]⟩,.bool false] 111 (0,0))).alloc (.cells #[.int .i64 0,.string ⟨#[]⟩,.string ⟨#[]⟩,.string ⟨#[]⟩,.bool false] 111 (0,0)):=⟨_,rfl⟩;have HW0:=hid hW0;have HT0:=hid (TW.start hW0);clear hW0 hHs hS hl hPl hs hc hP;unfold tgV;dsimp only;rw [show str []=(⟨#[]⟩:ByteArray) from rfl];cases hp:isPath P with
 |false=>
  have HV:=hid (show behindB f h s=(TG.zero,23) from by rw [HBe.out,if_pos (.inl hp)]);rw [hp] at HPa;clear hp;go_enter Tryz.func82,Tryz.ntmps82;go_wp2_with (first|(go_at_call 124;(with_reducible refine(HCu.out _).mono ?_);rintro e w1 ⟨rfl,hb⟩;rw [←HW0.out] at hb;have HT1:=hid (HT0.out.below hb);obtain⟨x0,x1,x2,x3,x4,xz⟩:=five HT1.out.r;clear hb xz)|(go_at_call 70;(with_reducible refine(HPa.out _).mono ?_);rintro e w2 ⟨rfl,hb⟩;have HT2:=hid (HT1.out.below hb);clear x0 x1 x2 x3 x4;obtain⟨x0,x1,x2,x3,x4,xz⟩:=five HT2.out.r;obtain⟨_,_,_,_,_,oz⟩:=five HT2.out.o;have oz0:=oz 0;have oz1:=oz 1;have oz2:=oz 2;have oz3:=oz 3;have oz4:=oz 4;clear hb xz oz))
  (try simp only [Exit.inBlock,Exit.then])
  refine bodyPost_ret (results_tgtmp rfl _ _ _ 111 _ (0,0) rfl (five_put (has_five HT2.out.o) _ _ _ _ _) rfl) rfl ?_;rw [HV.out];exact⟨rfl,HT2.out.out _ _ _ _ _⟩
 |true=>
  rw [hp] at HPa;cases hq:isQuery Q with
  |false=>
   have HV:=hid (show behindB f h s=(TG.zero,23) from by rw [HBe.out,if_pos (.inr hq)]);rw [hq] at HQu;clear hp hq;go_enter Tryz.func82,Tryz.ntmps82;go_wp2_with (first|(go_at_call 124;(with_reducible refine(HCu.out _).mono ?_);rintro e w1 ⟨rfl,hb⟩;rw [←HW0.out] at hb;have HT1:=hid (HT0.out.below hb);obtain⟨x0,x1,x2,x3,x4,xz⟩:=five HT1.out.r;clear hb xz)|(go_at_call 70;(with_reducible refine(HPa.out _).mono ?_);rintro e w2 ⟨rfl,hb⟩;have HT2:=hid (HT1.out.below hb);clear x0 x1 x2 x3 x4;obtain⟨x0,x1,x2,x3,x4,xz⟩:=five HT2.out.r;obtain⟨_,_,_,_,_,oz⟩:=five HT2.out.o;have oz0:=oz 0;have oz1:=oz 1;have oz2:=oz 2;have oz3:=oz 3;have oz4:=oz 4;clear hb xz oz)|(go_at_call 125;(with_reducible refine(HQu.out _).mono ?_);rintro e w3 ⟨rfl,hb⟩;have HT3:=hid (HT2.out.below hb);clear x0 x1 x2 x3 x4 oz0 oz1 oz2 oz3 oz4;obtain⟨x0,x1,x2,x3,x4,xz⟩:=five HT3.out.r;have xz2:=xz 2;have xz3:=xz 3;have xz4:=xz 4;obtain⟨y0,y1,y2,y3,y4,oz⟩:=five HT3.out.o;have oz0:=oz 0;have oz1:=oz 1;have oz2:=oz 2;have oz3:=oz 3;have oz4:=oz 4;clear hb xz oz))
   (try simp only [Exit.inBlock,Exit.then])
   refine bodyPost_ret (results_tgtmp rfl _ _ _ 111 _ (0,0) rfl (five_put (has_five HT3.out.o) _ _ _ _ _) rfl) rfl ?_;rw [HV.out];exact⟨rfl,HT3.out.out _ _ _ _ _⟩
  |true=>
   have HV:=hid (show behindB f h s=(⟨f,h,P,Q,K⟩,0) from by rw [HBe.out,if_neg (by rw [hp,hq];simp)]);rw [hq] at HQu;clear hp hq;go_enter Tryz.func82,Tryz.ntmps82;go_wp2_with (first|(go_at_call 124;(with_reducible refine(HCu.out _).mono ?_);rintro e w1 ⟨rfl,hb⟩;rw [←HW0.out] at hb;have HT1:=hid (HT0.out.below hb);obtain⟨x0,x1,x2,x3,x4,xz⟩:=five HT1.out.r;clear hb xz)|(go_at_call 70;(with_reducible refine(HPa.out _).mono ?_);rintro e w2 ⟨rfl,hb⟩;have HT2:=hid (HT1.out.below hb);clear x0 x1 x2 x3 x4;obtain⟨x0,x1,x2,x3,x4,xz⟩:=five HT2.out.r;obtain⟨_,_,_,_,_,oz⟩:=five HT2.out.o;have oz0:=oz 0;have oz1:=oz 1;have oz2:=oz 2;have oz3:=oz 3;have oz4:=oz 4;clear hb xz oz)|(go_at_call 125;(with_reducible refine(HQu.out _).mono ?_);rintro e w3 ⟨rfl,hb⟩;have HT3:=hid (HT2.out.below hb);clear x0 x1 x2 x3 x4 oz0 oz1 oz2 oz3 oz4;obtain⟨x0,x1,x2,x3,x4,xz⟩:=five HT3.out.r;have xz2:=xz 2;have xz3:=xz 3;have xz4:=xz 4;obtain⟨y0,y1,y2,y3,y4,oz⟩:=five HT3.out.o;have oz0:=oz 0;have oz1:=oz 1;have oz2:=oz 2;have oz3:=oz 3;have oz4:=oz 4;clear hb xz oz))
   (try simp only [Exit.inBlock,Exit.then])
   refine bodyPost_ret (results_tgtmp rfl _ _ _ 111 _ (0,0) rfl (five_put (has_five (HT3.out.store _ _ _).o) _ _ _ _ _) rfl) rfl ?_;rw [HV.out];exact⟨rfl,(HT3.out.store _ _ _).out _ _ _ _ _⟩
end Go.Proofs.YtlmlljlappjjjaaGreatDoor
