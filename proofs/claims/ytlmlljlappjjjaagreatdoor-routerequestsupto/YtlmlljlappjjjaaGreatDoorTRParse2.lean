/- The document's parts of every target. -/
import Derived.Test.YtlmlljlappjjjaaGreatDoorQLawful
namespace Go.Proofs.YtlmlljlappjjjaaGreatDoor
set_option maxRecDepth 20000
set_option maxHeartbeats 8000000
open Go.RowKit
theorem rparse_slash (s:B) (l:B) (hl:s=47::l) (hs:s.length≤65536) (w:World):Calls Tryz.prog 46 #[.string (str s)] w fun e w'=>e= .returned (.tuple #[tgV (parseT s).1,.int .i64 ((parseT s).2:Int)])∧Below w.heap.size w w':=by
 have HT0:=hid (PW.start (w:=w) rfl);obtain⟨_,_,_,_,_,nz⟩:=five HT0.out.o;have nz0:=nz 0;have nz1:=nz 1;have nz2:=nz 2;have nz3:=nz 3;have nz4:=nz 4;clear nz;obtain⟨S,hS⟩:∃ S,str s=S:=⟨_,rfl⟩;have hdec:decide ((65536:Int)<(S.size:Int))=false:=by rw [←hS,str_size];exact decide_eq_false (by omega)
 have hst:s≠ [42]:=by rw [hl];simp
 have hne:(S.toList== (⟨#[42]⟩:ByteArray).toList)=false:=by rw [←hS];exact ne_list (str_ne (b:=[42]) hst)
 have hne2:(S.toList== [42])=false:=by
  rw [Lib.toList_data (⟨#[42]⟩:ByteArray)] at hne;exact hne
 have hSz:¬S=⟨#[42]⟩:=by rw [←hS];exact str_ne (b:=[42]) hst
 have hq:S.toList.isEmpty=false:=by rw [←hS];exact ne_empty (str_ne (b:=[]) (by rw [hl];simp))
 have hq2:(S.toList== (⟨#[]⟩:ByteArray).toList)=false:=by rw [←hS];exact ne_list (str_ne (b:=[]) (by rw [hl];simp))
 have hq3:¬S=⟨#[]⟩:=by rw [←hS];exact str_ne (b:=[]) (by rw [hl];simp)
 have hb0:∀ h:0<S.size,(S[0]'h).toNat=47:=fun h=>by subst hS;subst hl;rfl
 have hpos:0<S.size:=by rw [←hS,str_size,hl];simp
 have HBe0:=hid (rbehind_any 1 (.inl rfl) [] s (by omega));have HV:=hid (show parseT s=behindB 1 [] s from by unfold parseT;rw [if_neg (by omega),if_neg hst,if_pos (by rw [hl];rfl)]);rw [HV.out];obtain⟨⟨⟨a0,a1,a2,a3,a4⟩,ak⟩,hR⟩:∃ R,behindB 1 [] s=R:=⟨_,rfl⟩;rw [hR] at HBe0 ⊢;rw [hS] at HBe0 ⊢;obtain⟨c1,hc1⟩:∃ c1,str a1=c1:=⟨_,rfl⟩;obtain⟨c2,hc2⟩:∃ c2,str a2=c2:=⟨_,rfl⟩;obtain⟨c3,hc3⟩:∃ c3,str a3=c3:=⟨_,rfl⟩;have HBe:=hid (show ∀ w,Calls Tryz.prog 82 #[.agg #[.int .i64 1,.string ⟨#[]⟩,.string ⟨#[]⟩,.string ⟨#[]⟩,.bool false],.string S] w fun e w'=>e= .returned (.tuple #[.agg #[.int .i64 a0,.string c1,.string c2,.string c3,.bool a4],.int .i64 (ak:Int)])∧Below w.heap.size w w' from by rw [←hc1,←hc2,←hc3];exact HBe0.out);unfold tgV;dsimp only;rw [hc1,hc2,hc3];clear hR HBe0 hs hl hst hS hc1 hc2 hc3;go_enter Tryz.func46,Tryz.ntmps46;go_wp2_with (go_at_call 82;(with_reducible refine(HBe.out _).mono ?_);rintro e w1 ⟨rfl,hb⟩;have HT1:=hid (HT0.out.below hb);clear hb;obtain⟨_,_,_,_,_,oz⟩:=five HT1.out.o;have oz0:=oz 0;have oz1:=oz 1;have oz2:=oz 2;have oz3:=oz 3;have oz4:=oz 4;clear oz)
 (try simp only [Exit.inBlock,Exit.then])
 refine bodyPost_ret (results_tgtmp rfl _ _ _ 111 _ (0,0) rfl (five_put (has_five HT1.out.o) _ _ _ _ _) rfl) rfl ?_;exact⟨rfl,HT1.out.out _ _ _ _ _⟩
theorem small_ne {a:B} (h:smallB a≠httpB) {T:ByteArray} (hT:str (smallB a)=T):(T.toList== (⟨#[104,116,116,112,58,47,47]⟩:ByteArray).toList)=false:=by
 rw [←hT];exact ne_list (str_ne (b:=httpB) h)
theorem rparse_none (s:B) (h0:s= []) (hs:s.length≤65536) (w:World):Calls Tryz.prog 46 #[.string (str s)] w fun e w'=>e= .returned (.tuple #[tgV (parseT s).1,.int .i64 ((parseT s).2:Int)])∧Below w.heap.size w w':=by
 have HT0:=hid (PW.start (w:=w) rfl);obtain⟨_,_,_,_,_,nz⟩:=five HT0.out.o;have nz0:=nz 0;have nz1:=nz 1;have nz2:=nz 2;have nz3:=nz 3;have nz4:=nz 4;clear nz;obtain⟨S,hS⟩:∃ S,str s=S:=⟨_,rfl⟩;have hdec:decide ((65536:Int)<(S.size:Int))=false:=by rw [←hS,str_size];exact decide_eq_false (by omega)
 have HV:=hid (show parseT s=(TG.zero,23) from by rw [h0];decide);rw [HV.out];subst h0;obtain rfl:S=⟨#[]⟩:=hS.symm;rw [hS];clear hS;go_enter Tryz.func46,Tryz.ntmps46;go_wp2
 (try simp only [Exit.inBlock,Exit.then])
 refine bodyPost_ret (results_tgtmp rfl _ _ _ 111 _ (0,0) rfl (heap_alloc_new w _) rfl) rfl ?_;exact⟨rfl,below_new _ _⟩
theorem rparse_short (s:B) (hnil:s≠ []) (hst:s≠ [42]) (h47:¬s.head? =some 47) (hs:s.length≤65536) (h7:s.length<7) (w:World):Calls Tryz.prog 46 #[.string (str s)] w fun e w'=>e= .returned (.tuple #[tgV (parseT s).1,.int .i64 ((parseT s).2:Int)])∧Below w.heap.size w w':=by
 have HT0:=hid (PW.start (w:=w) rfl);obtain⟨_,_,_,_,_,nz⟩:=five HT0.out.o;have nz0:=nz 0;have nz1:=nz 1;have nz2:=nz 2;have nz3:=nz 3;have nz4:=nz 4;clear nz;obtain⟨S,hS⟩:∃ S,str s=S:=⟨_,rfl⟩;have hdec:decide ((65536:Int)<(S.size:Int))=false:=by rw [←hS,str_size];exact decide_eq_false (by omega)
 have hne:(S.toList== (⟨#[42]⟩:ByteArray).toList)=false:=by rw [←hS];exact ne_list (str_ne (b:=[42]) hst)
 have hne2:(S.toList== [42])=false:=by
  rw [Lib.toList_data (⟨#[42]⟩:ByteArray)] at hne;exact hne
 have hSz:¬S=⟨#[42]⟩:=by rw [←hS];exact str_ne (b:=[42]) hst
 obtain⟨y,l,hl⟩:∃ y l,s=y::l:=by
  cases s with
  |nil=>exact absurd rfl hnil
  |cons y l=>exact⟨y,l,rfl⟩
 have hy47:y≠47:=fun e=>h47 (by rw [hl,e];rfl)
 have z1:¬(y.toNat:Int)=47:=fun e=>hy47 (UInt8.toNat_inj.1 (by show y.toNat=47;omega))
 have z2:((y.toNat:Int)== 47)=false:=by simpa using z1
 have hb0:∀ h:0<S.size,(S[0]'h).toNat=y.toNat:=fun h=>by subst hS;subst hl;rfl
 have hpos:0<S.size:=by rw [←hS,str_size,hl];simp
 have hq:S.toList.isEmpty=false:=by rw [←hS];exact ne_empty (str_ne (b:=[]) hnil)
 have hq2:(S.toList== (⟨#[]⟩:ByteArray).toList)=false:=by rw [←hS];exact ne_list (str_ne (b:=[]) hnil)
 have hq3:¬S=⟨#[]⟩:=by rw [←hS];exact str_ne (b:=[]) hnil
 have HV:=hid (show parseT s=(TG.zero,23) from by unfold parseT;rw [if_neg (by omega),if_neg hst,if_neg h47,if_pos (.inl h7)]);rw [HV.out];have h7i:((S.size:Nat):Int)<7:=by rw [←hS,str_size];omega
 rw [hS];clear hs hst h47 h7 hS hl hnil hy47;go_enter Tryz.func46,Tryz.ntmps46;go_wp2
 (try simp only [Exit.inBlock,Exit.then])
 refine bodyPost_ret (results_tgtmp rfl _ _ _ 111 _ (0,0) rfl (heap_alloc_new w _) rfl) rfl ?_;exact⟨rfl,below_new _ _⟩
theorem rparse_other (s:B) (hnil:s≠ []) (hst:s≠ [42]) (h47:¬s.head? =some 47) (hs:s.length≤65536) (h7:¬s.length<7) (hsm:smallB (s.take 7)≠httpB) (w:World):Calls Tryz.prog 46 #[.string (str s)] w fun e w'=>e= .returned (.tuple #[tgV (parseT s).1,.int .i64 ((parseT s).2:Int)])∧Below w.heap.size w w':=by
 have HT0:=hid (PW.start (w:=w) rfl);obtain⟨_,_,_,_,_,nz⟩:=five HT0.out.o;have nz0:=nz 0;have nz1:=nz 1;have nz2:=nz 2;have nz3:=nz 3;have nz4:=nz 4;clear nz;obtain⟨S,hS⟩:∃ S,str s=S:=⟨_,rfl⟩;have hdec:decide ((65536:Int)<(S.size:Int))=false:=by rw [←hS,str_size];exact decide_eq_false (by omega)
 have hne:(S.toList== (⟨#[42]⟩:ByteArray).toList)=false:=by rw [←hS];exact ne_list (str_ne (b:=[42]) hst)
 have hne2:(S.toList== [42])=false:=by
  rw [Lib.toList_data (⟨#[42]⟩:ByteArray)] at hne;exact hne
 have hSz:¬S=⟨#[42]⟩:=by rw [←hS];exact str_ne (b:=[42]) hst
 obtain⟨y,l,hl⟩:∃ y l,s=y::l:=by
  cases s with
  |nil=>exact absurd rfl hnil
  |cons y l=>exact⟨y,l,rfl⟩
 have hy47:y≠47:=fun e=>h47 (by rw [hl,e];rfl)
 have z1:¬(y.toNat:Int)=47:=fun e=>hy47 (UInt8.toNat_inj.1 (by show y.toNat=47;omega))
 have z2:((y.toNat:Int)== 47)=false:=by simpa using z1
 have hb0:∀ h:0<S.size,(S[0]'h).toNat=y.toNat:=fun h=>by subst hS;subst hl;rfl
 have hpos:0<S.size:=by rw [←hS,str_size,hl];simp
 have hq:S.toList.isEmpty=false:=by rw [←hS];exact ne_empty (str_ne (b:=[]) hnil)
 have hq2:(S.toList== (⟨#[]⟩:ByteArray).toList)=false:=by rw [←hS];exact ne_list (str_ne (b:=[]) hnil)
 have hq3:¬S=⟨#[]⟩:=by rw [←hS];exact str_ne (b:=[]) hnil
 obtain⟨n,hn⟩:∃ n,s.length=n:=⟨_,rfl⟩;have hSn:S.size=n:=by rw [←hS,str_size,hn]
 have hn7:7≤n:=by omega
 have hn16:n≤1048576:=by omega
 have h7i:¬(n:Int)<7:=by omega
 rw [hSn] at hdec;have hx7:S.extract 0 7=str (s.take 7):=by rw [←hS,take_ext]
 have HSm:=hid (rsmall_any (s.take 7) (by rw [List.length_take];omega));obtain⟨S7,hS7⟩:∃ S7,str (s.take 7)=S7:=⟨_,rfl⟩;obtain⟨T7,hT7⟩:∃ T7,str (smallB (s.take 7))=T7:=⟨_,rfl⟩;rw [hS7] at hx7 HSm;rw [hT7] at HSm;have hT:=small_ne hsm hT7;have hT2:(T7.toList== [104,116,116,112,58,47,47])=false:=by
  rw [Lib.toList_data (⟨#[104,116,116,112,58,47,47]⟩:ByteArray)] at hT;exact hT
 have HV:=hid (show parseT s=(TG.zero,23) from by unfold parseT;rw [if_neg (by omega),if_neg hst,if_neg h47,if_pos (.inr hsm)]);rw [HV.out,hS];clear hs hst h47 h7 hS hl hnil hy47 hn hS7 hT7 hsm;go_enter Tryz.func46,Tryz.ntmps46;go_wp2_with (go_at_call 83;(with_reducible refine(HSm.out _).mono ?_);rintro e w1 ⟨rfl,hb⟩;have HT1:=hid (HT0.out.below hb);clear hb;obtain⟨_,_,_,_,_,oz⟩:=five HT1.out.o;have oz0:=oz 0;have oz1:=oz 1;have oz2:=oz 2;have oz3:=oz 3;have oz4:=oz 4;clear oz)
 (try simp only [Exit.inBlock,Exit.then])
 refine bodyPost_ret (results_tgtmp rfl _ _ _ 111 _ (0,0) rfl (five_put (has_five HT1.out.o) _ _ _ _ _) rfl) rfl ?_;exact⟨rfl,HT1.out.out _ _ _ _ _⟩
theorem rparse_host (s:B) (hnil:s≠ []) (hst:s≠ [42]) (h47:¬s.head? =some 47) (hs:s.length≤65536) (h7:¬s.length<7) (hsm:smallB (s.take 7)=httpB) (w:World):Calls Tryz.prog 46 #[.string (str s)] w fun e w'=>e= .returned (.tuple #[tgV (parseT s).1,.int .i64 ((parseT s).2:Int)])∧Below w.heap.size w w':=by
 have HT0:=hid (PW.start (w:=w) rfl);obtain⟨_,_,_,_,_,nz⟩:=five HT0.out.o;have nz0:=nz 0;have nz1:=nz 1;have nz2:=nz 2;have nz3:=nz 3;have nz4:=nz 4;clear nz;obtain⟨S,hS⟩:∃ S,str s=S:=⟨_,rfl⟩;have hdec:decide ((65536:Int)<(S.size:Int))=false:=by rw [←hS,str_size];exact decide_eq_false (by omega)
 have hne:(S.toList== (⟨#[42]⟩:ByteArray).toList)=false:=by rw [←hS];exact ne_list (str_ne (b:=[42]) hst)
 have hne2:(S.toList== [42])=false:=by
  rw [Lib.toList_data (⟨#[42]⟩:ByteArray)] at hne;exact hne
 have hSz:¬S=⟨#[42]⟩:=by rw [←hS];exact str_ne (b:=[42]) hst
 obtain⟨y,l,hl⟩:∃ y l,s=y::l:=by
  cases s with
  |nil=>exact absurd rfl hnil
  |cons y l=>exact⟨y,l,rfl⟩
 have hy47:y≠47:=fun e=>h47 (by rw [hl,e];rfl)
 have z1:¬(y.toNat:Int)=47:=fun e=>hy47 (UInt8.toNat_inj.1 (by show y.toNat=47;omega))
 have z2:((y.toNat:Int)== 47)=false:=by simpa using z1
 have hb0:∀ h:0<S.size,(S[0]'h).toNat=y.toNat:=fun h=>by subst hS;subst hl;rfl
 have hpos:0<S.size:=by rw [←hS,str_size,hl];simp
 have hq:S.toList.isEmpty=false:=by rw [←hS];exact ne_empty (str_ne (b:=[]) hnil)
 have hq2:(S.toList== (⟨#[]⟩:ByteArray).toList)=false:=by rw [←hS];exact ne_list (str_ne (b:=[]) hnil)
 have hq3:¬S=⟨#[]⟩:=by rw [←hS];exact str_ne (b:=[]) hnil
 obtain⟨n,hn⟩:∃ n,s.length=n:=⟨_,rfl⟩;have hSn:S.size=n:=by rw [←hS,str_size,hn]
 have hn7:7≤n:=by omega
 have hn16:n≤1048576:=by omega
 have h7i:¬(n:Int)<7:=by omega
 rw [hSn] at hdec;have hx7:S.extract 0 7=str (s.take 7):=by rw [←hS,take_ext]
 have HSm:=hid (rsmall_any (s.take 7) (by rw [List.length_take];omega));obtain⟨S7,hS7⟩:∃ S7,str (s.take 7)=S7:=⟨_,rfl⟩;obtain⟨T7,hT7⟩:∃ T7,str (smallB (s.take 7))=T7:=⟨_,rfl⟩;rw [hS7] at hx7 HSm;rw [hT7] at HSm;obtain rfl:T7=⟨#[104,116,116,112,58,47,47]⟩:=by rw [←hT7,hsm];rfl
 have hxd:S.extract 7 n=str (s.drop 7):=by rw [←hS,ext_drop s 7 n hn]
 have HPh0:=hid (show parseT s=if ((s.drop 7).takeWhile hostB).length<1∨255<((s.drop 7).takeWhile hostB).length then (TG.zero,23) else behindB 2 (smallB ((s.drop 7).takeWhile hostB)) ((s.drop 7).dropWhile hostB) from by unfold parseT;rw [if_neg (by omega),if_neg hst,if_neg h47,if_neg (by rintro (q|q);exact h7 q;exact q hsm)]);obtain⟨u,hu⟩:∃ u,s.drop 7=u:=⟨_,rfl⟩;have HPh:=HPh0;rw [hu] at HPh hxd;obtain⟨m,hm⟩:∃ m,u.length=m:=⟨_,rfl⟩;have HM:=hid hm;have hmn:m≤1048576:=by rw [←hm,←hu,List.length_drop];omega
 obtain⟨U,hU⟩:∃ U,str u=U:=⟨_,rfl⟩;rw [hU] at hxd;have hUm:U.size=m:=by rw [←hU,str_size,hm]
 have HExU:=hid (show ∀ f k,U.extract f k=str ((u.drop f).take (k-f)) from fun f k=>by rw [←hU];exact ext_str u f k);have HByU:=hid (show ∀ (k:Nat) (y:UInt8) (h2:k<U.size),u[k]?=some y→U[k]'h2=y from fun k y h2 hy=>by
  subst hU;have hk:k<u.length:=(List.getElem?_eq_some_iff.1 hy).1;rw [List.getElem?_eq_getElem hk] at hy;exact Option.some.inj hy)
 rw [hS];clear hs hst h47 h7 hS hl hnil hy47 hn hS7 hT7 hsm hu hm hU HPh0;go_enter Tryz.func46,Tryz.ntmps46;go_wp2_with (go_at_call 83;(with_reducible refine(HSm.out _).mono ?_);rintro e w1 ⟨rfl,hb⟩;have HT1:=hid (HT0.out.below hb);clear hb;obtain⟨_,_,_,_,_,oz⟩:=five HT1.out.o;have oz0:=oz 0;have oz1:=oz 1;have oz2:=oz 2;have oz3:=oz 3;have oz4:=oz 4;clear oz);clear hxd hx7;go_loopg [4] (m+1) (fun gk s4 wr=>∃ k:Nat,k≤m∧gk=m-k+1∧s4= .int .i64 (k:Int)∧(∀ y∈u.take k,hostB y=true)∧wr=w1)
 case atStart=>exact⟨0,by omega,rfl,rfl,fun y hy=>by simp at hy,rfl⟩
 case round=>
  obtain⟨k,hk,rfl,rfl,hal,hwr⟩:=hrel;subst wr;have HAl:=hid hal;clear hal;by_cases hin:k<m
  · obtain⟨y,hy⟩:∃ y,u[k]?=some y:=⟨_,List.getElem?_eq_getElem (by rw [HM.out];exact hin)⟩;have hby:∀ h:k<U.size,U[k]'h=y:=fun h=>HByU.out k y h hy
    have HLt:=hid (letter_any_t y);have HAm:=hid (among_any y [45,46,95,58] (by decide));have HTk:=hid (show ∀ z∈u.take (k+1),z∈u.take k∨z=y from fun z hz=>by
     rw [List.take_add_one,hy] at hz;rcases List.mem_append.1 hz with h|h
     · exact .inl h
     · exact .inr (by simpa using h))
    have HHo:=hid (show hostB y=(letterB y || ([45,46,95,58]:B).contains y) from rfl);cases hlb:letterB y with
    |true=>
     rw [hlb] at HLt HHo;have HNx:=hid (show ∀ z∈u.take (k+1),hostB z=true from fun z hz=>by
      rcases HTk.out z hz with h|h
      · exact HAl.out z h
      · rw [h,HHo.out];rfl)
     clear hy hlb;go_wp2_with (go_at_call 84;(with_reducible refine(HLt.out _).mono ?_);rintro e w2 ⟨rfl,hw2⟩;subst w2);go_roundg (m-(k+1)+1)
     case measure=>omega
     case rel=>exact⟨k+1,by omega,rfl,by go_num,HNx.out,rfl⟩
    |false=>
     rw [hlb] at HLt HHo;cases hab:([45,46,95,58]:B).contains y with
     |true=>
      rw [hab] at HAm HHo;have HNx:=hid (show ∀ z∈u.take (k+1),hostB z=true from fun z hz=>by
       rcases HTk.out z hz with h|h
       · exact HAl.out z h
       · rw [h,HHo.out];rfl)
      clear hy hlb hab;go_wp2_with (first|(go_at_call 84;(with_reducible refine(HLt.out _).mono ?_);rintro e w2 ⟨rfl,hw2⟩;subst w2)|(go_at_call 85;(with_reducible refine(HAm.out _).mono ?_);rintro e w2 ⟨rfl,hw2⟩;subst w2));go_roundg (m-(k+1)+1)
      case measure=>omega
      case rel=>exact⟨k+1,by omega,rfl,by go_num,HNx.out,rfl⟩
     |false=>
      rw [hab] at HAm HHo;have hend:u.length≤k∨∃ z,u[k]?=some z∧hostB z=false:=.inr ⟨y,hy,HHo.out⟩;clear hy hlb hab;obtain⟨htw,hdw⟩:=tw_gen (p:=hostB) (l:=u) (m:=k) HAl.out hend;have hkl:(u.takeWhile hostB).length=k:=by rw [htw,List.length_take,HM.out];omega
      have HP2:=hid (show parseT s=if k<1∨255<k then (TG.zero,23) else behindB 2 (smallB (u.take k)) (u.drop k) from by rw [HPh.out,hkl,htw,hdw]);have hx3:U.extract 0 k=str (u.take k):=by rw [HExU.out];simp
      have hx4:U.extract k m=str (u.drop k):=by
       rw [HExU.out];congr 2;exact List.take_of_length_le (by rw [List.length_drop,HM.out];exact Nat.le_refl _)
      clear htw hdw hkl hend;by_cases hk1:k<1
      · have HV:=hid (show parseT s=(TG.zero,23) from by rw [HP2.out,if_pos (.inl hk1)]);have hk1i:(k:Int)<1:=by omega
        clear hx3 hx4;go_wp2_with (first|(go_at_call 84;(with_reducible refine(HLt.out _).mono ?_);rintro e w2 ⟨rfl,hw2⟩;subst w2)|(go_at_call 85;(with_reducible refine(HAm.out _).mono ?_);rintro e w2 ⟨rfl,hw2⟩;subst w2))
        (try simp only [Exit.inBlock,Exit.then])
        refine bodyPost_ret (results_tgtmp rfl _ _ _ 111 _ (0,0) rfl (five_put (has_five HT1.out.o) _ _ _ _ _) rfl) rfl ?_;rw [HV.out];exact⟨rfl,HT1.out.out _ _ _ _ _⟩
      · have hk1i:¬(k:Int)<1:=by omega
        by_cases hk2:255<k
        · have HV:=hid (show parseT s=(TG.zero,23) from by rw [HP2.out,if_pos (.inr hk2)]);have hk2i:(255:Int)<(k:Int):=by omega
          clear hx3 hx4;go_wp2_with (first|(go_at_call 84;(with_reducible refine(HLt.out _).mono ?_);rintro e w2 ⟨rfl,hw2⟩;subst w2)|(go_at_call 85;(with_reducible refine(HAm.out _).mono ?_);rintro e w2 ⟨rfl,hw2⟩;subst w2))
          (try simp only [Exit.inBlock,Exit.then])
          refine bodyPost_ret (results_tgtmp rfl _ _ _ 111 _ (0,0) rfl (five_put (has_five HT1.out.o) _ _ _ _ _) rfl) rfl ?_;rw [HV.out];exact⟨rfl,HT1.out.out _ _ _ _ _⟩
        · have hk2i:¬(255:Int)<(k:Int):=by omega
          have HV:=hid (show parseT s=behindB 2 (smallB (u.take k)) (u.drop k) from by rw [HP2.out,if_neg (by omega)]);have HSh:=hid (rsmall_any (u.take k) (by rw [List.length_take,HM.out];omega));have HBe0:=hid (rbehind_any 2 (.inr rfl) (smallB (u.take k)) (u.drop k) (by rw [List.length_drop,HM.out];omega));obtain⟨⟨⟨a0,a1,a2,a3,a4⟩,ak⟩,hR⟩:∃ R,behindB 2 (smallB (u.take k)) (u.drop k)=R:=⟨_,rfl⟩;rw [hR] at HBe0 HV;obtain⟨sh,hsh⟩:∃ sh,str (smallB (u.take k))=sh:=⟨_,rfl⟩;obtain⟨U1,hU1⟩:∃ U1,str (u.take k)=U1:=⟨_,rfl⟩;obtain⟨U2,hU2⟩:∃ U2,str (u.drop k)=U2:=⟨_,rfl⟩;obtain⟨c1,hc1⟩:∃ c1,str a1=c1:=⟨_,rfl⟩;obtain⟨c2,hc2⟩:∃ c2,str a2=c2:=⟨_,rfl⟩;obtain⟨c3,hc3⟩:∃ c3,str a3=c3:=⟨_,rfl⟩;have HBe:=hid (show ∀ w,Calls Tryz.prog 82 #[.agg #[.int .i64 2,.string sh,.string ⟨#[]⟩,.string ⟨#[]⟩,.bool false],.string U2] w fun e w'=>e= .returned (.tuple #[.agg #[.int .i64 a0,.string c1,.string c2,.string c3,.bool a4],.int .i64 (ak:Int)])∧Below w.heap.size w w' from by rw [←hsh,←hU2,←hc1,←hc2,←hc3];exact HBe0.out);rw [hsh,hU1] at HSh;rw [hU1] at hx3;rw [hU2] at hx4;have HC1:=hid hc1;have HC2:=hid hc2;have HC3:=hid hc3;have hkm:(0:Int)≤(k:Int)∧(k:Int)≤(m:Int):=by omega
          clear hR hsh HBe0 hU1 hU2 hc1 hc2 hc3 oz0 oz1 oz2 oz3 oz4;go_wp2_with (first|(go_at_call 84;(with_reducible refine(HLt.out _).mono ?_);rintro e w2 ⟨rfl,hw2⟩;subst w2)|(go_at_call 85;(with_reducible refine(HAm.out _).mono ?_);rintro e w2 ⟨rfl,hw2⟩;subst w2));refine wp_region_noPanic ?_;refine any_begin 13 (by kernel_rfl) (by kernel_rfl) ?_;refine atk (i:=0) (some 65) rfl rfl (v:= ?v0x) ?hy0x ?rest0x
          case hy0x=>intro w0;go_simp;try with_reducible rfl
          simp only [Act.put,sA,sB,sC];refine atk (i:=1) (some 66) rfl rfl (v:= ?v1x) ?hy1x ?rest1x
          case hy1x=>intro w0;go_simp;try with_reducible rfl
          simp only [Act.put,sA,sB,sC];refine atk (i:=2) (some 67) rfl rfl (v:= ?v2x) ?hy2x ?rest2x
          case hy2x=>intro w0;go_simp;try with_reducible rfl
          simp only [Act.put,sA,sB,sC];refine atk (i:=5) (some 70) rfl rfl (v:= ?v5x) ?hy5x ?rest5x
          case hy5x=>intro w0;go_simp;try with_reducible rfl
          simp only [Act.put,sA,sB,sC];refine atk (i:=6) (some 71) rfl rfl (v:= ?v6x) ?hy6x ?rest6x
          case hy6x=>intro w0;go_simp;try with_reducible rfl
          simp only [Act.put,sA,sB,sC];refine atk (i:=7) (some 72) rfl rfl (v:= ?v7x) ?hy7x ?rest7x
          case hy7x=>intro w0;go_simp;try with_reducible rfl
          simp only [Act.put,sA,sB,sC];refine any_one (i:=3) (by kernel_rfl) rfl (fun K hK=>?_);go_simp;go_at_call 83;refine(HSh.out _).mono ?_;rintro e w3 ⟨rfl,hb3⟩;have HT3:=hid (HT1.out.drew.below hb3);clear hb3;refine hK _ _ ?_;clear hK K;refine atk (i:=4) (some 69) rfl rfl (v:= ?v4x) ?hy4x ?rest4x
          case hy4x=>intro w0;go_simp;try with_reducible rfl
          simp only [Act.put,sA,sB,sC];refine any_one (i:=8) (by kernel_rfl) rfl (fun K hK=>?_);go_simp;go_at_call 82;refine(HBe.out _).mono ?_;rintro e w4 ⟨rfl,hb4⟩;have HT4:=hid (HT3.out.below hb4);obtain⟨_,_,_,_,_,pz⟩:=five HT4.out.o;have pz0:=pz 0;have pz1:=pz 1;have pz2:=pz 2;have pz3:=pz 3;have pz4:=pz 4;clear hb4 pz;refine hK _ _ ?_;clear hK K;refine atk (i:=9) (some 74) rfl rfl (v:= ?v9x) ?hy9x ?rest9x
          case hy9x=>intro w0;go_simp;try with_reducible rfl
          simp only [Act.put,sA,sB,sC];refine atk (i:=10) (some 75) rfl rfl (v:= ?v10x) ?hy10x ?rest10x
          case hy10x=>intro w0;go_simp;try with_reducible rfl
          simp only [Act.put,sA,sB,sC];refine any_one (i:=11) (by kernel_rfl) rfl (fun K hK=>?_);go_simp;refine hK _ _ ?_;clear hK K;refine atk (i:=12) (some 3) rfl rfl (v:= ?v12x) ?hy12x ?rest12x
          case hy12x=>intro w0;go_simp;try with_reducible rfl
          simp only [Act.put,sA,sB,sC];refine any_done (by kernel_rfl) ?_ _;refine NoPanic.normal ?_;go_wp2
          (try simp only [Exit.inBlock,Exit.then])
          refine bodyPost_ret (results_tgtmp rfl _ _ _ 111 _ (0,0) rfl (five_put (has_five HT4.out.o) _ _ _ _ _) rfl) rfl ?_;rw [HV.out,←HC1.out,←HC2.out,←HC3.out];exact⟨rfl,HT4.out.out _ _ _ _ _⟩
  · have hend:u.length≤k∨∃ z,u[k]?=some z∧hostB z=false:=.inl (by rw [HM.out];omega);have hini:¬(k:Int)<(m:Int):=by omega
    obtain⟨htw,hdw⟩:=tw_gen (p:=hostB) (l:=u) (m:=k) HAl.out hend;have hkl:(u.takeWhile hostB).length=k:=by rw [htw,List.length_take,HM.out];omega
    have HP2:=hid (show parseT s=if k<1∨255<k then (TG.zero,23) else behindB 2 (smallB (u.take k)) (u.drop k) from by rw [HPh.out,hkl,htw,hdw]);have hx3:U.extract 0 k=str (u.take k):=by rw [HExU.out];simp
    have hx4:U.extract k m=str (u.drop k):=by
     rw [HExU.out];congr 2;exact List.take_of_length_le (by rw [List.length_drop,HM.out];exact Nat.le_refl _)
    clear htw hdw hkl hend;by_cases hk1:k<1
    · have HV:=hid (show parseT s=(TG.zero,23) from by rw [HP2.out,if_pos (.inl hk1)]);have hk1i:(k:Int)<1:=by omega
      clear hx3 hx4;go_wp2
      (try simp only [Exit.inBlock,Exit.then])
      refine bodyPost_ret (results_tgtmp rfl _ _ _ 111 _ (0,0) rfl (five_put (has_five HT1.out.o) _ _ _ _ _) rfl) rfl ?_;rw [HV.out];exact⟨rfl,HT1.out.out _ _ _ _ _⟩
    · have hk1i:¬(k:Int)<1:=by omega
      by_cases hk2:255<k
      · have HV:=hid (show parseT s=(TG.zero,23) from by rw [HP2.out,if_pos (.inr hk2)]);have hk2i:(255:Int)<(k:Int):=by omega
        clear hx3 hx4;go_wp2
        (try simp only [Exit.inBlock,Exit.then])
        refine bodyPost_ret (results_tgtmp rfl _ _ _ 111 _ (0,0) rfl (five_put (has_five HT1.out.o) _ _ _ _ _) rfl) rfl ?_;rw [HV.out];exact⟨rfl,HT1.out.out _ _ _ _ _⟩
      · have hk2i:¬(255:Int)<(k:Int):=by omega
        have HV:=hid (show parseT s=behindB 2 (smallB (u.take k)) (u.drop k) from by rw [HP2.out,if_neg (by omega)]);have HSh:=hid (rsmall_any (u.take k) (by rw [List.length_take,HM.out];omega));have HBe0:=hid (rbehind_any 2 (.inr rfl) (smallB (u.take k)) (u.drop k) (by rw [List.length_drop,HM.out];omega));obtain⟨⟨⟨a0,a1,a2,a3,a4⟩,ak⟩,hR⟩:∃ R,behindB 2 (smallB (u.take k)) (u.drop k)=R:=⟨_,rfl⟩;rw [hR] at HBe0 HV;obtain⟨sh,hsh⟩:∃ sh,str (smallB (u.take k))=sh:=⟨_,rfl⟩;obtain⟨U1,hU1⟩:∃ U1,str (u.take k)=U1:=⟨_,rfl⟩;obtain⟨U2,hU2⟩:∃ U2,str (u.drop k)=U2:=⟨_,rfl⟩;obtain⟨c1,hc1⟩:∃ c1,str a1=c1:=⟨_,rfl⟩;obtain⟨c2,hc2⟩:∃ c2,str a2=c2:=⟨_,rfl⟩;obtain⟨c3,hc3⟩:∃ c3,str a3=c3:=⟨_,rfl⟩;have HBe:=hid (show ∀ w,Calls Tryz.prog 82 #[.agg #[.int .i64 2,.string sh,.string ⟨#[]⟩,.string ⟨#[]⟩,.bool false],.string U2] w fun e w'=>e= .returned (.tuple #[.agg #[.int .i64 a0,.string c1,.string c2,.string c3,.bool a4],.int .i64 (ak:Int)])∧Below w.heap.size w w' from by rw [←hsh,←hU2,←hc1,←hc2,←hc3];exact HBe0.out);rw [hsh,hU1] at HSh;rw [hU1] at hx3;rw [hU2] at hx4;have HC1:=hid hc1;have HC2:=hid hc2;have HC3:=hid hc3;have hkm:(0:Int)≤(k:Int)∧(k:Int)≤(m:Int):=by omega
        clear hR hsh HBe0 hU1 hU2 hc1 hc2 hc3 oz0 oz1 oz2 oz3 oz4;go_wp2;refine wp_region_noPanic ?_;refine any_begin 13 (by kernel_rfl) (by kernel_rfl) ?_;refine atk (i:=0) (some 65) rfl rfl (v:= ?v0z) ?hy0z ?rest0z
        case hy0z=>intro w0;go_simp;try with_reducible rfl
        simp only [Act.put,sA,sB,sC];refine atk (i:=1) (some 66) rfl rfl (v:= ?v1z) ?hy1z ?rest1z
        case hy1z=>intro w0;go_simp;try with_reducible rfl
        simp only [Act.put,sA,sB,sC];refine atk (i:=2) (some 67) rfl rfl (v:= ?v2z) ?hy2z ?rest2z
        case hy2z=>intro w0;go_simp;try with_reducible rfl
        simp only [Act.put,sA,sB,sC];refine atk (i:=5) (some 70) rfl rfl (v:= ?v5z) ?hy5z ?rest5z
        case hy5z=>intro w0;go_simp;try with_reducible rfl
        simp only [Act.put,sA,sB,sC];refine atk (i:=6) (some 71) rfl rfl (v:= ?v6z) ?hy6z ?rest6z
        case hy6z=>intro w0;go_simp;try with_reducible rfl
        simp only [Act.put,sA,sB,sC];refine atk (i:=7) (some 72) rfl rfl (v:= ?v7z) ?hy7z ?rest7z
        case hy7z=>intro w0;go_simp;try with_reducible rfl
        simp only [Act.put,sA,sB,sC];refine any_one (i:=3) (by kernel_rfl) rfl (fun K hK=>?_);go_simp;go_at_call 83;refine(HSh.out _).mono ?_;rintro e w3 ⟨rfl,hb3⟩;have HT3:=hid (HT1.out.drew.below hb3);clear hb3;refine hK _ _ ?_;clear hK K;refine atk (i:=4) (some 69) rfl rfl (v:= ?v4z) ?hy4z ?rest4z
        case hy4z=>intro w0;go_simp;try with_reducible rfl
        simp only [Act.put,sA,sB,sC];refine any_one (i:=8) (by kernel_rfl) rfl (fun K hK=>?_);go_simp;go_at_call 82;refine(HBe.out _).mono ?_;rintro e w4 ⟨rfl,hb4⟩;have HT4:=hid (HT3.out.below hb4);obtain⟨_,_,_,_,_,pz⟩:=five HT4.out.o;have pz0:=pz 0;have pz1:=pz 1;have pz2:=pz 2;have pz3:=pz 3;have pz4:=pz 4;clear hb4 pz;refine hK _ _ ?_;clear hK K;refine atk (i:=9) (some 74) rfl rfl (v:= ?v9z) ?hy9z ?rest9z
        case hy9z=>intro w0;go_simp;try with_reducible rfl
        simp only [Act.put,sA,sB,sC];refine atk (i:=10) (some 75) rfl rfl (v:= ?v10z) ?hy10z ?rest10z
        case hy10z=>intro w0;go_simp;try with_reducible rfl
        simp only [Act.put,sA,sB,sC];refine any_one (i:=11) (by kernel_rfl) rfl (fun K hK=>?_);go_simp;refine hK _ _ ?_;clear hK K;refine atk (i:=12) (some 3) rfl rfl (v:= ?v12z) ?hy12z ?rest12z
        case hy12z=>intro w0;go_simp;try with_reducible rfl
        simp only [Act.put,sA,sB,sC];refine any_done (by kernel_rfl) ?_ _;refine NoPanic.normal ?_;go_wp2
        (try simp only [Exit.inBlock,Exit.then])
        refine bodyPost_ret (results_tgtmp rfl _ _ _ 111 _ (0,0) rfl (five_put (has_five HT4.out.o) _ _ _ _ _) rfl) rfl ?_;rw [HV.out,←HC1.out,←HC2.out,←HC3.out];exact⟨rfl,HT4.out.out _ _ _ _ _⟩
theorem rparse_any (s:B) (hs:s.length≤35184372088832) (w:World):Calls Tryz.prog 46 #[.string (str s)] w fun e w'=>e= .returned (.tuple #[tgV (parseT s).1,.int .i64 ((parseT s).2:Int)])∧Below w.heap.size w w':=by
 by_cases hlong:65536<s.length
 · exact rparse_long s hlong hs w
 · have hl:s.length≤65536:=by omega
   by_cases hst:s= [42]
   · exact rparse_star s hst w
   · by_cases h47:s.head? =some 47
     · cases s with
       |nil=>cases h47
       |cons c l=>
        rw [List.head?_cons,Option.some.injEq] at h47;exact rparse_slash (c::l) l (by rw [h47]) hl w
     · by_cases hnil:s= []
       · exact rparse_none s hnil hl w
       · by_cases h7:s.length<7
         · exact rparse_short s hnil hst h47 hl h7 w
         · by_cases hsm:smallB (s.take 7)=httpB
           · exact rparse_host s hnil hst h47 hl h7 hsm w
           · exact rparse_other s hnil hst h47 hl h7 hsm w
end Go.Proofs.YtlmlljlappjjjaaGreatDoor
