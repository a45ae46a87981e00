/- The document's paths and queries; what stands ahead of a byte and behind it; small letters. -/
import Derived.Test.YtlmlljlappjjjaaGreatDoorTPCode
namespace Go.Proofs.YtlmlljlappjjjaaGreatDoor
set_option maxRecDepth 20000
set_option maxHeartbeats 8000000
open Go.RowKit
theorem rpath_any (s:B) (hs:s.length≤35184372088832) (w:World):Calls Tryz.prog 70 #[.string (str s)] w fun e w'=>e= .returned (.bool (isPath s))∧Below w.heap.size w w':=by
 have HM:=hid (made_any s [47] true hs (by decide));cases s with
 |nil=>
  clear HM hs;rw [show isPath []=false from by decide];go_enter Tryz.func70,Tryz.ntmps70;go_wp2;go_ret;exact⟨rfl,Below.refl _ _⟩
 |cons c l=>
  have hq:=ne_empty (A:=str (c::l)) (str_ne (a:=c::l) (b:=[]) (by simp));have e0:isPath (c::l)=(decide (c=47) && made [47] true (c::l)):=by simp [isPath]
  rw [e0];obtain⟨M,hM⟩:∃ M,made [47] true (c::l)=M:=⟨_,rfl⟩;rw [hM] at HM ⊢;have hsz:0<(str (c::l)).size:=by rw [str_size];simp
  have hb0:∀ h:0<(str (c::l)).size,(str (c::l))[0]'h=c:=fun h=>rfl
  have hs2:(str (c::l)).size≤35184372088832:=by rw [str_size];exact hs
  obtain⟨S,hS⟩:∃ S,str (c::l)=S:=⟨_,rfl⟩;rw [hS] at HM hq hsz hs2 ⊢;have hb1:∀ h:0<S.size,S[0]'h=c:=fun h=>by subst hS;exact hb0 h
  clear hS hb0 e0 hM hs;by_cases hc:c=47
  · subst hc;go_enter Tryz.func70,Tryz.ntmps70;go_wp2_with (go_at_call 112;(with_reducible refine(HM.out _).mono ?_);rintro e w1 ⟨rfl,hb⟩;have HB:=hid hb;clear hb);go_ret;exact⟨by simp,HB.out⟩
  · have z1:¬(c.toNat:Int)=47:=fun e=>hc (UInt8.toNat_inj.1 (by show c.toNat=47;omega))
    have z2:((c.toNat:Int)== 47)=false:=by simpa using z1
    have HV:=hid (show (decide (c=47) && M)=false from by simp [hc]);rw [HV.out];clear hc;go_enter Tryz.func70,Tryz.ntmps70;go_wp2;go_ret;exact⟨rfl,Below.refl _ _⟩
theorem rquery_any (s:B) (hs:s.length≤35184372088832) (w:World):Calls Tryz.prog 125 #[.string (str s)] w fun e w'=>e= .returned (.bool (isQuery s))∧Below w.heap.size w w':=by
 have HM:=hid (made_any s [47,63] false hs (by decide));unfold isQuery;obtain⟨M,hM⟩:∃ M,made [47,63] false s=M:=⟨_,rfl⟩;rw [hM] at HM ⊢;obtain⟨S,hS⟩:∃ S,str s=S:=⟨_,rfl⟩;rw [hS] at HM ⊢;clear hS hM hs;go_enter Tryz.func125,Tryz.ntmps125;go_wp2_with (go_at_call 112;(with_reducible refine(HM.out _).mono ?_);rintro e w1 ⟨rfl,hb⟩;have HB:=hid hb;clear hb);go_ret;exact⟨rfl,HB.out⟩
theorem rcut_any (s:B) (x:UInt8) (hs:s.length≤35184372088832) (w:World):Calls Tryz.prog 124 #[.string (str s),byteV x] w fun e w'=>e= .returned (.tuple #[.string (str (cutF x s).1),.string (str (cutF x s).2.1),.bool (cutF x s).2.2])∧Below w.heap.size w w':=by
 have hx1:x.toNat<256:=x.toNat_lt;obtain⟨n,hn⟩:∃ n,s.length=n:=⟨_,rfl⟩;have HN:=hid hn;have HEx:=hid (ext_str s);obtain⟨S,hS⟩:∃ S,str s=S:=⟨_,rfl⟩;have hSn:S.size=n:=by rw [←hS,str_size,hn]
 have HByte:=hid (show ∀ (k:Nat) (h:k<s.length) (h2:k<S.size),S[k]'h2=s[k]'h from fun k h h2=>by subst hS;rfl);obtain⟨R,hR⟩:∃ R,cutF x s=R:=⟨_,rfl⟩;have HR:=hid hR;have HSs:=hid hS;rw [hS] at HEx;rw [hn] at hs;rw [hS,hR];clear hn hS hR;go_enter Tryz.func124,Tryz.ntmps124;go_wp2;go_loopg [7] (n+1) (fun gk s7 wr=>∃ i:Nat,i≤n∧gk=n-i+1∧s7= .int .i64 (i:Int)∧(∀ y∈s.take i,y≠x)∧wr=w)
 case atStart=>exact⟨0,by omega,rfl,rfl,fun y hy=>by simp at hy,rfl⟩
 case round=>
  obtain⟨i,hi,rfl,rfl,hno,rfl⟩:=hrel;have HNo:=hid hno;clear hno;by_cases hin:i<n
  · have hi1:i<s.length:=by rw [HN.out];exact hin
    obtain⟨y,hy⟩:∃ y,s[i]=y:=⟨_,rfl⟩;have hbyte:∀ h:i<S.size,(S[i]'h)=y:=fun h=>by rw [HByte.out i hi1 h,hy]
    have HTk:=hid (show s.take (i+1)=s.take i++ [y] from by rw [List.take_add_one,List.getElem?_eq_getElem hi1,hy];rfl);have HSp:=hid (show s=s.take i++y::s.drop (i+1) from by conv=>lhs;rw [←List.take_append_drop i s,List.drop_eq_getElem_cons hi1,hy]);clear hy hi1;by_cases hyx:y=x
    · subst hyx;have HV:=hid (show R=(s.take i,s.drop (i+1),true) from by
       rw [←HR.out];conv=>lhs;rw [HSp.out]
       exact cutF_at _ _ HNo.out)
      have hx1:S.extract 0 i=str (s.take i):=by rw [HEx.out];simp
      have hx2:S.extract (i+1) n=str (s.drop (i+1)):=by
       rw [HEx.out];congr 2;exact List.take_of_length_le (by rw [List.length_drop,HN.out];exact Nat.le_refl _)
      have hw1:IntKind.i64.wrap ((i:Int)+1)=(i:Int)+1:=by rw [IntKind.wrap_i64];omega
      go_wp2;refine wp_region_noPanic ?_;refine any_begin 10 (by kernel_rfl) (by kernel_rfl) ?_;refine atk (i:=0) (some 19) rfl rfl (v:= ?v0q) ?hy0q ?rest0q
      case hy0q=>intro w0;go_simp;try with_reducible rfl
      simp only [Act.put,sA,sB,sC];refine atk (i:=1) (some 20) rfl rfl (v:= ?v1q) ?hy1q ?rest1q
      case hy1q=>intro w0;go_simp;try with_reducible rfl
      simp only [Act.put,sA,sB,sC];refine atk (i:=2) (some 21) rfl rfl (v:=.string (str (s.take i))) ?hy2q ?rest2q
      case hy2q=>intro w0;go_simp;first|(rw [hx1];done)|(simp only [hx1];done)|skip
      simp only [Act.put,sA,sB,sC];refine atk (i:=3) (some 22) rfl rfl (v:= ?v3q) ?hy3q ?rest3q
      case hy3q=>intro w0;go_simp;try with_reducible rfl
      simp only [Act.put,sA,sB,sC];refine atk (i:=4) (some 23) rfl rfl (v:= ?v4q) ?hy4q ?rest4q
      case hy4q=>intro w0;go_simp;try with_reducible rfl
      simp only [Act.put,sA,sB,sC];refine atk (i:=5) (some 24) rfl rfl (v:= ?v5q) ?hy5q ?rest5q
      case hy5q=>intro w0;go_simp;try with_reducible rfl
      simp only [Act.put,sA,sB,sC];refine any_take (i:=6) (some 25) rfl rfl (by kernel_rfl) (by kernel_rfl) (by kernel_rfl) (fun _ _ _ h=>h) (by rfl) (v:=.string (str (s.drop (i+1)))) ?hy6q ?rest6q
      case hy6q=>intro w0;go_simp;first|(rw [hx2];done)|(simp only [hx2];done)|(intro hbad;exfalso;have:=hbad (by omega);omega)
      simp only [Act.put,sA,sB,sC];refine atk (i:=7) (some 4) rfl rfl (v:= ?v7q) ?hy7q ?rest7q
      case hy7q=>intro w0;go_simp;try with_reducible rfl
      simp only [Act.put,sA,sB,sC];refine atk (i:=8) (some 5) rfl rfl (v:= ?v8q) ?hy8q ?rest8q
      case hy8q=>intro w0;go_simp;try with_reducible rfl
      simp only [Act.put,sA,sB,sC];refine atk (i:=9) (some 6) rfl rfl (v:= ?v9q) ?hy9q ?rest9q
      case hy9q=>intro w0;go_simp;try with_reducible rfl
      simp only [Act.put,sA,sB,sC];refine any_done (by kernel_rfl) ?_ _;refine NoPanic.normal ?_;go_wp2;go_ret3;rw [HV.out];exact⟨rfl,below_drew (Below.refl _ _) 1⟩
    · have hb2:((y.toNat:Int)== (x.toNat:Int))=false:=by
       simp only [beq_eq_false_iff_ne,ne_eq];intro e;exact hyx (UInt8.toNat_inj.1 (by omega))
      have hb3:¬(y.toNat:Int)=(x.toNat:Int):=by simpa using hb2
      have HNx:=hid (show ∀ z∈s.take (i+1),z≠x from fun z hz=>by
       rw [HTk.out] at hz;rcases List.mem_append.1 hz with hz|hz
       · exact HNo.out z hz
       · simp at hz;rw [hz];exact hyx)
      clear hyx;go_wp2;go_roundg (n-(i+1)+1)
      case measure=>omega
      case rel=>exact⟨i+1,by omega,rfl,by push_cast;rfl,HNx.out,rfl⟩
  · obtain rfl:n=i:=by omega
    have HV:=hid (show R=(s,[],false) from by
     rw [←HR.out];exact cutF_no s (by have:=HNo.out;rw [List.take_of_length_le (by rw [HN.out];exact Nat.le_refl _)] at this;exact this))
    go_wp2;go_ret3;rw [HV.out,←HSs.out];exact⟨rfl,Below.refl _ _⟩
theorem up_wrap (Y:Nat) (h:Y≤90):IntKind.u8.wrap ((Y:Int)+32)=(Y:Int)+32:=by
 have key:∀ K:Fin 91,IntKind.u8.wrap ((K.val:Int)+32)=(K.val:Int)+32:=by decide+kernel
 exact key ⟨Y,by omega⟩
theorem smallC_nat (y:UInt8):(smallC y).toNat=if 65≤y.toNat∧y.toNat≤90 then y.toNat+32 else y.toNat:=
 all256 (P:=fun y=>(smallC y).toNat=if 65≤y.toNat∧y.toNat≤90 then y.toNat+32 else y.toNat) (by decide) y
theorem rsmall_any (s:B) (hs:s.length≤35184372088832) (w:World):Calls Tryz.prog 83 #[.string (str s)] w fun e w'=>e= .returned (.string (str (smallB s)))∧Below w.heap.size w w':=by
 obtain⟨i0,hi0,hz0,hz1,hz2⟩:=info_parts infoB;obtain⟨n,hn⟩:∃ n,s.length=n:=⟨_,rfl⟩;have HN:=hid hn;obtain⟨S,hS⟩:∃ S,str s=S:=⟨_,rfl⟩;have hSn:S.size=n:=by rw [←hS,str_size,hn]
 have HByte:=hid (show ∀ (k:Nat) (h:k<s.length) (h2:k<S.size),S[k]'h2=s[k]'h from fun k h h2=>by subst hS;rfl);rw [hn] at hs;rw [hS];clear hn hS;go_enter Tryz.func83,Tryz.ntmps83;go_wp2;go_loopg [3,4] (n+1) (fun gk s3 s4 wr=>∃ i:Nat,i≤n∧gk=n-i+1∧s4= .int .i64 (i:Int)∧Own wr w.heap.size s3 (smallB (s.take i))∧Below w.heap.size w wr)
 case atStart=>exact⟨0,by omega,rfl,rfl,Own.nil w _,Below.refl _ _⟩
 case round=>
  obtain⟨i,hi,rfl,rfl,ho,hb⟩:=hrel;have HB:=hid hb;obtain⟨acc,hacc⟩:∃ acc,smallB (s.take i)=acc:=⟨_,rfl⟩;have HAcc:=hid hacc;have HLe:=hid (show acc.length=i from by rw [←hacc];simp [smallB,HN.out];exact Nat.min_eq_left hi);rw [hacc] at ho;obtain⟨p,c0,rfl⟩:=own_slice ho;have HO:=hid ho;rw [HLe.out] at HO ⊢;clear ho hb hacc;by_cases hin:i<n
  · have hi1:i<s.length:=by rw [HN.out];exact hin
    obtain⟨y,hy⟩:∃ y,s[i]=y:=⟨_,rfl⟩;obtain⟨Y,hY⟩:∃ Y:Nat,y.toNat=Y:=⟨_,rfl⟩;have hY256:Y<256:=by rw [←hY];exact y.toNat_lt
    have hbyte:∀ h:i<S.size,(S[i]'h).toNat=Y:=fun h=>by rw [HByte.out i hi1 h,hy,hY]
    have HTk:=hid (show smallB (s.take (i+1))=acc++ [smallC y] from by rw [←HAcc.out,List.take_add_one,List.getElem?_eq_getElem hi1,hy];simp [smallB]);have HSm:=hid (smallC_nat y);rw [hY] at HSm;clear hy hi1 hY;by_cases hg:65≤Y∧Y≤90
    · have HBc:=hid (show Lib.byteCells [smallC y]= [.int .u8 ((Y:Int)+32)] from by rw [one_cell,HSm.out,if_pos hg];rfl);have g1:65≤(Y:Int):=by omega
      have g2:(Y:Int)≤90:=by omega
      have g3:=up_wrap Y hg.2;clear hg;go_wp2_with (at_builtin;refine wpList_append_own_at _ rfl (.tmp 23) (.tmp 25) 138 rfl w.heap.size 5 i0 _ 1 1 Tryz.underlying138 hi0 hz0 hz1 hz2 rfl (by decide) (.slice p i c0) i (Lib.byteCells acc) (by go_simp) (by have h8:=HO.out.alloc (.cells #[.int .u8 ((Y:Int)+32)] 5 (0,0));unfold Own at h8;rw [HLe.out] at h8;exact h8) ⟨wr.heap.size,0,none⟩ 1 1 [.int .u8 ((Y:Int)+32)] (by go_simp) rfl (cells_new wr _ _) (by simp [Value.oneCell']) (by unfold maxLen;omega) (by omega) (Nat.le_trans HB.out.size (below_new _ _).size) ?_;intro v' w' hown hgr _ _;obtain⟨p7,L7,c7,rfl⟩:=own_slice3 hown;have HB2:=hid (HB.out.trans (((below_new wr (.cells #[.int .u8 ((Y:Int)+32)] 5 (0,0))).mono HB.out.size).trans (Own.below (HO.out.alloc (.cells #[.int .u8 ((Y:Int)+32)] 5 (0,0))) (Nat.le_trans HB.out.size (below_new _ _).size) hgr)));have HW:=hid (Own.put (acc:=acc) (bs:=[smallC y]) (by rw [HLe.out];exact hown) HBc.out rfl);clear hown hgr);go_roundg (n-(i+1)+1)
      case measure=>omega
      case rel=>exact⟨i+1,by omega,rfl,by push_cast;rfl,by rw [HTk.out];exact HW.out,HB2.out⟩
    · have HBc:=hid (show Lib.byteCells [smallC y]= [.int .u8 (Y:Int)] from by rw [one_cell,HSm.out,if_neg hg]);have hg2:¬(65≤(Y:Int)∧(Y:Int)≤90):=fun q=>hg ⟨by omega,by omega⟩
      clear hg;by_cases g1:65≤(Y:Int)
      · have g2:¬(Y:Int)≤90:=fun q=>hg2 ⟨g1,q⟩
        clear hg2;go_wp2_with (at_builtin;refine wpList_append_own_at _ rfl (.tmp 23) (.tmp 25) 138 rfl w.heap.size 5 i0 _ 1 1 Tryz.underlying138 hi0 hz0 hz1 hz2 rfl (by decide) (.slice p i c0) i (Lib.byteCells acc) (by go_simp) (by have h8:=HO.out.alloc (.cells #[.int .u8 (Y:Int)] 5 (0,0));unfold Own at h8;rw [HLe.out] at h8;exact h8) ⟨wr.heap.size,0,none⟩ 1 1 [.int .u8 (Y:Int)] (by go_simp) rfl (cells_new wr _ _) (by simp [Value.oneCell']) (by unfold maxLen;omega) (by omega) (Nat.le_trans HB.out.size (below_new _ _).size) ?_;intro v' w' hown hgr _ _;obtain⟨p7,L7,c7,rfl⟩:=own_slice3 hown;have HB2:=hid (HB.out.trans (((below_new wr (.cells #[.int .u8 (Y:Int)] 5 (0,0))).mono HB.out.size).trans (Own.below (HO.out.alloc (.cells #[.int .u8 (Y:Int)] 5 (0,0))) (Nat.le_trans HB.out.size (below_new _ _).size) hgr)));have HW:=hid (Own.put (acc:=acc) (bs:=[smallC y]) (by rw [HLe.out];exact hown) HBc.out rfl);clear hown hgr);go_roundg (n-(i+1)+1)
        case measure=>omega
        case rel=>exact⟨i+1,by omega,rfl,by push_cast;rfl,by rw [HTk.out];exact HW.out,HB2.out⟩
      · clear hg2;go_wp2_with (at_builtin;refine wpList_append_own_at _ rfl (.tmp 23) (.tmp 25) 138 rfl w.heap.size 5 i0 _ 1 1 Tryz.underlying138 hi0 hz0 hz1 hz2 rfl (by decide) (.slice p i c0) i (Lib.byteCells acc) (by go_simp) (by have h8:=HO.out.alloc (.cells #[.int .u8 (Y:Int)] 5 (0,0));unfold Own at h8;rw [HLe.out] at h8;exact h8) ⟨wr.heap.size,0,none⟩ 1 1 [.int .u8 (Y:Int)] (by go_simp) rfl (cells_new wr _ _) (by simp [Value.oneCell']) (by unfold maxLen;omega) (by omega) (Nat.le_trans HB.out.size (below_new _ _).size) ?_;intro v' w' hown hgr _ _;obtain⟨p7,L7,c7,rfl⟩:=own_slice3 hown;have HB2:=hid (HB.out.trans (((below_new wr (.cells #[.int .u8 (Y:Int)] 5 (0,0))).mono HB.out.size).trans (Own.below (HO.out.alloc (.cells #[.int .u8 (Y:Int)] 5 (0,0))) (Nat.le_trans HB.out.size (below_new _ _).size) hgr)));have HW:=hid (Own.put (acc:=acc) (bs:=[smallC y]) (by rw [HLe.out];exact hown) HBc.out rfl);clear hown hgr);go_roundg (n-(i+1)+1)
        case measure=>omega
        case rel=>exact⟨i+1,by omega,rfl,by push_cast;rfl,by rw [HTk.out];exact HW.out,HB2.out⟩
  · obtain rfl:n=i:=by omega
    have HV:=hid (show acc=smallB s from by rw [←HAcc.out,List.take_of_length_le (by rw [HN.out];exact Nat.le_refl _)]);have hcv:=conv_own (by have h8:=HO.out;exact h8:Own wr w.heap.size (.slice p n c0) acc);go_wp2;go_ret;rw [HV.out];exact⟨rfl,HB.out⟩
theorem mk_row (w:World) (n:Nat) (hn:n≤140737488355328):∃ w',(Instr.makeSlice 138 (.int .i64 0) (.int .i64 (n:Int))).run Tryz.prog w= .ok (.slice (some ⟨w.heap.size,0,none⟩) 0 n) w'∧Own w' w.heap.size (.slice (some ⟨w.heap.size,0,none⟩) 0 n) []∧Below w.heap.size w w':=by
 obtain⟨i0,hi0,hz0,hz1,hz2⟩:=info_parts infoB;obtain⟨w',h1,h2,h3⟩:=run_make_own (P:=Tryz.prog) w w.heap.size 138 5 i0 _ 1 Tryz.underlying138 hi0 hz0 hz1 .i64 .i64 n (by rw [hz2];omega) (by unfold maxLen;omega) (Nat.le_refl _);exact⟨w',h1,h2,below_grown h3⟩
theorem decP_some:∀ {l:B},codeO l=true→decP l=UInt8.ofNat (codeN l)::decP (l.drop 3)
 | [],h=>by simp [codeO,codeI] at h
 | [c],h=>by simp [codeO,codeI] at h
 | [c,d],h=>by simp [codeO,codeI] at h
 |c::a::b::r,h=>by
  unfold codeO at h;unfold codeN;rw [decP];cases hv:codeOf c a b with
  |none=>rw [codeI_none hv] at h;simp at h
  |some v=>
   rw [codeI_some hv,if_neg (by omega)];simp
theorem codeO_long {l:B} (h:codeO l=true):3≤l.length:=by
 rcases Nat.lt_or_ge l.length 3 with q|q
 · unfold codeO at h;rw [codeI_short q] at h;simp at h
 · exact q
theorem madeP_code {p q:UInt8→Bool}:∀ (l:B),madeP p q (37::l)=(codeO (37::l) && q (UInt8.ofNat (codeN (37::l))) && madeP p q (l.drop 2))
 | []=>by simp [madeP,codeO,codeI]
 | [d]=>by simp [madeP,codeO,codeI]
 |a::b::r=>by
  rw [madeP,if_pos rfl];unfold codeO codeN;cases hv:codeOf 37 a b with
  |none=>rw [codeI_none hv];simp
  |some v=>
   rw [codeI_some hv,if_neg (by omega)];simp
theorem madeP_plain {p q:UInt8→Bool}{c:UInt8} (h:c≠37):∀ (l:B),madeP p q (c::l)=(p c && madeP p q l)
 | []=>by simp [madeP,h]
 | [d]=>by simp [madeP,h]
 |a::b::r=>by rw [madeP,if_neg h]
theorem made_path (s:B) (hs:s.length≤35184372088832) (w:World):Calls Tryz.prog 88 #[.string (str s),.func (.func 89) #[] #[],.func (.func 90) #[] #[]] w fun e w'=>e= .returned (.bool (madeP inPathC softC s))∧w'=w:=by
 obtain⟨n,hn⟩:∃ n,s.length=n:=⟨_,rfl⟩;have HN:=hid hn;obtain⟨S,hS⟩:∃ S,str s=S:=⟨_,rfl⟩;have hSn:S.size=n:=by rw [←hS,str_size,hn]
 have HByte:=hid (show ∀ (k:Nat) (h:k<s.length) (h2:k<S.size),S[k]'h2=s[k]'h from fun k h h2=>by subst hS;rfl);have HCo:=hid (show ∀ i,i≤n→∀ w,_ from fun i hi=>pcode_any (s.drop i) (by rw [List.length_drop];omega));have HEx:=hid (show ∀ i,S.extract i n=str (s.drop i) from fun i=>by rw [←hS];exact ext_drop s i n hn);have HF0:=hid (show ∀ (c:UInt8) (w:World),_ from pinpath_any);have HG0:=hid (show ∀ (c:UInt8) (w:World),_ from psoft_any);obtain⟨R,hR0⟩:∃ R,madeP inPathC softC s=R:=⟨_,rfl⟩;have HR0:=hid hR0;rw [hn] at hs;rw [hS,hR0];clear hn hS hR0;go_enter Tryz.func88,Tryz.ntmps88;go_wp2;go_loopg [7] (n+1) (fun gk s7 wr=>∃ i:Nat,i≤n∧gk=n-i+1∧s7= .int .i64 (i:Int)∧R=madeP inPathC softC (s.drop i)∧wr=w)
 case atStart=>exact⟨0,by omega,rfl,rfl,HR0.out.symm,rfl⟩
 case round=>
  obtain⟨i,hi,rfl,rfl,hR,rfl⟩:=hrel;have HR:=hid hR;clear hR;by_cases hin:i<n
  · have hi1:i<s.length:=by rw [HN.out];exact hin
    obtain⟨y,hy⟩:∃ y,s[i]=y:=⟨_,rfl⟩;obtain⟨Y,hY⟩:∃ Y:Nat,y.toNat=Y:=⟨_,rfl⟩;have hY256:Y<256:=by rw [←hY];exact y.toNat_lt
    have hbyte:∀ h:i<S.size,(S[i]'h).toNat=Y:=fun h=>by rw [HByte.out i hi1 h,hy,hY]
    have HD:=hid (show s.drop i=y::s.drop (i+1) from by rw [List.drop_eq_getElem_cons hi1,hy]);rw [HD.out] at HR;clear hy hi1;by_cases hc:y=37
    · obtain rfl:Y=37:=by rw [←hY,hc];rfl
      subst hc;have hext:S.extract i n=str (s.drop i):=HEx.out i;have HCi:=hid (HCo.out i (by omega));have hZ:=codeN_lt (s.drop i);have HSt:=hid (show R=(codeO (s.drop i) && softC (UInt8.ofNat (codeN (s.drop i))) && madeP inPathC softC (s.drop (i+3))) from by rw [HR.out,madeP_code,HD.out,List.drop_drop]);have HLg:=hid (show codeO (s.drop i)=true→i+3≤n from fun h=>by have:=codeO_long h;rw [List.length_drop,HN.out] at this;omega);have HG:=hid (show ∀ (u:Unit) (w:World),_ from fun _=>HG0.out (UInt8.ofNat (codeN (s.drop i))));rw [show (byteV (UInt8.ofNat (codeN (s.drop i))))= .int .u8 ((codeN (s.drop i)):Int) from by unfold byteV;congr 2;simp;omega] at HG;obtain⟨Z,hZe⟩:∃ Z,codeN (s.drop i)=Z:=⟨_,rfl⟩;rw [hZe] at HCi hZ HSt HG;obtain⟨T,hT⟩:∃ T,str (s.drop i)=T:=⟨_,rfl⟩;rw [hT] at hext HCi;clear hZe hT hY;cases hO:codeO (s.drop i) with
      |true=>
       have hi3:i+3≤n:=HLg.out hO;rw [hO] at HCi HSt;cases hQ:softC (UInt8.ofNat Z) with
       |true=>
        have HNx:=hid (show R=madeP inPathC softC (s.drop (i+3)) from by rw [HSt.out,hQ];rfl);rw [hQ] at HG;clear hO hQ;go_wp2_with (first|(go_at_call 92;(with_reducible refine(HCi.out _).mono ?_);rintro e w1 ⟨rfl,rfl⟩)|(go_at_call 90;(with_reducible refine(HG.out () _).mono ?_);rintro e w1 ⟨rfl,rfl⟩));go_roundg (n-(i+3)+1)
        case measure=>omega
        case rel=>exact⟨i+3,by omega,rfl,by push_cast;go_num,HNx.out,rfl⟩
       |false=>
        have HV:=hid (show R=false from by rw [HSt.out,hQ];rfl);rw [hQ] at HG;clear hO hQ;go_wp2_with (first|(go_at_call 92;(with_reducible refine(HCi.out _).mono ?_);rintro e w1 ⟨rfl,rfl⟩)|(go_at_call 90;(with_reducible refine(HG.out () _).mono ?_);rintro e w1 ⟨rfl,rfl⟩));go_ret;rw [HV.out];exact⟨rfl,rfl⟩
      |false=>
       have HV:=hid (show R=false from by rw [HSt.out,hO];rfl);rw [hO] at HCi;clear hO;go_wp2_with ((go_at_call 92;(with_reducible refine(HCi.out _).mono ?_);rintro e w1 ⟨rfl,rfl⟩));go_ret;rw [HV.out];exact⟨rfl,rfl⟩
    · have z1:¬(Y:Int)=37:=fun e=>hc (UInt8.toNat_inj.1 (by rw [hY];show Y=37;omega))
      have z2:((Y:Int) != 37)=true:=by simpa using z1
      have HSt:=hid (show R=(inPathC y && madeP inPathC softC (s.drop (i+1))) from by rw [HR.out,madeP_plain hc]);have HF:=hid (show ∀ (u:Unit) (w:World),_ from fun _=>HF0.out y);rw [show byteV y= .int .u8 (Y:Int) from by unfold byteV;rw [hY]] at HF;clear hY hc;cases hQ:inPathC y with
      |true=>
       have HNx:=hid (show R=madeP inPathC softC (s.drop (i+1)) from by rw [HSt.out,hQ];rfl);rw [hQ] at HF;clear hQ;go_wp2_with ((go_at_call 89;(with_reducible refine(HF.out () _).mono ?_);rintro e w1 ⟨rfl,rfl⟩));go_roundg (n-(i+1)+1)
       case measure=>omega
       case rel=>exact⟨i+1,by omega,rfl,by push_cast;go_num,HNx.out,rfl⟩
      |false=>
       have HV:=hid (show R=false from by rw [HSt.out,hQ];rfl);rw [hQ] at HF;clear hQ;go_wp2_with ((go_at_call 89;(with_reducible refine(HF.out () _).mono ?_);rintro e w1 ⟨rfl,rfl⟩));go_ret;rw [HV.out];exact⟨rfl,rfl⟩
  · obtain rfl:n=i:=by omega
    have HV:=hid (show R=true from by rw [HR.out,List.drop_of_length_le (by rw [HN.out];exact Nat.le_refl _)];simp [madeP]);go_wp2;go_ret;rw [HV.out];exact⟨rfl,rfl⟩
theorem made_query (s:B) (hs:s.length≤35184372088832) (w:World):Calls Tryz.prog 88 #[.string (str s),.func (.func 146) #[] #[],.func (.func 147) #[] #[]] w fun e w'=>e= .returned (.bool (madeP inQueryC anyC s))∧w'=w:=by
 obtain⟨n,hn⟩:∃ n,s.length=n:=⟨_,rfl⟩;have HN:=hid hn;obtain⟨S,hS⟩:∃ S,str s=S:=⟨_,rfl⟩;have hSn:S.size=n:=by rw [←hS,str_size,hn]
 have HByte:=hid (show ∀ (k:Nat) (h:k<s.length) (h2:k<S.size),S[k]'h2=s[k]'h from fun k h h2=>by subst hS;rfl);have HCo:=hid (show ∀ i,i≤n→∀ w,_ from fun i hi=>pcode_any (s.drop i) (by rw [List.length_drop];omega));have HEx:=hid (show ∀ i,S.extract i n=str (s.drop i) from fun i=>by rw [←hS];exact ext_drop s i n hn);have HF0:=hid (show ∀ (c:UInt8) (w:World),_ from pinquery_any);have HG0:=hid (show ∀ (c:UInt8) (w:World),_ from pany_any);obtain⟨R,hR0⟩:∃ R,madeP inQueryC anyC s=R:=⟨_,rfl⟩;have HR0:=hid hR0;rw [hn] at hs;rw [hS,hR0];clear hn hS hR0;go_enter Tryz.func88,Tryz.ntmps88;go_wp2;go_loopg [7] (n+1) (fun gk s7 wr=>∃ i:Nat,i≤n∧gk=n-i+1∧s7= .int .i64 (i:Int)∧R=madeP inQueryC anyC (s.drop i)∧wr=w)
 case atStart=>exact⟨0,by omega,rfl,rfl,HR0.out.symm,rfl⟩
 case round=>
  obtain⟨i,hi,rfl,rfl,hR,rfl⟩:=hrel;have HR:=hid hR;clear hR;by_cases hin:i<n
  · have hi1:i<s.length:=by rw [HN.out];exact hin
    obtain⟨y,hy⟩:∃ y,s[i]=y:=⟨_,rfl⟩;obtain⟨Y,hY⟩:∃ Y:Nat,y.toNat=Y:=⟨_,rfl⟩;have hY256:Y<256:=by rw [←hY];exact y.toNat_lt
    have hbyte:∀ h:i<S.size,(S[i]'h).toNat=Y:=fun h=>by rw [HByte.out i hi1 h,hy,hY]
    have HD:=hid (show s.drop i=y::s.drop (i+1) from by rw [List.drop_eq_getElem_cons hi1,hy]);rw [HD.out] at HR;clear hy hi1;by_cases hc:y=37
    · obtain rfl:Y=37:=by rw [←hY,hc];rfl
      subst hc;have hext:S.extract i n=str (s.drop i):=HEx.out i;have HCi:=hid (HCo.out i (by omega));have hZ:=codeN_lt (s.drop i);have HSt:=hid (show R=(codeO (s.drop i) && anyC (UInt8.ofNat (codeN (s.drop i))) && madeP inQueryC anyC (s.drop (i+3))) from by rw [HR.out,madeP_code,HD.out,List.drop_drop]);have HLg:=hid (show codeO (s.drop i)=true→i+3≤n from fun h=>by have:=codeO_long h;rw [List.length_drop,HN.out] at this;omega);have HG:=hid (show ∀ (u:Unit) (w:World),_ from fun _=>HG0.out (UInt8.ofNat (codeN (s.drop i))));rw [show (byteV (UInt8.ofNat (codeN (s.drop i))))= .int .u8 ((codeN (s.drop i)):Int) from by unfold byteV;congr 2;simp;omega] at HG;obtain⟨Z,hZe⟩:∃ Z,codeN (s.drop i)=Z:=⟨_,rfl⟩;rw [hZe] at HCi hZ HSt HG;obtain⟨T,hT⟩:∃ T,str (s.drop i)=T:=⟨_,rfl⟩;rw [hT] at hext HCi;clear hZe hT hY;cases hO:codeO (s.drop i) with
      |true=>
       have hi3:i+3≤n:=HLg.out hO;rw [hO] at HCi HSt;cases hQ:anyC (UInt8.ofNat Z) with
       |true=>
        have HNx:=hid (show R=madeP inQueryC anyC (s.drop (i+3)) from by rw [HSt.out,hQ];rfl);rw [hQ] at HG;clear hO hQ;go_wp2_with (first|(go_at_call 92;(with_reducible refine(HCi.out _).mono ?_);rintro e w1 ⟨rfl,rfl⟩)|(go_at_call 147;(with_reducible refine(HG.out () _).mono ?_);rintro e w1 ⟨rfl,rfl⟩));go_roundg (n-(i+3)+1)
        case measure=>omega
        case rel=>exact⟨i+3,by omega,rfl,by push_cast;go_num,HNx.out,rfl⟩
       |false=>
        have HV:=hid (show R=false from by rw [HSt.out,hQ];rfl);rw [hQ] at HG;clear hO hQ;go_wp2_with (first|(go_at_call 92;(with_reducible refine(HCi.out _).mono ?_);rintro e w1 ⟨rfl,rfl⟩)|(go_at_call 147;(with_reducible refine(HG.out () _).mono ?_);rintro e w1 ⟨rfl,rfl⟩));go_ret;rw [HV.out];exact⟨rfl,rfl⟩
      |false=>
       have HV:=hid (show R=false from by rw [HSt.out,hO];rfl);rw [hO] at HCi;clear hO;go_wp2_with ((go_at_call 92;(with_reducible refine(HCi.out _).mono ?_);rintro e w1 ⟨rfl,rfl⟩));go_ret;rw [HV.out];exact⟨rfl,rfl⟩
    · have z1:¬(Y:Int)=37:=fun e=>hc (UInt8.toNat_inj.1 (by rw [hY];show Y=37;omega))
      have z2:((Y:Int) != 37)=true:=by simpa using z1
      have HSt:=hid (show R=(inQueryC y && madeP inQueryC anyC (s.drop (i+1))) from by rw [HR.out,madeP_plain hc]);have HF:=hid (show ∀ (u:Unit) (w:World),_ from fun _=>HF0.out y);rw [show byteV y= .int .u8 (Y:Int) from by unfold byteV;rw [hY]] at HF;clear hY hc;cases hQ:inQueryC y with
      |true=>
       have HNx:=hid (show R=madeP inQueryC anyC (s.drop (i+1)) from by rw [HSt.out,hQ];rfl);rw [hQ] at HF;clear hQ;go_wp2_with ((go_at_call 146;(with_reducible refine(HF.out () _).mono ?_);rintro e w1 ⟨rfl,rfl⟩));go_roundg (n-(i+1)+1)
       case measure=>omega
       case rel=>exact⟨i+1,by omega,rfl,by push_cast;go_num,HNx.out,rfl⟩
      |false=>
       have HV:=hid (show R=false from by rw [HSt.out,hQ];rfl);rw [hQ] at HF;clear hQ;go_wp2_with ((go_at_call 146;(with_reducible refine(HF.out () _).mono ?_);rintro e w1 ⟨rfl,rfl⟩));go_ret;rw [HV.out];exact⟨rfl,rfl⟩
  · obtain rfl:n=i:=by omega
    have HV:=hid (show R=true from by rw [HR.out,List.drop_of_length_le (by rw [HN.out];exact Nat.le_refl _)];simp [madeP]);go_wp2;go_ret;rw [HV.out];exact⟨rfl,rfl⟩
def decV (r:Option B):Value:=match r with
 |some t=>.tuple #[.string (str t),.int .i64 0]
 |none=>.tuple #[.string (str []),.int .i64 23]
theorem u8_wrap (Z:Nat) (h:Z<256):IntKind.u8.wrap (Z:Int)=(Z:Int):=by
 have key:∀ K:Fin 256,IntKind.u8.wrap (K.val:Int)=(K.val:Int):=by decide+kernel
 exact key ⟨Z,h⟩
theorem of_cell (Z:Nat) (h:Z<256):Lib.byteCells [UInt8.ofNat Z]= [.int .u8 (Z:Int)]:=by
 rw [one_cell];simp;omega
end Go.Proofs.YtlmlljlappjjjaaGreatDoor
