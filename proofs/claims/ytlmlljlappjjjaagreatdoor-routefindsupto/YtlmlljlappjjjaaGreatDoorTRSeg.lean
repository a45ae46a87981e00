/- The program's texts in codes, and as they are meant. -/
import Derived.Test.YtlmlljlappjjjaaGreatDoorTRMeant
namespace Go.Proofs.YtlmlljlappjjjaaGreatDoor
set_option maxRecDepth 20000
set_option maxHeartbeats 8000000
open Go.RowKit
theorem and15 (X:Nat) (h:X<256):bits BinOp.and IntKind.u8 (X:Int) 15=((X % 16:Nat):Int):=by
 have key:∀ K:Fin 256,bits BinOp.and IntKind.u8 (K.val:Int) 15=((K.val % 16:Nat):Int):=by decide+kernel
 exact key ⟨X,h⟩
def putC (c:UInt8):B:=if unres c then [c] else codeB c
theorem putC_len (c:UInt8):(putC c).length≤3:=by unfold putC;split <;> simp [codeB]
theorem appb_any (base:Nat) (acc:B) (y:UInt8) (v:Value) (w:World) (ho:Own w base v acc) (hbs:base≤w.heap.size) (hl:acc.length≤105553116266496):
  Calls Tryz.prog 93 #[v,byteV y] w fun e w'=>∃ v',e= .returned v'∧Own w' base v' (acc++putC y)∧Below base w w':=by
 obtain⟨i0,hi0,hz0,hz1,hz2⟩:=info_parts infoB;obtain⟨ln,hln⟩:∃ ln,acc.length=ln:=⟨_,rfl⟩;have HLe:=hid hln;obtain⟨p,c0,rfl⟩:=own_slice ho;have HO:=hid ho;have HB:=hid (show Below base w w from Below.refl _ _);have HBs:=hid hbs;rw [hln] at HO hl ⊢;clear ho hln hbs;have HUn:=hid (punres_any y);obtain⟨Y,hY⟩:∃ Y:Nat,y.toNat=Y:=⟨_,rfl⟩;have hY256:Y<256:=by rw [←hY];exact y.toNat_lt
 unfold byteV at HUn ⊢;rw [hY] at HUn ⊢;have HBy:=hid (show Lib.byteCells [y]= [.int .u8 (Y:Int)] from by rw [one_cell,hY]);cases hu:unres y with
 |true=>
  rw [show putC y= [y] from by unfold putC;rw [hu];rfl];rw [hu] at HUn;clear hu hY;go_enter Tryz.func93,Tryz.ntmps93;go_wp2_with (first|(go_at_call 131;(with_reducible refine(HUn.out _).mono ?_);rintro e w1 ⟨rfl,rfl⟩)|(at_builtin;refine wpList_append_own_at _ rfl (.tmp 7) (.tmp 9) 138 rfl base 5 i0 _ 1 1 Tryz.underlying138 hi0 hz0 hz1 hz2 rfl (by decide) (.slice p ln c0) ln (Lib.byteCells acc) (by go_simp) (by have h8:=HO.out.alloc (.cells #[.int .u8 (Y:Int)] 5 (0,0));unfold Own at h8;rw [HLe.out] at h8;exact h8) ⟨w1.heap.size,0,none⟩ 1 1 [.int .u8 (Y:Int)] (by go_simp) rfl (cells_new w1 _ _) (by simp [Value.oneCell']) (by unfold maxLen;omega) (by omega) (Nat.le_trans HBs.out (below_new _ _).size) ?_;intro v' w' hown hgr _ _;obtain⟨p7,L7,c7,rfl⟩:=own_slice3 hown;have HB2:=hid (HB.out.trans (((below_new w1 (.cells #[.int .u8 (Y:Int)] 5 (0,0))).mono HBs.out).trans (Own.below (HO.out.alloc (.cells #[.int .u8 (Y:Int)] 5 (0,0))) (Nat.le_trans HBs.out (below_new _ _).size) hgr)));have HW:=hid (Own.put (acc:=acc) (bs:=[y]) (by rw [HLe.out];exact hown) HBy.out rfl);clear hown hgr));go_ret;exact⟨_,rfl,HW.out,HB2.out⟩
 |false=>
  rw [show putC y= [37,greatD (Y / 16),greatD (Y % 16)] from by unfold putC;rw [hu,←hY];rfl];rw [hu] at HUn;clear hu hY;have HE1:=hid (great_at (Y / 16) (by omega));have HE2:=hid (great_at (Y % 16) (by omega));have hand:=and15 Y hY256;obtain⟨h1,hh1⟩:∃ h1,greatD (Y / 16)=h1:=⟨_,rfl⟩;obtain⟨h2,hh2⟩:∃ h2,greatD (Y % 16)=h2:=⟨_,rfl⟩;rw [hh1] at HE1;rw [hh2] at HE2;rw [hh1,hh2];have HBc:=hid (three_cells h1 h2);clear hh1 hh2;go_enter Tryz.func93,Tryz.ntmps93;go_wp2_with (go_at_call 131;(with_reducible refine(HUn.out _).mono ?_);rintro e w1 ⟨rfl,hw1⟩;subst w1);refine wp_region_noPanic ?_;refine any_begin 10 (by kernel_rfl) (by kernel_rfl) ?_;refine atk (i:=0) (some 11) rfl rfl (v:= ?v0a) ?hy0a ?rest0a
  case hy0a=>intro w0;go_simp;try with_reducible rfl
  simp only [Act.put,sA,sB,sC];refine atk (i:=1) (some 12) rfl rfl (v:= ?v1a) ?hy1a ?rest1a
  case hy1a=>intro w0;go_simp;try with_reducible rfl
  simp only [Act.put,sA,sB,sC];refine atk (i:=2) (some 13) rfl rfl (v:=.int .u8 ((Y / 16:Nat):Int)) ?hy2a ?rest2a
  case hy2a=>intro w0;go_simp;try rfl
  simp only [Act.put,sA,sB,sC];refine atk (i:=3) (some 14) rfl rfl (v:=.int .u8 (h1.toNat:Int)) ?hy3a ?rest3a
  case hy3a=>intro w0;go_simp;rw [dif_pos ⟨by omega,by omega⟩];simp only [Result.andThen];congr 4;exact HE1.out _ _ (by omega)
  simp only [Act.put,sA,sB,sC];refine atk (i:=4) (some 15) rfl rfl (v:= ?v4a) ?hy4a ?rest4a
  case hy4a=>intro w0;go_simp;try with_reducible rfl
  simp only [Act.put,sA,sB,sC];refine atk (i:=5) (some 16) rfl rfl (v:=.int .u8 ((Y % 16:Nat):Int)) ?hy5a ?rest5a
  case hy5a=>intro w0;go_simp;try rfl
  simp only [Act.put,sA,sB,sC];refine atk (i:=6) (some 17) rfl rfl (v:=.int .u8 (h2.toNat:Int)) ?hy6a ?rest6a
  case hy6a=>intro w0;go_simp;rw [dif_pos ⟨by omega,by omega⟩];simp only [Result.andThen];congr 4;exact HE2.out _ _ (by omega)
  simp only [Act.put,sA,sB,sC];refine any_one (i:=7) (by kernel_rfl) rfl (fun K hK=>?_);go_simp;refine hK _ _ ?_;clear hK K;refine any_one (i:=8) (by kernel_rfl) rfl (fun K hK=>?_);rw [if_pos (by rfl)];refine wp_append_own_at (.tmp 11) (.tmp 18) 138 rfl base 5 i0 _ 1 1 Tryz.underlying138 hi0 hz0 hz1 hz2 rfl (by decide) (.slice p ln c0) ln (Lib.byteCells acc) (by go_simp) (by have h8:=HO.out.alloc (.cells #[.int .u8 37,.int .u8 (h1.toNat:Int),.int .u8 (h2.toNat:Int)] 5 (0,0));unfold Own at h8;rw [HLe.out] at h8;exact h8) ⟨w.heap.size,0,none⟩ 3 3 [.int .u8 37,.int .u8 (h1.toNat:Int),.int .u8 (h2.toNat:Int)] (by go_simp) rfl (cells_new w _ _) (by simp [Value.oneCell']) (by unfold maxLen;omega) (by omega) (Nat.le_trans HBs.out (below_new _ _).size) ?_;intro v' w' hown hgr _;obtain⟨p7,L7,c7,rfl⟩:=own_slice3 hown;have HB2:=hid (HB.out.trans (((new_drew w _).mono HBs.out).trans (Own.below (show Own (w.alloc (.cells #[.int .u8 37,.int .u8 (h1.toNat:Int),.int .u8 (h2.toNat:Int)] 5 (0,0))).drew base _ acc from HO.out.alloc (.cells #[.int .u8 37,.int .u8 (h1.toNat:Int),.int .u8 (h2.toNat:Int)] 5 (0,0))) (Nat.le_trans HBs.out (below_new _ _).size) hgr)));have HW:=hid (Own.put (acc:=acc) (bs:=[37,h1,h2]) (by rw [HLe.out];exact hown) HBc.out rfl);clear hown hgr;show K (Act.put _ (some 19) (.slice p7 L7 c7)) w';refine hK _ _ ?_;clear hK K;simp only [Act.put,sA,sB,sC];refine atk (i:=9) (some 4) rfl rfl (v:= ?v9a) ?hy9a ?rest9a
  case hy9a=>intro w0;go_simp;try with_reducible rfl
  simp only [Act.put,sA,sB,sC];refine any_done (by kernel_rfl) ?_ _;refine NoPanic.normal ?_;go_wp2;go_ret;exact⟨_,rfl,HW.out,HB2.out⟩
theorem meantP_some:∀ {l:B},codeO l=true→meantB l=putC (UInt8.ofNat (codeN l))++meantB (l.drop 3)
 | [],h=>by simp [codeO,codeI] at h
 | [c],h=>by simp [codeO,codeI] at h
 | [c,d],h=>by simp [codeO,codeI] at h
 |c::a::b::r,h=>by
  have h0:¬codeI (c::a::b::r)<0:=by unfold codeO at h;simp at h;omega
  rw [meant_some h0];unfold putC codeN;rw [if_neg h0];rfl
theorem meantP_none {c:UInt8}{l:B} (h:codeO (c::l)=false):meantB (c::l)=c::meantB l:=meant_none (by unfold codeO at h;simp at h;omega)
theorem oneway_any (s:B) (hs:s.length≤35184372088832) (w:World):Calls Tryz.prog 50 #[.string (str s)] w fun e w'=>e= .returned (.string (str (meantB s)))∧Below w.heap.size w w':=by
 obtain⟨i0,hi0,hz0,hz1,hz2⟩:=info_parts infoB;obtain⟨n,hn⟩:∃ n,s.length=n:=⟨_,rfl⟩;have HN:=hid hn;obtain⟨S,hS⟩:∃ S,str s=S:=⟨_,rfl⟩;have hSn:S.size=n:=by rw [←hS,str_size,hn]
 have HByte:=hid (show ∀ (k:Nat) (h:k<s.length) (h2:k<S.size),S[k]'h2=s[k]'h from fun k h h2=>by subst hS;rfl);have HCo:=hid (show ∀ i,i≤n→∀ w,_ from fun i hi=>pcode_any (s.drop i) (by rw [List.length_drop];omega));have HEx:=hid (show ∀ i,S.extract i n=str (s.drop i) from fun i=>by rw [←hS];exact ext_drop s i n hn);obtain⟨R,hR0⟩:∃ R,meantB s=R:=⟨_,rfl⟩;have HR0:=hid hR0;rw [hn] at hs;rw [hS,hR0];clear hn hS hR0;obtain⟨W0,hmk,hown0,hbel0⟩:=mk_row w n (by omega);have HO0:=hid hown0;have HB0:=hid hbel0;clear hown0 hbel0;go_enter Tryz.func50,Tryz.ntmps50;go_wp2;clear hmk;go_loopg [3,4] (n+1) (fun gk s3 s4 wr=>∃ i:Nat,i≤n∧gk=n-i+1∧s4= .int .i64 (i:Int)∧∃ acc:B,Own wr w.heap.size s3 acc∧acc.length≤i∧R=acc++meantB (s.drop i)∧Below w.heap.size w wr)
 case atStart=>exact⟨0,by omega,rfl,rfl,[],HO0.out,by simp,by rw [←HR0.out];simp,HB0.out⟩
 case round=>
  obtain⟨i,hi,rfl,rfl,acc,ho,hln0,hR,hb⟩:=hrel;have HB:=hid hb;have HR:=hid hR;obtain⟨ln,hln⟩:∃ ln,acc.length=ln:=⟨_,rfl⟩;have HLe:=hid hln;obtain⟨p,c0,rfl⟩:=own_slice ho;have HO:=hid ho;rw [hln] at HO hln0 ⊢;clear ho hb hln hR;by_cases hin:i<n
  · have hi1:i<s.length:=by rw [HN.out];exact hin
    obtain⟨y,hy⟩:∃ y,s[i]=y:=⟨_,rfl⟩;obtain⟨Y,hY⟩:∃ Y:Nat,y.toNat=Y:=⟨_,rfl⟩;have hY256:Y<256:=by rw [←hY];exact y.toNat_lt
    have hbyte:∀ h:i<S.size,(S[i]'h).toNat=Y:=fun h=>by rw [HByte.out i hi1 h,hy,hY]
    have HD:=hid (show s.drop i=y::s.drop (i+1) from by rw [List.drop_eq_getElem_cons hi1,hy]);have hext:S.extract i n=str (s.drop i):=HEx.out i;have HCi:=hid (HCo.out i (by omega));have hZ:=codeN_lt (s.drop i);have HSo:=hid (@meantP_some (s.drop i));have HNo:=hid (show codeO (s.drop i)=false→meantB (s.drop i)=y::meantB (s.drop (i+1)) from by rw [HD.out];exact meantP_none);have HLg:=hid (show codeO (s.drop i)=true→i+3≤n from fun h=>by have:=codeO_long h;rw [List.length_drop,HN.out] at this;omega);have HAp:=hid (show ∀ (w1:World),Own w1 w.heap.size (.slice p ln c0) acc→w.heap.size≤w1.heap.size→_ from fun w1 h1 h2=>appb_any w.heap.size acc (UInt8.ofNat (codeN (s.drop i))) (.slice p ln c0) w1 h1 h2 (by rw [HLe.out];omega));rw [show (byteV (UInt8.ofNat (codeN (s.drop i))))= .int .u8 ((codeN (s.drop i)):Int) from by unfold byteV;congr 2;simp;omega] at HAp;obtain⟨Z,hZe⟩:∃ Z,codeN (s.drop i)=Z:=⟨_,rfl⟩;rw [hZe] at HCi hZ HSo HAp;obtain⟨T,hT⟩:∃ T,str (s.drop i)=T:=⟨_,rfl⟩;rw [hT] at hext HCi;have HPl:=hid (putC_len (UInt8.ofNat Z));clear hy hi1 hZe hT;cases hO:codeO (s.drop i) with
    |true=>
     have hi3:i+3≤n:=HLg.out hO;have HNx:=hid (show R=(acc++putC (UInt8.ofNat Z))++meantB (s.drop (i+3)) from by rw [HR.out,HSo.out hO,List.drop_drop];simp);rw [hO] at HCi;clear hO;go_wp2_with (first|(go_at_call 92;(with_reducible refine(HCi.out _).mono ?_);rintro e w1 ⟨rfl,rfl⟩)|(go_at_call 93;(with_reducible refine(HAp.out _ HO.out HB.out.size).mono ?_);rintro e w2 ⟨v7,rfl,how,hbw⟩;obtain⟨p7,L7,c7,rfl⟩:=own_slice3 how;have HW:=hid how;have HB2:=hid (HB.out.trans hbw);clear how hbw));go_roundg (n-(i+3)+1)
     case measure=>omega
     case rel=>exact⟨i+3,by omega,rfl,by push_cast;go_num,_,HW.out,by rw [List.length_append,HLe.out];have:=HPl.out;omega,HNx.out,HB2.out⟩
    |false=>
     have HNx:=hid (show R=(acc++ [y])++meantB (s.drop (i+1)) from by rw [HR.out,HNo.out hO];simp);have HBc:=hid (show Lib.byteCells [y]= [.int .u8 (Y:Int)] from by rw [one_cell,hY]);rw [hO] at HCi;clear hO hY;go_wp2_with (first|(go_at_call 92;(with_reducible refine(HCi.out _).mono ?_);rintro e w1 ⟨rfl,rfl⟩)|(at_builtin;refine wpList_append_own_at _ rfl (.tmp 25) (.tmp 29) 138 rfl w.heap.size 5 i0 _ 1 1 Tryz.underlying138 hi0 hz0 hz1 hz2 rfl (by decide) (.slice p ln c0) ln (Lib.byteCells acc) (by go_simp) (by have h8:=HO.out.alloc (.cells #[.int .u8 (Y:Int)] 5 (0,0));unfold Own at h8;rw [HLe.out] at h8;exact h8) ⟨w1.heap.size,0,none⟩ 1 1 [.int .u8 (Y:Int)] (by go_simp) rfl (cells_new w1 _ _) (by simp [Value.oneCell']) (by unfold maxLen;omega) (by omega) (Nat.le_trans HB.out.size (below_new _ _).size) ?_;intro v' w' hown hgr _ _;obtain⟨p7,L7,c7,rfl⟩:=own_slice3 hown;have HB2:=hid (HB.out.trans (((below_new w1 (.cells #[.int .u8 (Y:Int)] 5 (0,0))).mono HB.out.size).trans (Own.below (HO.out.alloc (.cells #[.int .u8 (Y:Int)] 5 (0,0))) (Nat.le_trans HB.out.size (below_new _ _).size) hgr)));have HW:=hid (Own.put (acc:=acc) (bs:=[y]) (by rw [HLe.out];exact hown) HBc.out rfl);clear hown hgr));go_roundg (n-(i+1)+1)
     case measure=>omega
     case rel=>exact⟨i+1,by omega,rfl,by push_cast;go_num,_,HW.out,by rw [List.length_append,HLe.out];simp;omega,HNx.out,HB2.out⟩
  · obtain rfl:n=i:=by omega
    have HV:=hid (show R=acc from by rw [HR.out,List.drop_of_length_le (by rw [HN.out];exact Nat.le_refl _)];simp [meantB]);have hcv:=conv_own HO.out;go_wp2;go_ret;rw [HV.out];exact⟨rfl,HB.out⟩
def segsL:B→List B
 | []=>[]
 |c::l=>if c=47 then l.takeWhile (fun y=>decide (y≠47))::segsL l else segsL l
theorem cutAt_segs:∀ l:B,cutAt 47 l=l.takeWhile (fun y=>decide (y≠47))::segsL l
 | []=>rfl
 |b::l=>by
  have ih:=cutAt_segs l;by_cases h:b=47
  · simp only [cutAt,segsL,if_pos h];rw [ih,List.takeWhile_cons,if_neg (by simp [h])]
  · simp only [cutAt,segsL,if_neg h];rw [ih,List.takeWhile_cons,if_pos (by simp [h])]
theorem segs_eq (l:B):segs l=segsL l:=by
 unfold segs;rw [cutAt_segs];rfl
theorem tw_at {l:B}{m:Nat} (h:∀ y∈l.take m,y≠47) (he:l.length≤m∨l[m]?=some 47):l.takeWhile (fun y=>decide (y≠47))=l.take m:=by
 induction m generalizing l with
 |zero=>
  cases l with
  |nil=>rfl
  |cons b l=>
   rcases he with he|he
   · simp at he
   · simp at he;rw [List.takeWhile_cons,if_neg (by simp [he])];rfl
 |succ m ih=>
  cases l with
  |nil=>rfl
  |cons b l=>
   rw [List.takeWhile_cons,if_pos (by simpa using h b (by simp)),List.take_succ_cons];congr 1;refine ih (fun y hy=>h y (by simp [hy])) ?_;rcases he with he|he
   · left;simp at he;omega
   · right;simpa using he
theorem segsL_len:∀ l:B,(segsL l).length≤l.length
 | []=>Nat.le_refl _
 |c::l=>by
  have:=segsL_len l;unfold segsL;split <;> simp <;> omega
theorem rsegments_any (s:B) (hs:s.length≤4398046511104) (w:World):Calls Tryz.prog 71 #[.string (str s)] w fun e w'=>∃ p c,e= .returned (.slice p (segs s).length c)∧OwnS w' w.heap.size (.slice p (segs s).length c) (segs s)∧Below w.heap.size w w':=by
 obtain⟨j0,hj0,hy0,hy1,hy2⟩:=info_parts infoS;obtain⟨n,hn⟩:∃ n,s.length=n:=⟨_,rfl⟩;have HN:=hid hn;obtain⟨S,hS⟩:∃ S,str s=S:=⟨_,rfl⟩;have hSn:S.size=n:=by rw [←hS,str_size,hn]
 have HByte:=hid (show ∀ (k:Nat) (h:k<s.length) (h2:k<S.size),S[k]'h2=s[k]'h from fun k h h2=>by subst hS;rfl);have HEx:=hid (ext_str s);obtain⟨R,hR0⟩:∃ R,segs s=R:=⟨_,rfl⟩;have HR0:=hid (show segsL s=R from(segs_eq s).symm.trans hR0);rw [hS] at HEx;rw [hn] at hs;rw [hS,hR0];clear hn hS hR0;go_enter Tryz.func71,Tryz.ntmps71;go_wp2;go_loopg [3,4] (n+1) (fun gk s3 s4 wr=>∃ i:Nat,i≤n∧gk=n-i+1∧s4= .int .i64 (i:Int)∧∃ acc:List B,OwnS wr w.heap.size s3 acc∧acc.length≤i∧R=acc++segsL (s.drop i)∧Below w.heap.size w wr)
 case atStart=>exact⟨0,by omega,rfl,rfl,[],OwnS.nil w _,by simp,by rw [←HR0.out];simp,Below.refl _ _⟩
 case round=>
  obtain⟨i,hi,rfl,rfl,acc,ho,hln0,hR,hb⟩:=hrel;have HB:=hid hb;have HR:=hid hR;obtain⟨ln,hln⟩:∃ ln,acc.length=ln:=⟨_,rfl⟩;have HLe:=hid hln;obtain⟨p,c0,rfl⟩:=own_slice ho;have HO:=hid ho;rw [hln] at HO hln0 ⊢;clear ho hb hln hR;by_cases hin:i<n
  · have hi1:i<s.length:=by rw [HN.out];exact hin
    obtain⟨y,hy⟩:∃ y,s[i]=y:=⟨_,rfl⟩;obtain⟨Y,hY⟩:∃ Y:Nat,y.toNat=Y:=⟨_,rfl⟩;have hY256:Y<256:=by rw [←hY];exact y.toNat_lt
    have hbyte:∀ h:i<S.size,(S[i]'h).toNat=Y:=fun h=>by rw [HByte.out i hi1 h,hy,hY]
    have HD:=hid (show s.drop i=y::s.drop (i+1) from by rw [List.drop_eq_getElem_cons hi1,hy]);rw [HD.out] at HR;clear hy hi1;by_cases hc:y=47
    · obtain rfl:Y=47:=by rw [←hY,hc];rfl
      have HSt:=hid (show R=acc++ [(s.drop (i+1)).takeWhile (fun y=>decide (y≠47))]++segsL (s.drop (i+1)) from by rw [HR.out,segsL,if_pos hc];simp);clear hc hY;go_wp2;go_loopg [5] (n-(i+1)+1) (fun gk s5 wr2=>∃ k:Nat,i+1≤k∧k≤n∧gk=n-k+1∧s5= .int .i64 (k:Int)∧(∀ y∈(s.drop (i+1)).take (k-(i+1)),y≠47)∧wr2=wr)
      case atStart=>exact⟨i+1,by omega,by omega,rfl,by push_cast;rfl,fun y hy=>by simp at hy,rfl⟩
      case round=>
       obtain⟨k,hk1,hk2,rfl,rfl,hno,rfl⟩:=hrel;have HNo:=hid hno;clear hno;have HIx:=hid (show ∀ h:k<s.length,(s.drop (i+1))[k-(i+1)]?=some s[k] from fun h=>by
        rw [List.getElem?_drop,show i+1+(k-(i+1))=k by omega,List.getElem?_eq_getElem h])
       have hext:S.extract (i+1) k=str ((s.drop (i+1)).take (k-(i+1))):=HEx.out (i+1) k;by_cases hkn:k<n
       · have hk3:k<s.length:=by rw [HN.out];exact hkn
         obtain⟨z,hz⟩:∃ z,s[k]=z:=⟨_,rfl⟩;obtain⟨Z,hZ⟩:∃ Z:Nat,z.toNat=Z:=⟨_,rfl⟩;have hZ256:Z<256:=by rw [←hZ];exact z.toNat_lt
         have hbyte2:∀ h:k<S.size,(S[k]'h).toNat=Z:=fun h=>by rw [HByte.out k hk3 h,hz,hZ]
         have HIz:=hid (HIx.out hk3);rw [hz] at HIz;clear hz hk3;by_cases hzc:z=47
         · obtain rfl:Z=47:=by rw [←hZ,hzc];rfl
           have HNx:=hid (show R=acc++ [(s.drop (i+1)).take (k-(i+1))]++segsL (s.drop (i+1)) from by rw [HSt.out,tw_at HNo.out (.inr (by rw [HIz.out,hzc]))]);clear hzc hZ;go_wp2_with (at_builtin;refine wpList_append_own_at _ rfl (.tmp 30) (.tmp 36) 36 rfl w.heap.size 9 j0 _ 1 16 Tryz.underlying36 hj0 hy0 hy1 hy2 rfl (by decide) (.slice p ln c0) ln (strC acc) (by go_simp) (by have h8:=HO.out.alloc (.cells #[.string (str ((s.drop (i+1)).take (k-(i+1))))] 9 (0,0));unfold OwnS at h8;rw [HLe.out] at h8;exact h8) ⟨wr.heap.size,0,none⟩ 1 1 [.string (str ((s.drop (i+1)).take (k-(i+1))))] (by go_simp) rfl (cells_new wr _ _) (by simp [Value.oneCell']) (by unfold maxLen;omega) (by omega) (Nat.le_trans HB.out.size (below_new _ _).size) ?_;intro v' w' hown hgr _ _;obtain⟨p7,L7,c7,rfl⟩:=own_slice3 hown;have HB2:=hid (HB.out.trans (((below_new wr (.cells #[.string (str ((s.drop (i+1)).take (k-(i+1))))] 9 (0,0))).mono HB.out.size).trans (OwnS.below (HO.out.alloc (.cells #[.string (str ((s.drop (i+1)).take (k-(i+1))))] 9 (0,0))) (Nat.le_trans HB.out.size (below_new _ _).size) hgr)));have HW:=hid (OwnS.put (acc:=acc) (t:=(s.drop (i+1)).take (k-(i+1))) (by rw [HLe.out];exact hown));clear hown hgr);go_roundg (n-(i+1)+1)
           case measure=>omega
           case rel=>exact⟨i+1,by omega,rfl,by push_cast;go_num,_,HW.out,by rw [List.length_append,HLe.out];simp;omega,HNx.out,HB2.out⟩
         · have z1:¬(Z:Int)=47:=fun e=>hzc (UInt8.toNat_inj.1 (by rw [hZ];show Z=47;omega))
           have z2:((Z:Int)== 47)=false:=by simpa using z1
           have HNy:=hid (show ∀ y∈(s.drop (i+1)).take (k+1-(i+1)),y≠47 from fun y hy=>by
            rw [show k+1-(i+1)=k-(i+1)+1 by omega,List.take_add_one,HIz.out] at hy;rcases List.mem_append.1 hy with hy|hy
            · exact HNo.out y hy
            · simp at hy;rw [hy];exact hzc)
           clear hzc hZ;go_wp2;go_roundg (n-(k+1)+1)
           case measure=>omega
           case rel=>exact⟨k+1,by omega,by omega,rfl,by push_cast;go_num,HNy.out,rfl⟩
       · obtain rfl:n=k:=by omega
         have HNx:=hid (show R=acc++ [(s.drop (i+1)).take (n-(i+1))]++segsL (s.drop (i+1)) from by rw [HSt.out,tw_at HNo.out (.inl (by rw [List.length_drop,HN.out];exact Nat.le_refl _))]);go_wp2_with (at_builtin;refine wpList_append_own_at _ rfl (.tmp 30) (.tmp 36) 36 rfl w.heap.size 9 j0 _ 1 16 Tryz.underlying36 hj0 hy0 hy1 hy2 rfl (by decide) (.slice p ln c0) ln (strC acc) (by go_simp) (by have h8:=HO.out.alloc (.cells #[.string (str ((s.drop (i+1)).take (n-(i+1))))] 9 (0,0));unfold OwnS at h8;rw [HLe.out] at h8;exact h8) ⟨wr.heap.size,0,none⟩ 1 1 [.string (str ((s.drop (i+1)).take (n-(i+1))))] (by go_simp) rfl (cells_new wr _ _) (by simp [Value.oneCell']) (by unfold maxLen;omega) (by omega) (Nat.le_trans HB.out.size (below_new _ _).size) ?_;intro v' w' hown hgr _ _;obtain⟨p7,L7,c7,rfl⟩:=own_slice3 hown;have HB2:=hid (HB.out.trans (((below_new wr (.cells #[.string (str ((s.drop (i+1)).take (n-(i+1))))] 9 (0,0))).mono HB.out.size).trans (OwnS.below (HO.out.alloc (.cells #[.string (str ((s.drop (i+1)).take (n-(i+1))))] 9 (0,0))) (Nat.le_trans HB.out.size (below_new _ _).size) hgr)));have HW:=hid (OwnS.put (acc:=acc) (t:=(s.drop (i+1)).take (n-(i+1))) (by rw [HLe.out];exact hown));clear hown hgr);go_roundg (n-(i+1)+1)
         case measure=>omega
         case rel=>exact⟨i+1,by omega,rfl,by push_cast;go_num,_,HW.out,by rw [List.length_append,HLe.out];simp;omega,HNx.out,HB2.out⟩
    · have z1:¬(Y:Int)=47:=fun e=>hc (UInt8.toNat_inj.1 (by rw [hY];show Y=47;omega))
      have z2:((Y:Int)== 47)=false:=by simpa using z1
      have HNx:=hid (show R=acc++segsL (s.drop (i+1)) from by rw [HR.out,segsL,if_neg hc]);clear hc hY;go_wp2;go_roundg (n-(i+1)+1)
      case measure=>omega
      case rel=>exact⟨i+1,by omega,rfl,by push_cast;go_num,acc,by have h8:=HO.out;exact h8,by rw [HLe.out];omega,HNx.out,HB.out⟩
  · obtain rfl:n=i:=by omega
    have HV:=hid (show R=acc from by rw [HR.out,List.drop_of_length_le (by rw [HN.out];exact Nat.le_refl _)];simp [segsL]);go_wp2;go_ret;rw [HV.out,HLe.out];exact⟨p,c0,rfl,HO.out,HB.out⟩
end Go.Proofs.YtlmlljlappjjjaaGreatDoor
