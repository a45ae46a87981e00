/- The document's texts in codes, and as they are meant. -/
import Derived.Test.YtlmlljlappjjjaaGreatDoorTPDec
import Derived.Test.YtlmlljlappjjjaaGreatDoorTFndP
namespace Go.Proofs.YtlmlljlappjjjaaGreatDoor
set_option maxRecDepth 20000
set_option maxHeartbeats 8000000
open Go.RowKit
abbrev greatT:ByteArray:=⟨#[48,49,50,51,52,53,54,55,56,57,65,66,67,68,69,70]⟩
theorem great_at (i:Nat) (hi:i<16):∀ (j:Nat) (h:j<greatT.size),j=i→(greatT[j]'h).toNat=(greatD i).toNat:=by
 intro j h e;subst e;have key:∀ K:Fin 16,greatT.data[K.val]?=some (greatD K.val):=by decide
 have h2:greatT.data[j]?=some (greatD j):=key ⟨j,hi⟩;have h3:greatT.data[j]?=some (greatT.data[j]'h):=Array.getElem?_eq_getElem h;have h4:greatT.data[j]'h=greatD j:=Option.some.inj (h3.symm.trans h2);exact congrArg UInt8.toNat h4
theorem new_drew (w:World) (o:Obj):Below w.heap.size w (w.alloc o).drew:=⟨(below_new w o).os,(below_new w o).tape,(below_new w o).output,(below_new w o).size,(below_new w o).block⟩
theorem three_cells (a b:UInt8):Lib.byteCells [37,a,b]= [.int .u8 37,.int .u8 (a.toNat:Int),.int .u8 (b.toNat:Int)]:=by simp [Lib.byteCells]
theorem meant_none:∀ {c:UInt8}{l:B},codeI (c::l)<0→meantB (c::l)=c::meantB l
 |c,[],_=>by simp [meantB]
 |c,[d],_=>by simp [meantB]
 |c,a::b::r,h=>by
  rw [meantB];cases hv:codeOf c a b with
  |none=>rfl
  |some v=>rw [codeI_some hv] at h;omega
theorem meant_some:∀ {c:UInt8}{l:B},¬codeI (c::l)<0→meantB (c::l)=(if unres (UInt8.ofNat (codeI (c::l)).toNat) then [UInt8.ofNat (codeI (c::l)).toNat] else codeB (UInt8.ofNat (codeI (c::l)).toNat))++meantB (l.drop 2)
 |c,[],h=>absurd (by rw [codeI_short (by simp)];omega) h
 |c,[d],h=>absurd (by rw [codeI_short (by simp)];omega) h
 |c,a::b::r,h=>by
  rw [meantB];cases hv:codeOf c a b with
  |none=>rw [codeI_none hv] at h;omega
  |some v=>
   rw [codeI_some hv];simp
theorem and15 (X:Nat) (h:X<256):bits BinOp.and IntKind.u8 (X:Int) 15=((X % 16:Nat):Int):=by
 have key:∀ K:Fin 256,bits BinOp.and IntKind.u8 (K.val:Int) 15=((K.val % 16:Nat):Int):=by decide+kernel
 exact key ⟨X,h⟩
def putC (c:UInt8):B:=if unres c then [c] else codeB c
theorem putC_len (c:UInt8):(putC c).length≤3:=by unfold putC;split <;> simp [codeB]
theorem appb_any (base:Nat) (acc:B) (y:UInt8) (v:Value) (w:World) (ho:Own w base v acc) (hbs:base≤w.heap.size) (hl:acc.length≤105553116266496):
  Calls Tryz.prog 93 #[v,byteV y] w fun e w'=>∃ v',e= .returned v'∧Own w' base v' (acc++putC y)∧Below base w w':=by
 obtain⟨i0,hi0,hz0,hz1,hz2⟩:=info_parts infoB;obtain⟨ln,hln⟩:∃ ln,acc.length=ln:=⟨_,rfl⟩;have HLe:=hid hln;obtain⟨p,c0,rfl⟩:=own_slice ho;have HO:=hid ho;have HB:=hid (show Below base w w from Below.refl _ _);have HBs:=hid hbs;rw [hln] at HO hl ⊢;clear ho hln hbs;have HUn:=hid (punres_any y);obtain⟨Y,hY⟩:∃ Y:Nat,y.toNat=Y:=⟨_,rfl⟩;have hY256:Y<256:=by rw [←hY];exact y.toNat_lt
 unfold byteV at HUn ⊢;rw [hY] at HUn ⊢;have HBy:=hid (show Lib.byteCells [y]= [.int .u8 (Y:Int)] from by rw [one_cell,hY]);cases hu:unres y with
 |true=>
  rw [show putC y= [y] from by unfold putC;rw [hu];rfl];rw [hu] at HUn;clear hu hY;go_enter Tryz.func93,Tryz.ntmps93;go_wp2_with (first|(go_at_call 131;(with_reducible refine(HUn.out _).mono ?_);rintro e w1 ⟨rfl,rfl⟩)|(at_builtin;refine wpList_append_own_at _ rfl (.tmp 7) (.tmp 9) 138 rfl base 5 i0 _ 1 1 Tryz.underlying138 hi0 hz0 hz1 hz2 rfl (by decide) (.slice p ln c0) ln (Lib.byteCells acc) (by go_simp) (by have h8:=HO.out.alloc (.cells #[.int .u8 (Y:Int)] 5 (0,0));unfold Own at h8;rw [HLe.out] at h8;exact h8) ⟨w1.heap.size,0,none⟩ 1 1 [.int .u8 (Y:Int)] (by go_simp) rfl (cells_new w1 _ _) (by simp [Value.oneCell']) (by unfold maxLen;omega) (by omega) (Nat.le_trans HBs.out (below_new _ _).size) ?_;intro v' w' hown hgr _ _;obtain⟨p7,L7,c7,rfl⟩:=own_slice3 hown;have HB2:=hid (HB.out.trans (((below_new w1 (.cells #[.int .u8 (Y:Int)] 5 (0,0))).mono HBs.out).trans (Own.below (HO.out.alloc (.cells #[.int .u8 (Y:Int)] 5 (0,0))) (Nat.le_trans HBs.out (below_new _ _).size) hgr)));have HW:=hid (Own.put (acc:=acc) (bs:=[y]) (by rw [HLe.out];exact hown) HBy.out rfl);clear hown hgr));go_ret;exact⟨_,rfl,HW.out,HB2.out⟩
 |false=>
  rw [show putC y= [37,greatD (Y / 16),greatD (Y % 16)] from by unfold putC;rw [hu,←hY];rfl];rw [hu] at HUn;clear hu hY;have HE1:=hid (great_at (Y / 16) (by omega));have HE2:=hid (great_at (Y % 16) (by omega));have hand:=and15 Y hY256;obtain⟨h1,hh1⟩:∃ h1,greatD (Y / 16)=h1:=⟨_,rfl⟩;obtain⟨h2,hh2⟩:∃ h2,greatD (Y % 16)=h2:=⟨_,rfl⟩;rw [hh1] at HE1;rw [hh2] at HE2;rw [hh1,hh2];have HBc:=hid (three_cells h1 h2);clear hh1 hh2;go_enter Tryz.func93,Tryz.ntmps93;go_wp2_with (go_at_call 131;(with_reducible refine(HUn.out _).mono ?_);rintro e w1 ⟨rfl,hw1⟩;subst w1);refine wp_region_noPanic ?_;refine any_begin 10 (by kernel_rfl) (by kernel_rfl) ?_;refine atk (i:=0) (some 11) rfl rfl (v:= ?v0a) ?hy0a ?rest0a
  case hy0a=>intro w0;go_simp;try with_reducible rfl
  simp only [Act.put,sA,sB,sC];refine atk (i:=1) (some 12) rfl rfl (v:= ?v1a) ?hy1a ?rest1a
  case hy1a=>intro w0;go_simp;try with_reducible rfl
  simp only [Act.put,sA,sB,sC];refine atk (i:=2) (some 13) rfl rfl (v:=.int .u8 ((Y / 16:Nat):Int)) ?hy2a ?rest2a
  case hy2a=>intro w0;go_simp;try rfl
  simp only [Act.put,sA,sB,sC];refine atk (i:=3) (some 14) rfl rfl (v:=.int .u8 (h1.toNat:Int)) ?hy3a ?rest3a
  case hy3a=>intro w0;go_simp;rw [dif_pos ⟨by omega,by omega⟩];simp only [Result.andThen];congr 4;exact HE1.out _ _ (by omega)
  simp only [Act.put,sA,sB,sC];refine atk (i:=4) (some 15) rfl rfl (v:= ?v4a) ?hy4a ?rest4a
  case hy4a=>intro w0;go_simp;try with_reducible rfl
  simp only [Act.put,sA,sB,sC];refine atk (i:=5) (some 16) rfl rfl (v:=.int .u8 ((Y % 16:Nat):Int)) ?hy5a ?rest5a
  case hy5a=>intro w0;go_simp;try rfl
  simp only [Act.put,sA,sB,sC];refine atk (i:=6) (some 17) rfl rfl (v:=.int .u8 (h2.toNat:Int)) ?hy6a ?rest6a
  case hy6a=>intro w0;go_simp;rw [dif_pos ⟨by omega,by omega⟩];simp only [Result.andThen];congr 4;exact HE2.out _ _ (by omega)
  simp only [Act.put,sA,sB,sC];refine any_one (i:=7) (by kernel_rfl) rfl (fun K hK=>?_);go_simp;refine hK _ _ ?_;clear hK K;refine any_one (i:=8) (by kernel_rfl) rfl (fun K hK=>?_);rw [if_pos (by rfl)];refine wp_append_own_at (.tmp 11) (.tmp 18) 138 rfl base 5 i0 _ 1 1 Tryz.underlying138 hi0 hz0 hz1 hz2 rfl (by decide) (.slice p ln c0) ln (Lib.byteCells acc) (by go_simp) (by have h8:=HO.out.alloc (.cells #[.int .u8 37,.int .u8 (h1.toNat:Int),.int .u8 (h2.toNat:Int)] 5 (0,0));unfold Own at h8;rw [HLe.out] at h8;exact h8) ⟨w.heap.size,0,none⟩ 3 3 [.int .u8 37,.int .u8 (h1.toNat:Int),.int .u8 (h2.toNat:Int)] (by go_simp) rfl (cells_new w _ _) (by simp [Value.oneCell']) (by unfold maxLen;omega) (by omega) (Nat.le_trans HBs.out (below_new _ _).size) ?_;intro v' w' hown hgr _;obtain⟨p7,L7,c7,rfl⟩:=own_slice3 hown;have HB2:=hid (HB.out.trans (((new_drew w _).mono HBs.out).trans (Own.below (show Own (w.alloc (.cells #[.int .u8 37,.int .u8 (h1.toNat:Int),.int .u8 (h2.toNat:Int)] 5 (0,0))).drew base _ acc from HO.out.alloc (.cells #[.int .u8 37,.int .u8 (h1.toNat:Int),.int .u8 (h2.toNat:Int)] 5 (0,0))) (Nat.le_trans HBs.out (below_new _ _).size) hgr)));have HW:=hid (Own.put (acc:=acc) (bs:=[37,h1,h2]) (by rw [HLe.out];exact hown) HBc.out rfl);clear hown hgr;show K (Act.put _ (some 19) (.slice p7 L7 c7)) w';refine hK _ _ ?_;clear hK K;simp only [Act.put,sA,sB,sC];refine atk (i:=9) (some 4) rfl rfl (v:= ?v9a) ?hy9a ?rest9a
  case hy9a=>intro w0;go_simp;try with_reducible rfl
  simp only [Act.put,sA,sB,sC];refine any_done (by kernel_rfl) ?_ _;refine NoPanic.normal ?_;go_wp2;go_ret;exact⟨_,rfl,HW.out,HB2.out⟩
theorem meantP_some:∀ {l:B},codeO l=true→meantB l=putC (UInt8.ofNat (codeN l))++meantB (l.drop 3)
 | [],h=>by simp [codeO,codeI] at h
 | [c],h=>by simp [codeO,codeI] at h
 | [c,d],h=>by simp [codeO,codeI] at h
 |c::a::b::r,h=>by
  have h0:¬codeI (c::a::b::r)<0:=by unfold codeO at h;simp at h;omega
  rw [meant_some h0];unfold putC codeN;rw [if_neg h0];rfl
theorem meantP_none {c:UInt8}{l:B} (h:codeO (c::l)=false):meantB (c::l)=c::meantB l:=meant_none (by unfold codeO at h;simp at h;omega)
theorem oneway_any (s:B) (hs:s.length≤35184372088832) (w:World):Calls Tryz.prog 50 #[.string (str s)] w fun e w'=>e= .returned (.string (str (meantB s)))∧Below w.heap.size w w':=by
 obtain⟨i0,hi0,hz0,hz1,hz2⟩:=info_parts infoB;obtain⟨n,hn⟩:∃ n,s.length=n:=⟨_,rfl⟩;have HN:=hid hn;obtain⟨S,hS⟩:∃ S,str s=S:=⟨_,rfl⟩;have hSn:S.size=n:=by rw [←hS,str_size,hn]
 have HByte:=hid (show ∀ (k:Nat) (h:k<s.length) (h2:k<S.size),S[k]'h2=s[k]'h from fun k h h2=>by subst hS;rfl);have HCo:=hid (show ∀ i,i≤n→∀ w,_ from fun i hi=>pcode_any (s.drop i) (by rw [List.length_drop];omega));have HEx:=hid (show ∀ i,S.extract i n=str (s.drop i) from fun i=>by rw [←hS];exact ext_drop s i n hn);obtain⟨R,hR0⟩:∃ R,meantB s=R:=⟨_,rfl⟩;have HR0:=hid hR0;rw [hn] at hs;rw [hS,hR0];clear hn hS hR0;obtain⟨W0,hmk,hown0,hbel0⟩:=mk_row w n (by omega);have HO0:=hid hown0;have HB0:=hid hbel0;clear hown0 hbel0;go_enter Tryz.func50,Tryz.ntmps50;go_wp2;clear hmk;go_loopg [3,4] (n+1) (fun gk s3 s4 wr=>∃ i:Nat,i≤n∧gk=n-i+1∧s4= .int .i64 (i:Int)∧∃ acc:B,Own wr w.heap.size s3 acc∧acc.length≤i∧R=acc++meantB (s.drop i)∧Below w.heap.size w wr)
 case atStart=>exact⟨0,by omega,rfl,rfl,[],HO0.out,by simp,by rw [←HR0.out];simp,HB0.out⟩
 case round=>
  obtain⟨i,hi,rfl,rfl,acc,ho,hln0,hR,hb⟩:=hrel;have HB:=hid hb;have HR:=hid hR;obtain⟨ln,hln⟩:∃ ln,acc.length=ln:=⟨_,rfl⟩;have HLe:=hid hln;obtain⟨p,c0,rfl⟩:=own_slice ho;have HO:=hid ho;rw [hln] at HO hln0 ⊢;clear ho hb hln hR;by_cases hin:i<n
  · have hi1:i<s.length:=by rw [HN.out];exact hin
    obtain⟨y,hy⟩:∃ y,s[i]=y:=⟨_,rfl⟩;obtain⟨Y,hY⟩:∃ Y:Nat,y.toNat=Y:=⟨_,rfl⟩;have hY256:Y<256:=by rw [←hY];exact y.toNat_lt
    have hbyte:∀ h:i<S.size,(S[i]'h).toNat=Y:=fun h=>by rw [HByte.out i hi1 h,hy,hY]
    have HD:=hid (show s.drop i=y::s.drop (i+1) from by rw [List.drop_eq_getElem_cons hi1,hy]);have hext:S.extract i n=str (s.drop i):=HEx.out i;have HCi:=hid (HCo.out i (by omega));have hZ:=codeN_lt (s.drop i);have HSo:=hid (@meantP_some (s.drop i));have HNo:=hid (show codeO (s.drop i)=false→meantB (s.drop i)=y::meantB (s.drop (i+1)) from by rw [HD.out];exact meantP_none);have HLg:=hid (show codeO (s.drop i)=true→i+3≤n from fun h=>by have:=codeO_long h;rw [List.length_drop,HN.out] at this;omega);have HAp:=hid (show ∀ (w1:World),Own w1 w.heap.size (.slice p ln c0) acc→w.heap.size≤w1.heap.size→_ from fun w1 h1 h2=>appb_any w.heap.size acc (UInt8.ofNat (codeN (s.drop i))) (.slice p ln c0) w1 h1 h2 (by rw [HLe.out];omega));rw [show (byteV (UInt8.ofNat (codeN (s.drop i))))= .int .u8 ((codeN (s.drop i)):Int) from by unfold byteV;congr 2;simp;omega] at HAp;obtain⟨Z,hZe⟩:∃ Z,codeN (s.drop i)=Z:=⟨_,rfl⟩;rw [hZe] at HCi hZ HSo HAp;obtain⟨T,hT⟩:∃ T,str (s.drop i)=T:=⟨_,rfl⟩;rw [hT] at hext HCi;have HPl:=hid (putC_len (UInt8.ofNat Z));clear hy hi1 hZe hT;cases hO:codeO (s.drop i) with
    |true=>
     have hi3:i+3≤n:=HLg.out hO;have HNx:=hid (show R=(acc++putC (UInt8.ofNat Z))++meantB (s.drop (i+3)) from by rw [HR.out,HSo.out hO,List.drop_drop];simp);rw [hO] at HCi;clear hO;go_wp2_with (first|(go_at_call 92;(with_reducible refine(HCi.out _).mono ?_);rintro e w1 ⟨rfl,rfl⟩)|(go_at_call 93;(with_reducible refine(HAp.out _ HO.out HB.out.size).mono ?_);rintro e w2 ⟨v7,rfl,how,hbw⟩;obtain⟨p7,L7,c7,rfl⟩:=own_slice3 how;have HW:=hid how;have HB2:=hid (HB.out.trans hbw);clear how hbw));go_roundg (n-(i+3)+1)
     case measure=>omega
     case rel=>exact⟨i+3,by omega,rfl,by push_cast;go_num,_,HW.out,by rw [List.length_append,HLe.out];have:=HPl.out;omega,HNx.out,HB2.out⟩
    |false=>
     have HNx:=hid (show R=(acc++ [y])++meantB (s.drop (i+1)) from by rw [HR.out,HNo.out hO];simp);have HBc:=hid (show Lib.byteCells [y]= [.int .u8 (Y:Int)] from by rw [one_cell,hY]);rw [hO] at HCi;clear hO hY;go_wp2_with (first|(go_at_call 92;(with_reducible refine(HCi.out _).mono ?_);rintro e w1 ⟨rfl,rfl⟩)|(at_builtin;refine wpList_append_own_at _ rfl (.tmp 25) (.tmp 29) 138 rfl w.heap.size 5 i0 _ 1 1 Tryz.underlying138 hi0 hz0 hz1 hz2 rfl (by decide) (.slice p ln c0) ln (Lib.byteCells acc) (by go_simp) (by have h8:=HO.out.alloc (.cells #[.int .u8 (Y:Int)] 5 (0,0));unfold Own at h8;rw [HLe.out] at h8;exact h8) ⟨w1.heap.size,0,none⟩ 1 1 [.int .u8 (Y:Int)] (by go_simp) rfl (cells_new w1 _ _) (by simp [Value.oneCell']) (by unfold maxLen;omega) (by omega) (Nat.le_trans HB.out.size (below_new _ _).size) ?_;intro v' w' hown hgr _ _;obtain⟨p7,L7,c7,rfl⟩:=own_slice3 hown;have HB2:=hid (HB.out.trans (((below_new w1 (.cells #[.int .u8 (Y:Int)] 5 (0,0))).mono HB.out.size).trans (Own.below (HO.out.alloc (.cells #[.int .u8 (Y:Int)] 5 (0,0))) (Nat.le_trans HB.out.size (below_new _ _).size) hgr)));have HW:=hid (Own.put (acc:=acc) (bs:=[y]) (by rw [HLe.out];exact hown) HBc.out rfl);clear hown hgr));go_roundg (n-(i+1)+1)
     case measure=>omega
     case rel=>exact⟨i+1,by omega,rfl,by push_cast;go_num,_,HW.out,by rw [List.length_append,HLe.out];simp;omega,HNx.out,HB2.out⟩
  · obtain rfl:n=i:=by omega
    have HV:=hid (show R=acc from by rw [HR.out,List.drop_of_length_le (by rw [HN.out];exact Nat.le_refl _)];simp [meantB]);have hcv:=conv_own HO.out;go_wp2;go_ret;rw [HV.out];exact⟨rfl,HB.out⟩
theorem meant_len:∀ s:B,(meantB s).length≤s.length
 | []=>Nat.le_refl _
 | [_]=>Nat.le_refl _
 | [_,_]=>Nat.le_refl _
 |c::a::b::r=>by
  rw [meantB];split
  · have:=meant_len (a::b::r);simp at this ⊢;omega
  · have:=meant_len r;rename_i v _
    have h3:(if unres v=true then [v] else codeB v).length≤3:=by split <;> simp [codeB]
    rw [List.length_append];simp;omega
theorem join_drop:∀ l:List B,(joinS l.dropLast).length≤(joinS l).length:=by
 intro l;rcases List.eq_nil_or_concat l with rfl|⟨a,b,rfl⟩
 · simp
 · simp [join_app]
theorem dots_len:∀ (L out o:List B),dotsL L out=some o→(joinS o).length≤(joinS out).length+(joinS L).length
 | [],out,o,h=>by simp [dotsL] at h;subst h;simp
 |t::r,out,o,h=>by
  have ej:(joinS (t::r)).length=t.length+1+(joinS r).length:=by simp [joinS];omega
  have hd:=join_drop out;rw [dotsL] at h;split at h
  · split at h
    · cases h;rw [join_app,List.length_append,ej];simp [joinS];omega
    · have:=dots_len r _ _ h;omega
  · split at h
    · split at h
      · cases h
      · split at h
        · cases h;rw [join_app,List.length_append,ej];simp [joinS] at hd ⊢;omega
        · have:=dots_len r _ _ h;omega
    · have:=dots_len r _ _ h;rw [join_app,List.length_append] at this;have e2:(joinS [t]).length=t.length+1:=by simp [joinS]
      omega
theorem dots_one {r out:List B}:dotsL ([46]::r) out=dotsL r (if r= [] then out++ [[]] else out):=by
 rw [dotsL,if_pos rfl];split
 · next h=>rw [h];rfl
 · rfl
theorem dots_nil2 {r:List B}:dotsL ([46,46]::r) []=none:=by
 rw [dotsL,if_neg (by decide),if_pos rfl,if_pos rfl]
theorem dots_two {r out:List B}{x:B}:dotsL ([46,46]::r) (out++ [x])=dotsL r (if r= [] then out++ [[]] else out):=by
 rw [dotsL,if_neg (by decide),if_pos rfl,if_neg (by simp),List.dropLast_concat];split
 · next h=>rw [h];rfl
 · rfl
theorem dots_else {r out:List B}{t:B} (h1:t≠ [46]) (h2:t≠ [46,46]):dotsL (t::r) out=dotsL r (out++ [t]):=by rw [dotsL,if_neg h1,if_neg h2]
structure Env (w:World):Prop where
 most:∃ m:Int,w.cell? ⟨0,0,none⟩=some (.int .i64 m)
theorem Env.below {w w':World} (h:Env w) (hb:Below w.heap.size w w'):Env w':=by
 obtain⟨m,h1⟩:=h.most;exact⟨m,cell_keep hb h1⟩
theorem byte_miss_t (x:UInt8):∀ l:List UInt8,Lib.indexByte l x= -1→∀ y∈l,y≠x
 | [],_,y,hy=>by simp at hy
 |b::l,h,y,hy=>by
  unfold Lib.indexByte at h;split at h
  · simp at h
  · rename_i hb
    split at h
    · rename_i h2
      rcases List.mem_cons.1 hy with rfl|hy
      · simpa using hb
      · exact byte_miss_t x l (by simpa using h2) y hy
    · rename_i h2
      have:=Lib.indexByte_ge l x;simp at h2;omega
theorem byte_hit_t (x:UInt8):∀ (l:List UInt8) (i:Nat),Lib.indexByte l x=i→(∀ y∈l.take i,y≠x)∧l=l.take i++x::l.drop (i+1)
 | [],i,h=>by simp [Lib.indexByte] at h
 |b::l,i,h=>by
  unfold Lib.indexByte at h;split at h
  · rename_i hb
    have hi:i=0:=by omega
    subst hi;have hb':b=x:=by simpa using hb
    subst hb';simp
  · rename_i hb
    split at h
    · omega
    · rename_i h2
      have:=Lib.indexByte_ge l x;simp at h2;obtain⟨j,rfl⟩:∃ j,i=j+1:=⟨i-1,by omega⟩;obtain⟨h3,h4⟩:=byte_hit_t x l j (by omega);refine⟨?_,?_⟩
      · intro y hy;rw [List.take_succ_cons] at hy;rcases List.mem_cons.1 hy with rfl|hy
        · simpa using hb
        · exact h3 y hy
      · rw [List.take_succ_cons,List.drop_succ_cons,List.cons_append,←h4]
theorem cut_lib (x:UInt8) (s:B):Lib.cut s [x]=cutF x s:=by
 unfold Lib.cut;rw [Lib.index_one];have hge:=Lib.indexByte_ge s x;by_cases h:Lib.indexByte s x= -1
 · rw [h,if_neg (by decide),cutF_no s (byte_miss_t x s h)]
 · obtain⟨i,hi⟩:∃ i:Nat,Lib.indexByte s x=i:=⟨(Lib.indexByte s x).toNat,by omega⟩;obtain⟨h1,h2⟩:=byte_hit_t x s i hi;rw [hi,if_pos (by omega)];conv=>rhs;rw [h2]
   rw [cutF_at _ _ h1];rfl
theorem pcut_any (x:UInt8) (s:B) (hs:s.length≤4294967280) (w:World) (hE:Env w):Calls Tryz.prog 80 #[.string (str s),.string ⟨#[x]⟩] w fun e w'=>e= .returned (.tuple #[.string (str (cutF x s).1),.string (str (cutF x s).2.1),.bool (cutF x s).2.2])∧Below w.heap.size w w':=by
 obtain⟨m,hm⟩:=hE.most;refine(Tryz.strings_Cut (str s) ⟨#[x]⟩ m w (by rw [str_size];omega) hm).mono ?_;rintro e w' ⟨rfl,q,rfl⟩;have e1:Lib.cut (str s).data.toList (⟨#[x]⟩:ByteArray).data.toList=cutF x s:=cut_lib x s;rw [e1];exact⟨rfl,below_drew (Below.refl _ _) q⟩
theorem pprefix_any (s:B) (w:World):Calls Tryz.prog 87 #[.string (str s),.string ⟨#[47]⟩] w fun e w'=>e= .returned (.bool (decide (s.head? =some 47)))∧w'=w:=by
 refine(Tryz.strings_HasPrefix (str s) ⟨#[47]⟩ w).mono ?_;rintro e w' ⟨rfl,rfl⟩;refine⟨?_,rfl⟩;have:Lib.hasPrefix (str s).data.toList (⟨#[47]⟩:ByteArray).data.toList=decide (s.head? =some 47):=by
  show ([47]:List UInt8).isPrefixOf s=_;cases s with
  |nil=>rfl
  |cons c l=>
   simp only [List.isPrefixOf,Bool.and_true,List.head?_cons,Option.some.injEq];rw [Bool.eq_iff_iff];simp only [beq_iff_eq,decide_eq_true_eq];exact eq_comm
 rw [this]
theorem last_any (base:Nat) (a b:B) (hb:∀ y∈b,y≠(47:UInt8)) (n:Nat) (hn:(a++47::b).length=n) (hl:n≤140737488355328) (p:Option Addr) (c:Nat) (w:World) (ho:Own w base (.slice p n c) (a++47::b)):
  Calls Tryz.prog 91 #[.slice p n c,.int .u8 47] w fun e w'=>e= .returned (.int .i64 (a.length:Int))∧w'=w:=by
 have HO:=hid ho;obtain⟨la,hla⟩:∃ la,a.length=la:=⟨_,rfl⟩;have HA:=hid hla;have hlt:la<n:=by rw [←hn,List.length_append,hla];simp
 have HAt:=hid (show (a++47::b)[la]?=some 47 from by rw [←hla];simp);have HBe:=hid (show ∀ i y,la<i→(a++47::b)[i]?=some y→y≠47 from fun i y hi hy=>by
  rw [List.getElem?_append_right (by omega)] at hy;obtain⟨k,hk⟩:∃ k,i-a.length=k+1:=⟨i-a.length-1,by omega⟩;rw [hk,List.getElem?_cons_succ] at hy;exact hb y (List.mem_of_getElem? hy))
 have HN:=hid hn;obtain⟨g,o,rfl,hc0⟩:=HO.out.at HAt.out;have HK:=hid (show ∀ i y,(a++47::b)[i]?=some y→w.cell? ⟨g,o+i,none⟩=some (.int .u8 (y.toNat:Int)) from fun i y hy=>by
  obtain⟨g',o',e',h'⟩:=HO.out.at hy;cases e';exact h')
 rw [hla];clear hla ho hb hn hc0;go_enter Tryz.func91,Tryz.ntmps91;go_wp2;go_loopg [5] n (fun gk s5 wr=>∃ i:Nat,la≤i∧i<n∧gk=i+1∧s5= .int .i64 (i:Int)∧wr=w)
 case atStart=>exact⟨n-1,by omega,by omega,by omega,by go_num,rfl⟩
 case round=>
  obtain⟨i,hi,hin,rfl,rfl,rfl⟩:=hrel;have hi1:i<(a++47::b).length:=by rw [HN.out];exact hin
  obtain⟨y,hy⟩:∃ y,(a++47::b)[i]?=some y:=⟨_,List.getElem?_eq_getElem hi1⟩;have hcell:=HK.out i y hy;have HY:=hid hy;clear hi1 hy;by_cases he:i=la
  · subst he;obtain rfl:y=47:=Option.some.inj (HY.out.symm.trans HAt.out);go_wp2;go_ret;exact⟨rfl,rfl⟩
  · have hne:=HBe.out i y (by omega) HY.out;have z1:¬(y.toNat:Int)=47:=fun e=>hne (UInt8.toNat_inj.1 (by show y.toNat=47;omega))
    have z2:((y.toNat:Int)== 47)=false:=by simpa using z1
    have hpos:0<i:=by omega
    clear hne;go_wp2;go_roundg (i-1+1)
    case measure=>omega
    case rel=>exact⟨i-1,by omega,by omega,by omega,by go_num,rfl⟩
def chkR (r:RtC):Nat:=if checkN r.host≠0 then checkN r.host else if chkN r.path≠0 then chkN r.path else methE r.ms
theorem cells_r3 {U:World}{g:Nat}{a b c v3 v4 v5 v6 v7 v8 v9 v10 v11 v12:Value}{T:TypeId} (h:U.heap[g]?=some (.cells #[a,b,c,v3,v4,v5,v6,v7,v8,v9,v10,v11,v12] T (0,0))):U.cell? ⟨g,0,none⟩=some a∧U.cell? ⟨g,1,none⟩=some b∧U.cell? ⟨g,2,none⟩=some c:=by
 refine⟨?_,?_,?_⟩ <;> simp [World.cell?,h]
theorem errOf_ne {k:Nat} (h:k≠0):errOf k= .iface 74 (.int .i64 (k:Int)):=by
 unfold errOf;rw [if_neg h]
theorem pchk_any (r:RtC) (p:Option Addr) (n c:Nat) (hn:r.ms.length=n) (hc:n≤c) (hz:∀ x∈r.ms,x.length≤maxLen) (hnn:n≤140737488355328) (h1:r.host.length≤140737488355328) (h2:r.path.length≤4398046511104) (v3 v4 v5 v6 v7 v8 v9 v10 v11 v12:Value) (w:World) (hmx:MxAt w) (hT:TxAt w p r.ms):Calls Tryz.prog 24 #[.agg #[.string (str r.host),.string (str r.path),.slice p n c,v3,v4,v5,v6,v7,v8,v9,v10,v11,v12]] w fun e w'=>e= .returned (errOf (chkR r))∧Below w.heap.size w w':=by
 have HH:=hid (fun (W:World) (hb:Below w.heap.size w W)=>pcheckN r.host (by omega) W (hmx.next hb));have HP:=hid (fun (W:World) (hb:Below w.heap.size w W)=>chk_prog r.path h2 W (hmx.next hb));have HM:=hid (fun (W:World) (hb:Below w.heap.size w W)=>pmeth_any r.ms p n c hn hc hz hnn W (hT.next hb));unfold chkR;obtain⟨a,ha⟩:∃ a,checkN r.host=a:=⟨_,rfl⟩;obtain⟨b,hb⟩:∃ b,chkN r.path=b:=⟨_,rfl⟩;obtain⟨d,hd⟩:∃ d,methE r.ms=d:=⟨_,rfl⟩;rw [ha] at HH ⊢;rw [hb] at HP ⊢;rw [hd] at HM ⊢;obtain⟨Sh,hSh⟩:∃ S,str r.host=S:=⟨_,rfl⟩;obtain⟨Sp,hSp⟩:∃ S,str r.path=S:=⟨_,rfl⟩;rw [hSh] at HH ⊢;rw [hSp] at HP ⊢;have HB:=hid (show Below w.heap.size w (w.alloc (.cells #[.string Sh,.string Sp,.slice p n c,v3,v4,v5,v6,v7,v8,v9,v10,v11,v12] 42 (0,0))) from below_new w _);have HC:=hid (show (w.alloc (.cells #[.string Sh,.string Sp,.slice p n c,v3,v4,v5,v6,v7,v8,v9,v10,v11,v12] 42 (0,0))).heap[w.heap.size]?=some (.cells #[.string Sh,.string Sp,.slice p n c,v3,v4,v5,v6,v7,v8,v9,v10,v11,v12] 42 (0,0)) from heap_alloc_new w _);clear ha hb hd hSh hSp hn hz hT hmx h1 h2;by_cases ha:a=0
 · subst ha;rw [if_neg (by simp)];rw [show errOf 0= .nilIface from rfl] at HH;by_cases hb:b=0
   · subst hb;rw [if_neg (by simp)];rw [show errOf 0= .nilIface from rfl] at HP;obtain⟨D,hD⟩:∃ D,errOf d=D:=⟨_,rfl⟩;rw [hD] at HM ⊢;clear hD;go_enter Tryz.func24,Tryz.ntmps24;go_wp2_with (first|(go_at_call 56;(with_reducible refine(HH.out _ HB.out).mono ?_);rintro e w1 ⟨rfl,hb⟩;replace HB:=hid (below_out HB.out hb);replace HC:=hid (kB hb HC.out);obtain⟨x0,x1,x2⟩:=cells_r3 HC.out;clear hb)|(go_at_call 57;(with_reducible refine(HP.out _ HB.out).mono ?_);rintro e w1 ⟨rfl,hb⟩;replace HB:=hid (below_out HB.out hb);replace HC:=hid (kB hb HC.out);obtain⟨x0,x1,x2⟩:=cells_r3 HC.out;clear hb)|(go_at_call 16;(with_reducible refine(HM.out _ HB.out).mono ?_);rintro e w1 ⟨rfl,hw1⟩;subst w1));go_ret;exact⟨rfl,HB.out⟩
   · rw [if_pos hb];rw [errOf_ne hb] at HP ⊢;go_enter Tryz.func24,Tryz.ntmps24;go_wp2_with (first|(go_at_call 56;(with_reducible refine(HH.out _ HB.out).mono ?_);rintro e w1 ⟨rfl,hb⟩;replace HB:=hid (below_out HB.out hb);replace HC:=hid (kB hb HC.out);obtain⟨x0,x1,x2⟩:=cells_r3 HC.out;clear hb)|(go_at_call 57;(with_reducible refine(HP.out _ HB.out).mono ?_);rintro e w1 ⟨rfl,hb⟩;replace HB:=hid (below_out HB.out hb);replace HC:=hid (kB hb HC.out);obtain⟨x0,x1,x2⟩:=cells_r3 HC.out;clear hb));go_ret;exact⟨rfl,HB.out⟩
 · rw [if_pos ha];rw [errOf_ne ha] at HH ⊢;go_enter Tryz.func24,Tryz.ntmps24;go_wp2_with (go_at_call 56;(with_reducible refine(HH.out _ HB.out).mono ?_);rintro e w1 ⟨rfl,hb⟩;replace HB:=hid (below_out HB.out hb);replace HC:=hid (kB hb HC.out);obtain⟨x0,x1,x2⟩:=cells_r3 HC.out;clear hb);go_ret;exact⟨rfl,HB.out⟩
def likeR (a b:B):Bool:=checkP a && checkP b && decide (keysP a=keysP b)
def clashR (a b:RtC):Bool:=decide (lowH a.host=lowH b.host) && likeR a.path b.path && (decide (a.path≠b.path) || meetR a.ms b.ms)
structure BxR (w W:World) (O1 O2:Obj):Prop where
 low:Below w.heap.size w W
 a:W.heap[w.heap.size]?=some O1
 b:W.heap[w.heap.size+1]?=some O2
theorem BxR.next {w W W':World}{O1 O2:Obj} (h:BxR w W O1 O2) (hb:Below W.heap.size W W'):BxR w W' O1 O2:=⟨below_out h.low hb,kB hb h.a,kB hb h.b⟩
theorem BxR.new (w:World) (O1 O2:Obj):BxR w ((w.alloc O1).alloc O2) O1 O2:=by
 have hs:(w.alloc O1).heap.size=w.heap.size+1:=by simp
 have h1:=heap_alloc_new (w.alloc O1) O2;rw [hs] at h1;exact⟨below_out (below_new w O1) (below_new _ _),((below_new (w.alloc O1) O2).block _ (by rw [hs];omega)).trans (heap_alloc_new w O1),h1⟩
end Go.Proofs.YtlmlljlappjjjaaGreatDoor
