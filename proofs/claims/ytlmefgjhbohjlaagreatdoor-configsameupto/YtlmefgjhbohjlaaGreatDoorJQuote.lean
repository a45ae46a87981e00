/- The program's texts in codes, and as they are meant. -/
import Derived.Test.YtlmefgjhbohjlaaGreatDoorTRMeant
namespace Go.Proofs.YtlmefgjhbohjlaaGreatDoor
set_option maxRecDepth 20000
set_option maxHeartbeats 8000000
open Go.RowKit
theorem and15 (X:Nat) (h:X<256):bits BinOp.and IntKind.u8 (X:Int) 15=((X % 16:Nat):Int):=by
 have key:∀ K:Fin 256,bits BinOp.and IntKind.u8 (K.val:Int) 15=((K.val % 16:Nat):Int):=by decide+kernel
 exact key ⟨X,h⟩
def putC (c:UInt8):B:=if unres c then [c] else codeB c
theorem putC_len (c:UInt8):(putC c).length≤3:=by unfold putC;split <;> simp [codeB]
theorem appb_any (base:Nat) (acc:B) (y:UInt8) (v:Value) (w:World) (ho:Own w base v acc) (hbs:base≤w.heap.size) (hl:acc.length≤105553116266496):
 Calls Tryz.prog 347 #[v,byteV y] w fun e w'=>∃ v',e= .returned v'∧Own w' base v' (acc++putC y)∧Below base w w':=by
 obtain⟨i0,hi0,hz0,hz1,hz2⟩:=info_parts infoB;obtain⟨ln,hln⟩:∃ ln,acc.length=ln:=⟨_,rfl⟩;have HLe:=hid hln;obtain⟨p,c0,rfl⟩:=own_slice ho;have HO:=hid ho;have HB:=hid (show Below base w w from Below.refl _ _);have HBs:=hid hbs;rw [hln] at HO hl ⊢;clear ho hln hbs;have HUn:=hid (punres_any y);obtain⟨Y,hY⟩:∃ Y:Nat,y.toNat=Y:=⟨_,rfl⟩;have hY256:Y<256:=by rw [←hY];exact y.toNat_lt
 unfold byteV at HUn ⊢;rw [hY] at HUn ⊢;have HBy:=hid (show Lib.byteCells [y]= [.int .u8 (Y:Int)] from by rw [one_cell,hY]);cases hu:unres y with
 |true=>
  rw [show putC y= [y] from by unfold putC;rw [hu];rfl];rw [hu] at HUn;clear hu hY;go_enter Tryz.func347,Tryz.ntmps347;go_wp2_with (first|(go_at_call 378;(with_reducible refine(HUn.out _).mono ?_);rintro e w1 ⟨rfl,rfl⟩)|(at_builtin;refine wpList_append_own_at _ rfl (.tmp 7) (.tmp 9) 106 rfl base 5 i0 _ 1 1 Tryz.underlying106 hi0 hz0 hz1 hz2 rfl (by decide) (.slice p ln c0) ln (Lib.byteCells acc) (by go_simp) (by have h8:=HO.out.alloc (.cells #[.int .u8 (Y:Int)] 5 (0,0));unfold Own at h8;rw [HLe.out] at h8;exact h8) ⟨w1.heap.size,0,none⟩ 1 1 [.int .u8 (Y:Int)] (by go_simp) rfl (cells_new w1 _ _) (by simp [Value.oneCell']) (by unfold maxLen;omega) (by omega) (Nat.le_trans HBs.out (below_new _ _).size) ?_;intro v' w' hown hgr _ _;obtain⟨p7,L7,c7,rfl⟩:=own_slice3 hown;have HB2:=hid (HB.out.trans (((below_new w1 (.cells #[.int .u8 (Y:Int)] 5 (0,0))).mono HBs.out).trans (Own.below (HO.out.alloc (.cells #[.int .u8 (Y:Int)] 5 (0,0))) (Nat.le_trans HBs.out (below_new _ _).size) hgr)));have HW:=hid (Own.put (acc:=acc) (bs:=[y]) (by rw [HLe.out];exact hown) HBy.out rfl);clear hown hgr));go_ret;exact⟨_,rfl,HW.out,HB2.out⟩
 |false=>
  rw [show putC y= [37,greatD (Y / 16),greatD (Y % 16)] from by unfold putC;rw [hu,←hY];rfl];rw [hu] at HUn;clear hu hY;have HE1:=hid (great_at (Y / 16) (by omega));have HE2:=hid (great_at (Y % 16) (by omega));have hand:=and15 Y hY256;obtain⟨h1,hh1⟩:∃ h1,greatD (Y / 16)=h1:=⟨_,rfl⟩;obtain⟨h2,hh2⟩:∃ h2,greatD (Y % 16)=h2:=⟨_,rfl⟩;rw [hh1] at HE1;rw [hh2] at HE2;rw [hh1,hh2];have HBc:=hid (three_cells h1 h2);clear hh1 hh2;go_enter Tryz.func347,Tryz.ntmps347;go_wp2_with (go_at_call 378;(with_reducible refine(HUn.out _).mono ?_);rintro e w1 ⟨rfl,hw1⟩;subst w1);refine wp_region_noPanic ?_;refine any_begin 10 (by kernel_rfl) (by kernel_rfl) ?_;refine atk (i:=0) (some 11) rfl rfl (v:= ?v0a) ?hy0a ?rest0a
  case hy0a=>intro w0;go_simp;try with_reducible rfl
  simp only [Act.put,sA,sB,sC];refine atk (i:=1) (some 12) rfl rfl (v:= ?v1a) ?hy1a ?rest1a
  case hy1a=>intro w0;go_simp;try with_reducible rfl
  simp only [Act.put,sA,sB,sC];refine atk (i:=2) (some 13) rfl rfl (v:=.int .u8 ((Y / 16:Nat):Int)) ?hy2a ?rest2a
  case hy2a=>intro w0;go_simp;try rfl
  simp only [Act.put,sA,sB,sC];refine atk (i:=3) (some 14) rfl rfl (v:=.int .u8 (h1.toNat:Int)) ?hy3a ?rest3a
  case hy3a=>intro w0;go_simp;rw [dif_pos ⟨by omega,by omega⟩];simp only [Result.andThen];congr 4;exact HE1.out _ _ (by omega)
  simp only [Act.put,sA,sB,sC];refine atk (i:=4) (some 15) rfl rfl (v:= ?v4a) ?hy4a ?rest4a
  case hy4a=>intro w0;go_simp;try with_reducible rfl
  simp only [Act.put,sA,sB,sC];refine atk (i:=5) (some 16) rfl rfl (v:=.int .u8 ((Y % 16:Nat):Int)) ?hy5a ?rest5a
  case hy5a=>intro w0;go_simp;try rfl
  simp only [Act.put,sA,sB,sC];refine atk (i:=6) (some 17) rfl rfl (v:=.int .u8 (h2.toNat:Int)) ?hy6a ?rest6a
  case hy6a=>intro w0;go_simp;rw [dif_pos ⟨by omega,by omega⟩];simp only [Result.andThen];congr 4;exact HE2.out _ _ (by omega)
  simp only [Act.put,sA,sB,sC];refine any_one (i:=7) (by kernel_rfl) rfl (fun K hK=>?_);go_simp;refine hK _ _ ?_;clear hK K;refine any_one (i:=8) (by kernel_rfl) rfl (fun K hK=>?_);rw [if_pos (by rfl)];refine wp_append_own_at (.tmp 11) (.tmp 18) 106 rfl base 5 i0 _ 1 1 Tryz.underlying106 hi0 hz0 hz1 hz2 rfl (by decide) (.slice p ln c0) ln (Lib.byteCells acc) (by go_simp) (by have h8:=HO.out.alloc (.cells #[.int .u8 37,.int .u8 (h1.toNat:Int),.int .u8 (h2.toNat:Int)] 5 (0,0));unfold Own at h8;rw [HLe.out] at h8;exact h8) ⟨w.heap.size,0,none⟩ 3 3 [.int .u8 37,.int .u8 (h1.toNat:Int),.int .u8 (h2.toNat:Int)] (by go_simp) rfl (cells_new w _ _) (by simp [Value.oneCell']) (by unfold maxLen;omega) (by omega) (Nat.le_trans HBs.out (below_new _ _).size) ?_;intro v' w' hown hgr _;obtain⟨p7,L7,c7,rfl⟩:=own_slice3 hown;have HB2:=hid (HB.out.trans (((new_drew_t w _).mono HBs.out).trans (Own.below (show Own (w.alloc (.cells #[.int .u8 37,.int .u8 (h1.toNat:Int),.int .u8 (h2.toNat:Int)] 5 (0,0))).drew base _ acc from HO.out.alloc (.cells #[.int .u8 37,.int .u8 (h1.toNat:Int),.int .u8 (h2.toNat:Int)] 5 (0,0))) (Nat.le_trans HBs.out (below_new _ _).size) hgr)));have HW:=hid (Own.put (acc:=acc) (bs:=[37,h1,h2]) (by rw [HLe.out];exact hown) HBc.out rfl);clear hown hgr;show K (Act.put _ (some 19) (.slice p7 L7 c7)) w';refine hK _ _ ?_;clear hK K;simp only [Act.put,sA,sB,sC];refine atk (i:=9) (some 4) rfl rfl (v:= ?v9a) ?hy9a ?rest9a
  case hy9a=>intro w0;go_simp;try with_reducible rfl
  simp only [Act.put,sA,sB,sC];refine any_done (by kernel_rfl) ?_ _;refine NoPanic.normal ?_;go_wp2;go_ret;exact⟨_,rfl,HW.out,HB2.out⟩
theorem meantP_some:∀ {l:B},codeO l=true→meantB l=putC (UInt8.ofNat (codeN_t l))++meantB (l.drop 3)
 | [],h=>by simp [codeO,codeI] at h
 | [c],h=>by simp [codeO,codeI] at h
 | [c,d],h=>by simp [codeO,codeI] at h
 |c::a::b::r,h=>by
  have h0:¬codeI (c::a::b::r)<0:=by unfold codeO at h;simp at h;omega
  rw [meant_some h0];unfold putC codeN_t;rw [if_neg h0];rfl
theorem meantP_none {c:UInt8}{l:B} (h:codeO (c::l)=false):meantB (c::l)=c::meantB l:=meant_none (by unfold codeO at h;simp at h;omega)
theorem oneway_any (s:B) (hs:s.length≤35184372088832) (w:World):Calls Tryz.prog 307 #[.string (str s)] w fun e w'=>e= .returned (.string (str (meantB s)))∧Below w.heap.size w w':=by
 obtain⟨i0,hi0,hz0,hz1,hz2⟩:=info_parts infoB;obtain⟨n,hn⟩:∃ n,s.length=n:=⟨_,rfl⟩;have HN:=hid hn;obtain⟨S,hS⟩:∃ S,str s=S:=⟨_,rfl⟩;have hSn:S.size=n:=by rw [←hS,str_size,hn]
 have HByte:=hid (show ∀ (k:Nat) (h:k<s.length) (h2:k<S.size),S[k]'h2=s[k]'h from fun k h h2=>by subst hS;rfl);have HCo:=hid (show ∀ i,i≤n→∀ w,_ from fun i hi=>pcode_any (s.drop i) (by rw [List.length_drop];omega));have HEx:=hid (show ∀ i,S.extract i n=str (s.drop i) from fun i=>by rw [←hS];exact ext_drop s i n hn);obtain⟨R,hR0⟩:∃ R,meantB s=R:=⟨_,rfl⟩;have HR0:=hid hR0;rw [hn] at hs;rw [hS,hR0];clear hn hS hR0;obtain⟨W0,hmk,hown0,hbel0⟩:=mk_row w n (by omega);have HO0:=hid hown0;have HB0:=hid hbel0;clear hown0 hbel0;go_enter Tryz.func307,Tryz.ntmps307;go_wp2;clear hmk;go_loopg [3,4] (n+1) (fun gk s3 s4 wr=>∃ i:Nat,i≤n∧gk=n-i+1∧s4= .int .i64 (i:Int)∧∃ acc:B,Own wr w.heap.size s3 acc∧acc.length≤i∧R=acc++meantB (s.drop i)∧Below w.heap.size w wr)
 case atStart=>exact⟨0,by omega,rfl,rfl,[],HO0.out,by simp,by rw [←HR0.out];simp,HB0.out⟩
 case round=>
  obtain⟨i,hi,rfl,rfl,acc,ho,hln0,hR,hb⟩:=hrel;have HB:=hid hb;have HR:=hid hR;obtain⟨ln,hln⟩:∃ ln,acc.length=ln:=⟨_,rfl⟩;have HLe:=hid hln;obtain⟨p,c0,rfl⟩:=own_slice ho;have HO:=hid ho;rw [hln] at HO hln0 ⊢;clear ho hb hln hR;by_cases hin:i<n
  · have hi1:i<s.length:=by rw [HN.out];exact hin
    obtain⟨y,hy⟩:∃ y,s[i]=y:=⟨_,rfl⟩;obtain⟨Y,hY⟩:∃ Y:Nat,y.toNat=Y:=⟨_,rfl⟩;have hY256:Y<256:=by rw [←hY];exact y.toNat_lt
    have hbyte:∀ h:i<S.size,(S[i]'h).toNat=Y:=fun h=>by rw [HByte.out i hi1 h,hy,hY]
    have HD:=hid (show s.drop i=y::s.drop (i+1) from by rw [List.drop_eq_getElem_cons hi1,hy]);have hext:S.extract i n=str (s.drop i):=HEx.out i;have HCi:=hid (HCo.out i (by omega));have hZ:=codeN_lt (s.drop i);have HSo:=hid (@meantP_some (s.drop i));have HNo:=hid (show codeO (s.drop i)=false→meantB (s.drop i)=y::meantB (s.drop (i+1)) from by rw [HD.out];exact meantP_none);have HLg:=hid (show codeO (s.drop i)=true→i+3≤n from fun h=>by have:=codeO_long h;rw [List.length_drop,HN.out] at this;omega);have HAp:=hid (show ∀ (w1:World),Own w1 w.heap.size (.slice p ln c0) acc→w.heap.size≤w1.heap.size→_ from fun w1 h1 h2=>appb_any w.heap.size acc (UInt8.ofNat (codeN_t (s.drop i))) (.slice p ln c0) w1 h1 h2 (by rw [HLe.out];omega));rw [show (byteV (UInt8.ofNat (codeN_t (s.drop i))))= .int .u8 ((codeN_t (s.drop i)):Int) from by unfold byteV;congr 2;simp;omega] at HAp;obtain⟨Z,hZe⟩:∃ Z,codeN_t (s.drop i)=Z:=⟨_,rfl⟩;rw [hZe] at HCi hZ HSo HAp;obtain⟨T,hT⟩:∃ T,str (s.drop i)=T:=⟨_,rfl⟩;rw [hT] at hext HCi;have HPl:=hid (putC_len (UInt8.ofNat Z));clear hy hi1 hZe hT;cases hO:codeO (s.drop i) with
    |true=>
     have hi3:i+3≤n:=HLg.out hO;have HNx:=hid (show R=(acc++putC (UInt8.ofNat Z))++meantB (s.drop (i+3)) from by rw [HR.out,HSo.out hO,List.drop_drop];simp);rw [hO] at HCi;clear hO;go_wp2_with (first|(go_at_call 346;(with_reducible refine(HCi.out _).mono ?_);rintro e w1 ⟨rfl,rfl⟩)|(go_at_call 347;(with_reducible refine(HAp.out _ HO.out HB.out.size).mono ?_);rintro e w2 ⟨v7,rfl,how,hbw⟩;obtain⟨p7,L7,c7,rfl⟩:=own_slice3 how;have HW:=hid how;have HB2:=hid (HB.out.trans hbw);clear how hbw));go_roundg (n-(i+3)+1)
     case measure=>omega
     case rel=>exact⟨i+3,by omega,rfl,by push_cast;go_num,_,HW.out,by rw [List.length_append,HLe.out];have:=HPl.out;omega,HNx.out,HB2.out⟩
    |false=>
     have HNx:=hid (show R=(acc++ [y])++meantB (s.drop (i+1)) from by rw [HR.out,HNo.out hO];simp);have HBc:=hid (show Lib.byteCells [y]= [.int .u8 (Y:Int)] from by rw [one_cell,hY]);rw [hO] at HCi;clear hO hY;go_wp2_with (first|(go_at_call 346;(with_reducible refine(HCi.out _).mono ?_);rintro e w1 ⟨rfl,rfl⟩)|(at_builtin;refine wpList_append_own_at _ rfl (.tmp 25) (.tmp 29) 106 rfl w.heap.size 5 i0 _ 1 1 Tryz.underlying106 hi0 hz0 hz1 hz2 rfl (by decide) (.slice p ln c0) ln (Lib.byteCells acc) (by go_simp) (by have h8:=HO.out.alloc (.cells #[.int .u8 (Y:Int)] 5 (0,0));unfold Own at h8;rw [HLe.out] at h8;exact h8) ⟨w1.heap.size,0,none⟩ 1 1 [.int .u8 (Y:Int)] (by go_simp) rfl (cells_new w1 _ _) (by simp [Value.oneCell']) (by unfold maxLen;omega) (by omega) (Nat.le_trans HB.out.size (below_new _ _).size) ?_;intro v' w' hown hgr _ _;obtain⟨p7,L7,c7,rfl⟩:=own_slice3 hown;have HB2:=hid (HB.out.trans (((below_new w1 (.cells #[.int .u8 (Y:Int)] 5 (0,0))).mono HB.out.size).trans (Own.below (HO.out.alloc (.cells #[.int .u8 (Y:Int)] 5 (0,0))) (Nat.le_trans HB.out.size (below_new _ _).size) hgr)));have HW:=hid (Own.put (acc:=acc) (bs:=[y]) (by rw [HLe.out];exact hown) HBc.out rfl);clear hown hgr));go_roundg (n-(i+1)+1)
     case measure=>omega
     case rel=>exact⟨i+1,by omega,rfl,by push_cast;go_num,_,HW.out,by rw [List.length_append,HLe.out];simp;omega,HNx.out,HB2.out⟩
  · obtain rfl:n=i:=by omega
    have HV:=hid (show R=acc from by rw [HR.out,List.drop_of_length_le (by rw [HN.out];exact Nat.le_refl _)];simp [meantB]);have hcv:=conv_own HO.out;go_wp2;go_ret;rw [HV.out];exact⟨rfl,HB.out⟩
theorem meant_len:∀ s:B,(meantB s).length≤s.length
 | []=>Nat.le_refl _
 | [_]=>Nat.le_refl _
 | [_,_]=>Nat.le_refl _
 |c::a::b::r=>by
  rw [meantB];split
  · have:=meant_len (a::b::r);simp at this ⊢;omega
  · have:=meant_len r;rename_i v _
    have h3:(if unres v=true then [v] else codeB v).length≤3:=by split <;> simp [codeB]
    rw [List.length_append];simp;omega
theorem dots_one {r out:List B}:dotsL ([46]::r) out=dotsL r (if r= [] then out++ [[]] else out):=by
 rw [dotsL,if_pos rfl];split
 · next h=>rw [h];rfl
 · rfl
theorem dots_nil2 {r:List B}:dotsL ([46,46]::r) []=none:=by
 rw [dotsL,if_neg (by decide),if_pos rfl,if_pos rfl]
theorem dots_two {r out:List B}{x:B}:dotsL ([46,46]::r) (out++ [x])=dotsL r (if r= [] then out++ [[]] else out):=by
 rw [dotsL,if_neg (by decide),if_pos rfl,if_neg (by simp),List.dropLast_concat];split
 · next h=>rw [h];rfl
 · rfl
theorem dots_else {r out:List B}{t:B} (h1:t≠ [46]) (h2:t≠ [46,46]):dotsL (t::r) out=dotsL r (out++ [t]):=by rw [dotsL,if_neg h1,if_neg h2]
structure Env_t (w:World):Prop where
 most:∃ m:Int,w.cell? ⟨3,0,none⟩=some (.int .i64 m)
theorem Env_t.below {w w':World} (h:Env_t w) (hb:Below w.heap.size w w'):Env_t w':=by
 obtain⟨m,h1⟩:=h.most;exact⟨m,cell_keep hb h1⟩
theorem byte_miss_t (x:UInt8):∀ l:List UInt8,Lib.indexByte l x= -1→∀ y∈l,y≠x
 | [],_,y,hy=>by simp at hy
 |b::l,h,y,hy=>by
  unfold Lib.indexByte at h;split at h
  · simp at h
  · rename_i hb
    split at h
    · rename_i h2
      rcases List.mem_cons.1 hy with rfl|hy
      · simpa using hb
      · exact byte_miss_t x l (by simpa using h2) y hy
    · rename_i h2
      have:=Lib.indexByte_ge l x;simp at h2;omega
theorem byte_hit_t (x:UInt8):∀ (l:List UInt8) (i:Nat),Lib.indexByte l x=i→(∀ y∈l.take i,y≠x)∧l=l.take i++x::l.drop (i+1)
 | [],i,h=>by simp [Lib.indexByte] at h
 |b::l,i,h=>by
  unfold Lib.indexByte at h;split at h
  · rename_i hb
    have hi:i=0:=by omega
    subst hi;have hb':b=x:=by simpa using hb
    subst hb';simp
  · rename_i hb
    split at h
    · omega
    · rename_i h2
      have:=Lib.indexByte_ge l x;simp at h2;obtain⟨j,rfl⟩:∃ j,i=j+1:=⟨i-1,by omega⟩;obtain⟨h3,h4⟩:=byte_hit_t x l j (by omega);refine⟨?_,?_⟩
      · intro y hy;rw [List.take_succ_cons] at hy;rcases List.mem_cons.1 hy with rfl|hy
        · simpa using hb
        · exact h3 y hy
      · rw [List.take_succ_cons,List.drop_succ_cons,List.cons_append,←h4]
theorem cut_lib (x:UInt8) (s:B):Lib.cut s [x]=cutF x s:=by
 unfold Lib.cut;rw [Lib.index_one];have hge:=Lib.indexByte_ge s x;by_cases h:Lib.indexByte s x= -1
 · rw [h,if_neg (by decide),cutF_no s (byte_miss_t x s h)]
 · obtain⟨i,hi⟩:∃ i:Nat,Lib.indexByte s x=i:=⟨(Lib.indexByte s x).toNat,by omega⟩;obtain⟨h1,h2⟩:=byte_hit_t x s i hi;rw [hi,if_pos (by omega)];conv=>rhs;rw [h2]
   rw [cutF_at _ _ h1];rfl
theorem pcut_any (x:UInt8) (s:B) (hs:s.length≤4294967280) (w:World) (hE:Env_t w):Calls Tryz.prog 302 #[.string (str s),.string ⟨#[x]⟩] w fun e w'=>e= .returned (.tuple #[.string (str (cutF x s).1),.string (str (cutF x s).2.1),.bool (cutF x s).2.2])∧Below w.heap.size w w':=by
 obtain⟨m,hm⟩:=hE.most;refine(Tryz.strings_Cut (str s) ⟨#[x]⟩ m w (by rw [str_size];omega) hm).mono ?_;rintro e w' ⟨rfl,q,rfl⟩;have e1:Lib.cut (str s).data.toList (⟨#[x]⟩:ByteArray).data.toList=cutF x s:=cut_lib x s;rw [e1];exact⟨rfl,below_drew (Below.refl _ _) q⟩
theorem pprefix_any (s:B) (w:World):Calls Tryz.prog 311 #[.string (str s),.string ⟨#[47]⟩] w fun e w'=>e= .returned (.bool (decide (s.head? =some 47)))∧w'=w:=by
 refine(Tryz.strings_HasPrefix (str s) ⟨#[47]⟩ w).mono ?_;rintro e w' ⟨rfl,rfl⟩;refine⟨?_,rfl⟩;have:Lib.hasPrefix (str s).data.toList (⟨#[47]⟩:ByteArray).data.toList=decide (s.head? =some 47):=by
  show ([47]:List UInt8).isPrefixOf s=_;cases s with
  |nil=>rfl
  |cons c l=>
   simp only [List.isPrefixOf,Bool.and_true,List.head?_cons,Option.some.injEq];rw [Bool.eq_iff_iff];simp only [beq_iff_eq,decide_eq_true_eq];exact eq_comm
 rw [this]
theorem last_any (base:Nat) (a b:B) (hb:∀ y∈b,y≠(47:UInt8)) (n:Nat) (hn:(a++47::b).length=n) (hl:n≤140737488355328) (p:Option Addr) (c:Nat) (w:World) (ho:Own w base (.slice p n c) (a++47::b)):
 Calls Tryz.prog 345 #[.slice p n c,.int .u8 47] w fun e w'=>e= .returned (.int .i64 (a.length:Int))∧w'=w:=by
 have HO:=hid ho;obtain⟨la,hla⟩:∃ la,a.length=la:=⟨_,rfl⟩;have HA:=hid hla;have hlt:la<n:=by rw [←hn,List.length_append,hla];simp
 have HAt:=hid (show (a++47::b)[la]?=some 47 from by rw [←hla];simp);have HBe:=hid (show ∀ i y,la<i→(a++47::b)[i]?=some y→y≠47 from fun i y hi hy=>by
  rw [List.getElem?_append_right (by omega)] at hy;obtain⟨k,hk⟩:∃ k,i-a.length=k+1:=⟨i-a.length-1,by omega⟩;rw [hk,List.getElem?_cons_succ] at hy;exact hb y (List.mem_of_getElem? hy))
 have HN:=hid hn;obtain⟨g,o,rfl,hc0⟩:=HO.out.at HAt.out;have HK:=hid (show ∀ i y,(a++47::b)[i]?=some y→w.cell? ⟨g,o+i,none⟩=some (.int .u8 (y.toNat:Int)) from fun i y hy=>by
  obtain⟨g',o',e',h'⟩:=HO.out.at hy;cases e';exact h')
 rw [hla];clear hla ho hb hn hc0;go_enter Tryz.func345,Tryz.ntmps345;go_wp2;go_loopg [5] n (fun gk s5 wr=>∃ i:Nat,la≤i∧i<n∧gk=i+1∧s5= .int .i64 (i:Int)∧wr=w)
 case atStart=>exact⟨n-1,by omega,by omega,by omega,by go_num,rfl⟩
 case round=>
  obtain⟨i,hi,hin,rfl,rfl,rfl⟩:=hrel;have hi1:i<(a++47::b).length:=by rw [HN.out];exact hin
  obtain⟨y,hy⟩:∃ y,(a++47::b)[i]?=some y:=⟨_,List.getElem?_eq_getElem hi1⟩;have hcell:=HK.out i y hy;have HY:=hid hy;clear hi1 hy;by_cases he:i=la
  · subst he;obtain rfl:y=47:=Option.some.inj (HY.out.symm.trans HAt.out);go_wp2;go_ret;exact⟨rfl,rfl⟩
  · have hne:=HBe.out i y (by omega) HY.out;have z1:¬(y.toNat:Int)=47:=fun e=>hne (UInt8.toNat_inj.1 (by show y.toNat=47;omega))
    have z2:((y.toNat:Int)== 47)=false:=by simpa using z1
    have hpos:0<i:=by omega
    clear hne;go_wp2;go_roundg (i-1+1)
    case measure=>omega
    case rel=>exact⟨i-1,by omega,by omega,by omega,by go_num,rfl⟩
def decE (r:Option B):Value:=match r with
 |some t=>.tuple #[.string (str t),.nilIface]
 |none=>.tuple #[.string (str []),.iface 63 (.int .i64 23)]
def meas (rest:B) (more:Bool):Nat:=if more then rest.length+2 else 1
def roomN (rest:B) (more:Bool):Nat:=if more then rest.length+1 else 0
theorem join_one (o:List B) (t:B):joinS (o++ [t])=joinS o++47::t:=by rw [join_app];simp [joinS]
theorem join_end (o:List B):joinS (o++ [[]])=joinS o++ [47]:=join_one o []
theorem whole_app {o:List B}{t:B} (h:Whole o) (ht:∀ y∈t,y≠(47:UInt8)):Whole (o++ [t]):=by
 intro s hs;rcases List.mem_append.1 hs with h1|h1
 · exact h s h1
 · rw [List.mem_singleton.1 h1];exact ht
theorem whole_less {o:List B}{t:B} (h:Whole (o++ [t])):Whole o∧∀ y∈t,y≠(47:UInt8):=⟨fun s hs=>h s (by simp [hs]),h t (by simp)⟩
theorem room_cut {rest t rest':B}{more':Bool} (h:cutF 47 rest=(t,rest',more')):t.length+1+roomN rest' more'=roomN rest true∧meas rest' more'<meas rest true∧(∀ y∈t,y≠(47:UInt8)):=by
 obtain⟨h1,h2,h3⟩:=cutF_spec 47 rest;rw [h] at h1 h2 h3;simp only at h1 h2 h3;have hl:=congrArg List.length h2;rw [List.length_append] at hl;unfold roomN meas;cases more' with
 |true=>simp at hl ⊢;exact⟨by omega,by omega,h1⟩
 |false=>simp at hl ⊢;exact⟨by omega,h1⟩
theorem wdots_any (c0:UInt8) (r:B) (hs:(c0::r).length≤4294967280) (w:World) (hE:Env_t w):Calls Tryz.prog 306 #[.string (str (c0::r))] w fun e w'=>e= .returned (decE ((dotsL (cutAt 47 r) []).map joinS))∧Below w.heap.size w w':=by
 obtain⟨i0,hi0,hz0,hz1,hz2⟩:=info_parts infoB;obtain⟨n,hn⟩:∃ n,(c0::r).length=n:=⟨_,rfl⟩;have hn2:r.length+1=n:=by rw [←hn];rfl
 have HN:=hid hn;obtain⟨S,hS⟩:∃ S,str (c0::r)=S:=⟨_,rfl⟩;have hSn:S.size=n:=by rw [←hS,str_size,hn]
 have hex:S.extract 1 n=str r:=by rw [←hS,ext_drop _ 1 n hn];rfl
 obtain⟨Dn,hDn⟩:∃ Dn,dotsL (cutAt 47 r) []=Dn:=⟨_,rfl⟩;have HD0:=hid (show dotsL (toCome r true) []=Dn from hDn);have HRo:=hid (show roomN r true=n from hn2);have HE:=hid hE;have h1n:1≤n:=by omega
 rw [hn] at hs;rw [hS,hDn];obtain⟨R0,hR0⟩:∃ R0,str r=R0:=⟨_,rfl⟩;have HR0:=hid hR0;rw [hR0] at hex;clear hn hS hDn hE hn2 hR0;obtain⟨W0,hmk,hown0,hbel0⟩:=mk_row w n (by omega);have HO0:=hid hown0;have HB0:=hid hbel0;clear hown0 hbel0;go_enter Tryz.func306,Tryz.ntmps306;go_wp2;clear hmk hex;go_loopg [4,5,6] (meas r true) (fun gk s4 s5 s6 wr=>∃ (rest:B) (more:Bool) (out:List B),gk=meas rest more∧s5= .string (str rest)∧s6= .bool more∧Own wr w.heap.size s4 (joinS out)∧Whole out∧dotsL (toCome rest more) out=Dn∧(joinS out).length+roomN rest more≤n∧Below w.heap.size w wr)
 case atStart=>exact⟨r,true,[],rfl,by rw [HR0.out],rfl,HO0.out,fun s hs=>by simp at hs,HD0.out,by rw [HRo.out];simp [joinS],HB0.out⟩
 case round=>
  obtain⟨rest,more,out,rfl,rfl,rfl,ho,hwh,hR,hro,hb⟩:=hrel;have HBr:=hid hb;have HR:=hid hR;have HWh:=hid hwh;obtain⟨ln,hln⟩:∃ ln,(joinS out).length=ln:=⟨_,rfl⟩;have HLe:=hid hln;obtain⟨p,c0,rfl⟩:=own_slice ho;have HOr:=hid ho;rw [hln] at HOr hro ⊢;have hcap:=HOr.out.cap;have HBo:=hid (show Below w.heap.size w wr from hb);clear ho hb hln hR hwh;cases more with
  |false=>
   have HV:=hid (show Dn=some out from by rw [←HR.out];rfl);have hcv:=conv_own HOr.out;go_wp2;go_ret2;rw [HV.out];exact⟨rfl,HBr.out⟩
  |true=>
   obtain⟨t,rest',more',hcut⟩:∃ t rest' more',cutF 47 rest=(t,rest',more'):=⟨_,_,_,rfl⟩;have HCt:=hid (pcut_any 47 rest (by unfold roomN at hro;simp at hro;omega));rw [hcut] at HCt;obtain⟨hrm,hms,htn⟩:=room_cut hcut;have HTn:=hid htn;have HMs:=hid hms;have HRi:=hid (show dotsL (t::toCome rest' more') out=Dn from by rw [←HR.out,come_cut,hcut]);have HNil:=hid (come_nil rest' more');clear htn hms hcut;obtain⟨rn,hrn⟩:∃ rn,roomN rest' more'=rn:=⟨_,rfl⟩;rw [hrn] at hrm;rw [←hrm] at hro;have HRn:=hid hrn;clear hrm hrn;obtain⟨T5,hT5⟩:∃ T5,str rest=T5:=⟨_,rfl⟩;rw [hT5] at HCt;have HT5:=hid hT5;rw [hT5];clear hT5;have H47:=hid (show Lib.byteCells [47]= [.int .u8 47] from rfl);by_cases h2:t= [46,46]
   · subst h2;rcases List.eq_nil_or_concat out with ha|⟨ac2,xl,ha⟩
     · subst ha;obtain rfl:ln=0:=by rw [←HLe.out];rfl
       have HF:=hid (show Dn=none from by rw [←HRi.out,dots_nil2]);go_wp2_with (go_at_call 302;(with_reducible refine(HCt.out _ (HE.out.below HBo.out)).mono ?_);rintro e w1 ⟨rfl,hb1⟩;have HO:=hid (HOr.out.keep hb1);have HB:=hid (HBr.out.trans (hb1.mono HBr.out.size));clear hb1);go_ret2;rw [HF.out];exact⟨rfl,HB.out⟩
     · rw [List.concat_eq_append] at ha;subst ha;obtain⟨hw1,hw2⟩:=whole_less HWh.out;have HW1:=hid hw1;obtain⟨k,hk⟩:∃ k,(joinS ac2).length=k:=⟨_,rfl⟩;have HLk:=hid hk;have hkl:k+1≤ln:=by rw [←HLe.out,join_one,List.length_append,hk];simp
       rw [join_one] at HOr HLe;have HLa:=hid (show ∀ (w1:World),Own w1 w.heap.size (.slice p ln c0) (joinS ac2++47::xl)→_ from fun w1 h1=>last_any w.heap.size (joinS ac2) xl hw2 ln HLe.out (by omega) p c0 w1 h1);rw [hk] at HLa;have HKc:=hid (show ∀ (w1:World),Own w1 w.heap.size (.slice p ln c0) (joinS ac2++47::xl)→Own w1 w.heap.size (.slice p k c0) (joinS ac2) from fun w1 h1=>by have h8:=h1.less;rw [hk] at h8;exact h8);have hl0:¬(ln:Int)=0:=by omega
       have hl1:((ln:Int)== 0)=false:=by simpa using hl0
       have hkc:(k:Int)≤(c0:Int):=by omega
       clear hk hw1 hw2;cases more' with
       |true=>
        have HNx:=hid (show dotsL (toCome rest' true) ac2=Dn from by rw [←HRi.out,dots_two,if_neg (by simp [toCome,cut_ne])]);go_wp2_with (first|(go_at_call 302;(with_reducible refine(HCt.out _ (HE.out.below HBo.out)).mono ?_);rintro e w1 ⟨rfl,hb1⟩;have HO:=hid (HOr.out.keep hb1);have HB:=hid (HBr.out.trans (hb1.mono HBr.out.size));clear hb1)|(go_at_call 345;(with_reducible refine(HLa.out _ HO.out).mono ?_);rintro e w2 ⟨rfl,rfl⟩));go_roundg (meas rest' true)
        case measure=>exact HMs.out
        case rel=>exact⟨rest',true,ac2,rfl,rfl,rfl,HKc.out _ HO.out,HW1.out,HNx.out,by rw [HLk.out,HRn.out];omega,HB.out⟩
       |false=>
        have HNx:=hid (show dotsL (toCome rest' false) (ac2++ [[]])=Dn from by rw [←HRi.out,dots_two,if_pos (by simp [toCome])]);go_wp2_with (first|(go_at_call 302;(with_reducible refine(HCt.out _ (HE.out.below HBo.out)).mono ?_);rintro e w1 ⟨rfl,hb1⟩;have HO:=hid (HOr.out.keep hb1);have HB:=hid (HBr.out.trans (hb1.mono HBr.out.size));clear hb1)|(go_at_call 345;(with_reducible refine(HLa.out _ HO.out).mono ?_);rintro e w2 ⟨rfl,rfl⟩;have HOk:=hid (HKc.out _ HO.out))|(at_builtin;refine wpList_append_own_at _ rfl (.tmp 35) (.tmp 36) 106 rfl w.heap.size 5 i0 _ 1 1 Tryz.underlying106 hi0 hz0 hz1 hz2 rfl (by decide) (.slice p k c0) k (Lib.byteCells (joinS ac2)) (by go_simp) (by have h8:=HOk.out.alloc (.cells #[.int .u8 47] 5 (0,0));unfold Own at h8;rw [HLk.out] at h8;exact h8) ⟨w2.heap.size,0,none⟩ 1 1 [.int .u8 47] (by go_simp) rfl (cells_new w2 _ _) (by simp [Value.oneCell']) (by unfold maxLen;omega) (by omega) (Nat.le_trans HB.out.size (below_new _ _).size) ?_;intro v' w9 hown hgr _ _;obtain⟨p7,L7,c7,rfl⟩:=own_slice3 hown;have HB2:=hid (HB.out.trans (((below_new w2 (.cells #[.int .u8 47] 5 (0,0))).mono HB.out.size).trans (Own.below (HOk.out.alloc (.cells #[.int .u8 47] 5 (0,0))) (Nat.le_trans HB.out.size (below_new _ _).size) hgr)));have HW:=hid (Own.put (acc:=(joinS ac2)) (bs:=[47]) (by rw [HLk.out];exact hown) H47.out rfl);clear hown hgr));go_roundg (meas rest' false)
        case measure=>exact HMs.out
        case rel=>exact⟨rest',false,ac2++ [[]],rfl,rfl,rfl,by rw [join_end];exact HW.out,whole_app HW1.out (by simp),HNx.out,by rw [join_end,List.length_append,HLk.out,HRn.out];simp;omega,HB2.out⟩
   · by_cases h1:t= [46]
     · subst h1;cases more' with
       |true=>
        have HNx:=hid (show dotsL (toCome rest' true) out=Dn from by rw [←HRi.out,dots_one,if_neg (by simp [toCome,cut_ne])]);go_wp2_with (go_at_call 302;(with_reducible refine(HCt.out _ (HE.out.below HBo.out)).mono ?_);rintro e w1 ⟨rfl,hb1⟩;have HO:=hid (HOr.out.keep hb1);have HB:=hid (HBr.out.trans (hb1.mono HBr.out.size));clear hb1);go_roundg (meas rest' true)
        case measure=>exact HMs.out
        case rel=>exact⟨rest',true,out,rfl,rfl,rfl,HO.out,HWh.out,HNx.out,by rw [HLe.out,HRn.out];omega,HB.out⟩
       |false=>
        have HNx:=hid (show dotsL (toCome rest' false) (out++ [[]])=Dn from by rw [←HRi.out,dots_one,if_pos (by simp [toCome])]);go_wp2_with (first|(go_at_call 302;(with_reducible refine(HCt.out _ (HE.out.below HBo.out)).mono ?_);rintro e w1 ⟨rfl,hb1⟩;have HO:=hid (HOr.out.keep hb1);have HB:=hid (HBr.out.trans (hb1.mono HBr.out.size));clear hb1)|(at_builtin;refine wpList_append_own_at _ rfl (.tmp 35) (.tmp 36) 106 rfl w.heap.size 5 i0 _ 1 1 Tryz.underlying106 hi0 hz0 hz1 hz2 rfl (by decide) (.slice p ln c0) ln (Lib.byteCells (joinS out)) (by go_simp) (by have h8:=HO.out.alloc (.cells #[.int .u8 47] 5 (0,0));unfold Own at h8;rw [HLe.out] at h8;exact h8) ⟨w1.heap.size,0,none⟩ 1 1 [.int .u8 47] (by go_simp) rfl (cells_new w1 _ _) (by simp [Value.oneCell']) (by unfold maxLen;omega) (by omega) (Nat.le_trans HB.out.size (below_new _ _).size) ?_;intro v' w' hown hgr _ _;obtain⟨p7,L7,c7,rfl⟩:=own_slice3 hown;have HB2:=hid (HB.out.trans (((below_new w1 (.cells #[.int .u8 47] 5 (0,0))).mono HB.out.size).trans (Own.below (HO.out.alloc (.cells #[.int .u8 47] 5 (0,0))) (Nat.le_trans HB.out.size (below_new _ _).size) hgr)));have HW:=hid (Own.put (acc:=(joinS out)) (bs:=[47]) (by rw [HLe.out];exact hown) H47.out rfl);clear hown hgr));go_roundg (meas rest' false)
        case measure=>exact HMs.out
        case rel=>exact⟨rest',false,out++ [[]],rfl,rfl,rfl,by rw [join_end];exact HW.out,whole_app HWh.out (by simp),HNx.out,by rw [join_end,List.length_append,HLe.out,HRn.out];simp;omega,HB2.out⟩
     · have HNx:=hid (show dotsL (toCome rest' more') (out++ [t])=Dn from by rw [←HRi.out,dots_else h1 h2]);have q1:((str t).toList== (⟨#[46]⟩:ByteArray).toList)=false:=ne_list (str_ne h1);have q2:((str t).toList== (⟨#[46,46]⟩:ByteArray).toList)=false:=ne_list (str_ne h2);have q3:(t== [46])=false:=by simpa using h1
       have q4:(t== [46,46])=false:=by simpa using h2
       obtain⟨lt,hlt⟩:∃ lt,t.length=lt:=⟨_,rfl⟩;rw [hlt] at hro;have HTs:=hid (show (str t).size=lt from by rw [str_size,hlt]);have HLt:=hid hlt;have HL1:=hid (show (joinS out++ [47]).length=ln+1 from by rw [List.length_append,HLe.out];rfl);clear hlt;go_wp2_with (first|(go_at_call 302;(with_reducible refine(HCt.out _ (HE.out.below HBo.out)).mono ?_);rintro e w1 ⟨rfl,hb1⟩;have HO:=hid (HOr.out.keep hb1);have HB:=hid (HBr.out.trans (hb1.mono HBr.out.size));clear hb1)|(at_builtin;refine wpList_append_own_at _ rfl (.tmp 38) (.tmp 39) 106 rfl w.heap.size 5 i0 _ 1 1 Tryz.underlying106 hi0 hz0 hz1 hz2 rfl (by decide) (.slice p ln c0) ln (Lib.byteCells (joinS out)) (by go_simp) (by have h8:=HO.out.alloc (.cells #[.int .u8 47] 5 (0,0));unfold Own at h8;rw [HLe.out] at h8;exact h8) ⟨w1.heap.size,0,none⟩ 1 1 [.int .u8 47] (by go_simp) rfl (cells_new w1 _ _) (by simp [Value.oneCell']) (by unfold maxLen;omega) (by omega) (Nat.le_trans HB.out.size (below_new _ _).size) ?_;intro v' w7 hown hgr _ _;obtain⟨p7,L7,c7,rfl⟩:=own_slice3 hown;have HB7:=hid (HB.out.trans (((below_new w1 (.cells #[.int .u8 47] 5 (0,0))).mono HB.out.size).trans (Own.below (HO.out.alloc (.cells #[.int .u8 47] 5 (0,0))) (Nat.le_trans HB.out.size (below_new _ _).size) hgr)));have HW7:=hid (Own.put (acc:=(joinS out)) (bs:=[47]) (by rw [HLe.out];exact hown) H47.out rfl);clear hown hgr)|(at_builtin;refine Lib.wpList_append_own_string _ rfl (.tmp 40) (.tmp 41) 106 9 rfl w.heap.size 5 i0 Tryz.underlying106 Tryz.underlying9 hi0 hz0 hz1 hz2 (.slice p7 L7 c7) (ln+1) (Lib.byteCells (joinS out++ [47])) (by go_simp) (by have h8:=HW7.out;unfold Own at h8;rw [HL1.out] at h8;exact h8) (str t) (by go_simp) (by rw [HTs.out];unfold maxLen;omega) (by rw [HTs.out];omega) HB7.out.size ?_;intro v' w8 hown hgr _;obtain⟨p8,L8,c8,rfl⟩:=own_slice3 hown;have HB8:=hid (HB7.out.trans (Own.below HW7.out HB7.out.size hgr));have HW8:=hid (Own.put (acc:=joinS out++ [47]) (bs:=t) (by rw [HL1.out];exact hown) (by rw [strCells_str]) (by rw [HTs.out,HLt.out]));clear hown hgr));go_roundg (meas rest' more')
       case measure=>exact HMs.out
       case rel=>exact⟨rest',more',out++ [t],rfl,rfl,rfl,by rw [join_one,show (joinS out++47::t)=joinS out++ [47]++t from by simp];exact HW8.out,whole_app HWh.out HTn.out,HNx.out,by rw [join_one,List.length_append,HLe.out,HRn.out,List.length_cons,HLt.out];omega,HB8.out⟩
theorem ppath_any (s:B) (hs:s.length≤35184372088832) (w:World):Calls Tryz.prog 305 #[.string (str s)] w fun e w'=>e= .returned (.bool (isPath s))∧w'=w:=by
 have HP:=hid (pprefix_any s);have HM:=hid (made_path s hs);rw [path_made] at HM;have e0:isPath s=(decide (s.head? =some 47) && made [47] true s):=rfl;rw [e0];obtain⟨a,ha⟩:∃ a,decide (s.head? =some 47)=a:=⟨_,rfl⟩;obtain⟨b,hb⟩:∃ b,made [47] true s=b:=⟨_,rfl⟩;obtain⟨S,hS⟩:∃ S,str s=S:=⟨_,rfl⟩;rw [ha,hS] at HP;rw [hb,hS] at HM;rw [ha,hb,hS];clear ha hb hS e0;cases a with
 |true=>
  go_enter Tryz.func305,Tryz.ntmps305;go_wp2_with (first|(go_at_call 311;(with_reducible refine(HP.out _).mono ?_);rintro e w1 ⟨rfl,rfl⟩)|(go_at_call 342;(with_reducible refine(HM.out _).mono ?_);rintro e w1 ⟨rfl,rfl⟩));go_ret;exact⟨rfl,rfl⟩
 |false=>
  go_enter Tryz.func305,Tryz.ntmps305;go_wp2_with (go_at_call 311;(with_reducible refine(HP.out _).mono ?_);rintro e w1 ⟨rfl,rfl⟩);go_ret;exact⟨rfl,rfl⟩
theorem pnormal_any (s:B) (hs:s.length≤4294967280) (w:World) (hE:Env_t w):Calls Tryz.prog 267 #[.string (str s)] w fun e w'=>e= .returned (decE (normalB s))∧Below w.heap.size w w':=by
 have HP:=hid (ppath_any s (by omega));have HO:=hid (oneway_any s (by omega));have HE:=hid hE;clear hE;cases hp:isPath s with
 |false=>
  have HV:=hid (show normalB s=none from by unfold normalB;rw [hp];rfl);rw [hp] at HP;rw [HV.out];clear HO hp;obtain⟨S,hS⟩:∃ S,str s=S:=⟨_,rfl⟩;rw [hS] at HP ⊢;clear hS;go_enter Tryz.func267,Tryz.ntmps267;go_wp2_with (go_at_call 305;(with_reducible refine(HP.out _).mono ?_);rintro e w1 ⟨rfl,rfl⟩);go_ret2;exact⟨rfl,Below.refl _ _⟩
 |true=>
  obtain⟨l,rfl⟩:∃ l,s=47::l:=by
   cases s with
   |nil=>exact absurd hp (by decide)
   |cons c l=>
    unfold isPath at hp;simp only [List.head?_cons,Option.some.injEq,Bool.and_eq_true,decide_eq_true_eq] at hp;exact⟨l,by rw [hp.1]⟩
  have hm:=meant_cons (c:=47) (by decide) l;have HV:=hid (show normalB (47::l)=(dotsL (cutAt 47 (meantB l)) []).map joinS from by unfold normalB;rw [hp,hm];show Option.map joinS (dotsL (segs (47::meantB l)) [])=_;unfold segs;rw [cutAt,if_pos rfl];rfl);have hml:=meant_len (47::l);rw [hm] at hml HO;have HW:=hid (wdots_any 47 (meantB l) (Nat.le_trans hml hs));rw [hp] at HP;rw [HV.out];clear hp hml hm;obtain⟨V,hV⟩:∃ V,decE ((dotsL (cutAt 47 (meantB l)) []).map joinS)=V:=⟨_,rfl⟩;have HTu:=hid (show ∃ a b,V= .tuple #[a,b] from by rw [←hV];unfold decE;split <;> exact⟨_,_,rfl⟩);rw [hV] at HW ⊢;obtain⟨va,vb,rfl⟩:=HTu.out;obtain⟨S,hS⟩:∃ S,str (47::l)=S:=⟨_,rfl⟩;obtain⟨M,hM⟩:∃ M,str (47::meantB l)=M:=⟨_,rfl⟩;rw [hS] at HP HO ⊢;rw [hM] at HO HW;clear hS hM hV;go_enter Tryz.func267,Tryz.ntmps267;go_wp2_with (first|(go_at_call 305;(with_reducible refine(HP.out _).mono ?_);rintro e w1 ⟨rfl,rfl⟩)|(go_at_call 307;(with_reducible refine(HO.out _).mono ?_);rintro e w2 ⟨rfl,hb⟩;have HB2:=hid hb;clear hb)|(go_at_call 306;(with_reducible refine(HW.out _ (HE.out.below HB2.out)).mono ?_);rintro e w3 ⟨rfl,hb⟩;have HB3:=hid (below_out HB2.out hb);clear hb));go_ret2;exact⟨rfl,HB3.out⟩
theorem ppath_probe (s:B) (hs:s.length≤140737488355328) (w:World) (hE:Env_t w):Calls Tryz.prog 223 #[.string (str s)] w fun e w'=>e= .returned (.bool (probeOK askT s))∧Below w.heap.size w w':=by
 rw [probe_two];have hz:=str_size s;by_cases h:s.length≤256
 case neg=>
  rw [decide_eq_false h,Bool.false_and];obtain⟨S,hS⟩:∃ S,str s=S:=⟨_,rfl⟩;rw [hS] at hz ⊢;have g1:256<S.size:=by omega
  have g2:S.size≤140737488355328:=by omega
  clear hS hz h hs;go_enter Tryz.func223,Tryz.ntmps223;go_wp2;go_ret;exact⟨rfl,Below.refl _ _⟩
 rw [decide_eq_true h,Bool.true_and];have HN:=hid (pnormal_any s (by omega) w hE);obtain⟨S,hS⟩:∃ S,str s=S:=⟨_,rfl⟩;rw [hS] at hz HN ⊢;have g1:S.size≤256:=by omega
 clear hS hz h hs;cases hr:normalB s with
 |none=>
  rw [hr] at HN;unfold decE at HN;go_enter Tryz.func223,Tryz.ntmps223;go_wp2_with (go_at_call 267;(with_reducible refine HN.out.mono ?_);rintro e w1 ⟨rfl,hw1⟩;have HB:=hid hw1;clear hw1);go_ret;exact⟨rfl,HB.out⟩
 |some t=>
  rw [hr] at HN;obtain⟨T,hT⟩:∃ T,str t=T:=⟨_,rfl⟩;rw [show decE (some t)= .tuple #[.string (str t),.nilIface] from rfl,hT] at HN;go_enter Tryz.func223,Tryz.ntmps223;go_wp2_with (go_at_call 267;(with_reducible refine HN.out.mono ?_);rintro e w1 ⟨rfl,hw1⟩;have HB:=hid hw1;clear hw1);go_ret;exact⟨rfl,HB.out⟩
theorem quote_out (s:B) (hs:6*s.length+10≤140737488355328) (w:World) (hE:Env w):
 Calls Tryz.prog 273 #[.string (str s)] w fun e w'=>ToldPr (quoteS s) w e w':=by
 obtain⟨S,hS⟩:∃ S,str s=S:=⟨_,rfl⟩;have HSz:=hid (show S.size≤9223372036854775807 from by rw [←hS,str_size_j];omega);have HD:=hid (show S.data.toList=s from by rw [←hS]);have HS:=hid hS;have HE:=hid hE;have HL:=hid hs;rw [hS];clear hS hE hs;cases hv:Lib.validD s with
 |false=>
  have HVd:=hid hv;have HR:=hid (show quoteS s=([],3) from by unfold quoteS;rw [hv];rfl);rw [HR.out];clear hv;go_enter Tryz.func273,Tryz.ntmps273;go_wp2_with (go_at_call 281;refine(Tryz.utf8_ValidString S _ HSz.out HE.out.tabs).mono ?_;rintro e w1 ⟨rfl,hb⟩;rw [HD.out,HVd.out];have HB:=hid hb;clear hb);go_ret2;exact⟨rfl,HB.out⟩
 |true=>
  have HVd:=hid hv;have HR:=hid (show quoteS s=(quoteB s,0) from by unfold quoteS;rw [hv];rfl);rw [HR.out];clear hv;go_enter Tryz.func273,Tryz.ntmps273;go_wp2_with (first
   |(go_at_call 281;refine(Tryz.utf8_ValidString S _ HSz.out HE.out.tabs).mono ?_;rintro e w1 ⟨rfl,hb⟩;rw [HD.out,HVd.out];have HB:=hid hb;clear hb)
   |(go_at_call 237;have hcall:=quote_any s HL.out w1;rw [HS.out] at hcall;(with_reducible refine hcall.mono ?_);clear hcall;rintro e w2 ⟨rfl,hb⟩;have HB2:=hid (below_out HB.out hb);clear hb))
  go_ret2;exact⟨rfl,HB2.out⟩
end Go.Proofs.YtlmefgjhbohjlaaGreatDoor
