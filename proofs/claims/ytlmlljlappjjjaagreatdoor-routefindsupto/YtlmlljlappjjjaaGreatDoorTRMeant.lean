/- The program's codes. -/
import Derived.Test.YtlmlljlappjjjaaGreatDoorTPByte
namespace Go.Proofs.YtlmlljlappjjjaaGreatDoor
set_option maxRecDepth 20000
set_option maxHeartbeats 8000000
open Go.RowKit
def codeN (s:B):Nat:=if codeI s<0 then 0 else (codeI s).toNat
def codeO (s:B):Bool:=decide (0≤codeI s)
theorem codeN_lt (s:B):codeN s<256:=by
 have:=codeI_bd s;unfold codeN;split <;> omega
theorem or_two (a b:Nat) (ha:a≤15) (hb:b≤15):bits BinOp.or IntKind.u8 ((a:Int)*16) (b:Int)=((a*16+b:Nat):Int):=by
 have key:∀ (i j:Fin 16),bits BinOp.or IntKind.u8 ((i.val:Int)*16) (j.val:Int)=((i.val*16+j.val:Nat):Int):=by decide+kernel
 exact key ⟨a,by omega⟩ ⟨b,by omega⟩
theorem pcode_any (s:B) (hs:s.length≤70368744177664) (w:World):Calls Tryz.prog 92 #[.string (str s)] w fun e w'=>e= .returned (.tuple #[.int .u8 (codeN s:Int),.bool (codeO s)])∧w'=w:=by
 obtain⟨n,hn⟩:∃ n,s.length=n:=⟨_,rfl⟩;obtain⟨S,hS⟩:∃ S,str s=S:=⟨_,rfl⟩;have hSn:S.size=n:=by rw [←hS,str_size,hn]
 by_cases hlt:2<n
 · have h0:0+2<s.length:=by rw [hn];omega
   have e:=drop3 h0;rw [List.drop_zero] at e;obtain⟨c,hc⟩:∃ c,s[0]=c:=⟨_,rfl⟩;obtain⟨a,ha⟩:∃ a,s[0+1]=a:=⟨_,rfl⟩;obtain⟨b,hb⟩:∃ b,s[0+2]=b:=⟨_,rfl⟩;have b0:∀ h:0<S.size,S[0]'h=c:=fun h=>by subst hS;exact hc
   have b1:∀ h:1<S.size,S[1]'h=a:=fun h=>by subst hS;exact ha
   have b2:∀ h:2<S.size,S[2]'h=b:=fun h=>by subst hS;exact hb
   rw [hc,ha,hb] at e;have HR:=hid (show codeI s=if c=37∧0≤hexI a∧0≤hexI b then hexI a*16+hexI b else -1 from by
    have hR:=codeI_at (c:=c) (a:=a) (b:=b) (r:=s.drop (0+3));rw [←e] at hR;exact hR)
   have HCN:=hid (show codeN s=if codeI s<0 then 0 else (codeI s).toNat from rfl);have HCO:=hid (show codeO s=decide (0≤codeI s) from rfl);rw [hS];rw [hn] at hs;obtain⟨R,hRR⟩:∃ R,codeI s=R:=⟨_,rfl⟩;obtain⟨RN,hRN⟩:∃ RN,codeN s=RN:=⟨_,rfl⟩;obtain⟨RO,hRO⟩:∃ RO,codeO s=RO:=⟨_,rfl⟩;rw [hRR] at HR HCN HCO;rw [hRN] at HCN ⊢;rw [hRO] at HCO ⊢;clear hn hS h0 e hc ha hb hRR hRN hRO;by_cases q37:c=37
   · subst q37;obtain⟨za0,za1⟩:=byte_int a;obtain⟨zb0,zb1⟩:=byte_int b;have HA:=hid (digit_any_t (a.toNat:Int) za0 za1);have HB:=hid (digit_any_t (b.toNat:Int) zb0 zb1);rw [dig_int a,dig_int b] at HR;obtain⟨va,hva⟩:∃ va:Nat,digV (a.toNat:Int)=(va:Int):=⟨(digV (a.toNat:Int)).toNat,by have:=digV_bd (a.toNat:Int);omega⟩;obtain⟨vb,hvb⟩:∃ vb:Nat,digV (b.toNat:Int)=(vb:Int):=⟨(digV (b.toNat:Int)).toNat,by have:=digV_bd (b.toNat:Int);omega⟩;have hba:va≤15:=by have:=digV_bd (a.toNat:Int);omega
     have hbb:vb≤15:=by have:=digV_bd (b.toNat:Int);omega
     rw [hva] at HA HR;rw [hvb] at HB HR;clear hva hvb za0 za1 zb0 zb1;cases ha:digO (a.toNat:Int) with
     |true=>
      rw [ha] at HA HR;cases hb:digO (b.toNat:Int) with
      |true=>
       rw [hb] at HB HR;have HV:=hid (show R=(va:Int)*16+(vb:Int) from by rw [HR.out];simp only [if_true];rw [if_pos ⟨trivial,by omega,by omega⟩]);have HV2:=hid (show RN=va*16+vb from by rw [HCN.out,HV.out,if_neg (by omega)];omega);have HV3:=hid (show RO=true from by rw [HCO.out,HV.out];exact decide_eq_true (by omega));have hor:=or_two va vb hba hbb;clear ha hb;go_enter Tryz.func92,Tryz.ntmps92;go_wp2_with (first
        |(go_at_call 130;(with_reducible refine(HA.out _).mono ?_);rintro e w1 ⟨rfl,rfl⟩)
        |(go_at_call 130;(with_reducible refine(HB.out _).mono ?_);rintro e w1 ⟨rfl,rfl⟩))
       go_ret2;rw [HV2.out,HV3.out];exact⟨rfl,rfl⟩
      |false=>
       rw [hb] at HB HR;have HV:=hid (show R= -1 from by rw [HR.out];simp);have HV2:=hid (show RN=0 from by rw [HCN.out,HV.out];rfl);have HV3:=hid (show RO=false from by rw [HCO.out,HV.out];rfl);clear ha hb;go_enter Tryz.func92,Tryz.ntmps92;go_wp2_with (first
        |(go_at_call 130;(with_reducible refine(HA.out _).mono ?_);rintro e w1 ⟨rfl,rfl⟩)
        |(go_at_call 130;(with_reducible refine(HB.out _).mono ?_);rintro e w1 ⟨rfl,rfl⟩))
       go_ret2;rw [HV2.out,HV3.out];exact⟨rfl,rfl⟩
     |false=>
      rw [ha] at HA HR;have HV:=hid (show R= -1 from by rw [HR.out];simp);have HV2:=hid (show RN=0 from by rw [HCN.out,HV.out];rfl);have HV3:=hid (show RO=false from by rw [HCO.out,HV.out];rfl);clear ha;go_enter Tryz.func92,Tryz.ntmps92;go_wp2_with (go_at_call 130;(with_reducible refine(HA.out _).mono ?_);rintro e w1 ⟨rfl,rfl⟩);go_ret2;rw [HV2.out,HV3.out];exact⟨rfl,rfl⟩
   · have HV:=hid (show R= -1 from by rw [HR.out,if_neg (fun q=>q37 q.1)]);have HV2:=hid (show RN=0 from by rw [HCN.out,HV.out];rfl);have HV3:=hid (show RO=false from by rw [HCO.out,HV.out];rfl);have z1:¬(c.toNat:Int)=37:=fun e=>q37 (UInt8.toNat_inj.1 (by show c.toNat=37;omega))
     have z2:((c.toNat:Int)== 37)=false:=by simpa using z1
     have z3:((c.toNat:Int) != 37)=true:=by simpa using z1
     clear q37;go_enter Tryz.func92,Tryz.ntmps92;go_wp2;go_ret2;rw [HV2.out,HV3.out];exact⟨rfl,rfl⟩
 · have HV:=hid (show codeI s= -1 from codeI_short (by rw [hn];omega));have HV2:=hid (show codeN s=0 from by unfold codeN;rw [HV.out];rfl);have HV3:=hid (show codeO s=false from by unfold codeO;rw [HV.out];rfl);rw [hS,HV2.out,HV3.out];rw [hn] at hs;clear hn hS;have z1:(n:Int)<3:=by omega
   go_enter Tryz.func92,Tryz.ntmps92;go_wp2;go_ret2;exact⟨rfl,rfl⟩
theorem rpath_any (s:B) (hs:s.length≤35184372088832) (w:World):Calls Tryz.prog 70 #[.string (str s)] w fun e w'=>e= .returned (.bool (isPath s))∧Below w.heap.size w w':=by
 have HM:=hid (made_any s [47] true hs (by decide));cases s with
 |nil=>
  clear HM hs;rw [show isPath []=false from by decide];go_enter Tryz.func70,Tryz.ntmps70;go_wp2;go_ret;exact⟨rfl,Below.refl _ _⟩
 |cons c l=>
  have hq:=ne_empty (A:=str (c::l)) (str_ne (a:=c::l) (b:=[]) (by simp));have e0:isPath (c::l)=(decide (c=47) && made [47] true (c::l)):=by simp [isPath]
  rw [e0];obtain⟨M,hM⟩:∃ M,made [47] true (c::l)=M:=⟨_,rfl⟩;rw [hM] at HM ⊢;have hsz:0<(str (c::l)).size:=by rw [str_size];simp
  have hb0:∀ h:0<(str (c::l)).size,(str (c::l))[0]'h=c:=fun h=>rfl
  have hs2:(str (c::l)).size≤35184372088832:=by rw [str_size];exact hs
  obtain⟨S,hS⟩:∃ S,str (c::l)=S:=⟨_,rfl⟩;rw [hS] at HM hq hsz hs2 ⊢;have hb1:∀ h:0<S.size,S[0]'h=c:=fun h=>by subst hS;exact hb0 h
  clear hS hb0 e0 hM hs;by_cases hc:c=47
  · subst hc;go_enter Tryz.func70,Tryz.ntmps70;go_wp2_with (go_at_call 112;(with_reducible refine(HM.out _).mono ?_);rintro e w1 ⟨rfl,hb⟩;have HB:=hid hb;clear hb);go_ret;exact⟨by simp,HB.out⟩
  · have z1:¬(c.toNat:Int)=47:=fun e=>hc (UInt8.toNat_inj.1 (by show c.toNat=47;omega))
    have z2:((c.toNat:Int)== 47)=false:=by simpa using z1
    have HV:=hid (show (decide (c=47) && M)=false from by simp [hc]);rw [HV.out];clear hc;go_enter Tryz.func70,Tryz.ntmps70;go_wp2;go_ret;exact⟨rfl,Below.refl _ _⟩
theorem mk_row (w:World) (n:Nat) (hn:n≤140737488355328):∃ w',(Instr.makeSlice 138 (.int .i64 0) (.int .i64 (n:Int))).run Tryz.prog w= .ok (.slice (some ⟨w.heap.size,0,none⟩) 0 n) w'∧Own w' w.heap.size (.slice (some ⟨w.heap.size,0,none⟩) 0 n) []∧Below w.heap.size w w':=by
 obtain⟨i0,hi0,hz0,hz1,hz2⟩:=info_parts infoB;obtain⟨w',h1,h2,h3⟩:=run_make_own (P:=Tryz.prog) w w.heap.size 138 5 i0 _ 1 Tryz.underlying138 hi0 hz0 hz1 .i64 .i64 n (by rw [hz2];omega) (by unfold maxLen;omega) (Nat.le_refl _);exact⟨w',h1,h2,below_grown h3⟩
theorem decP_some:∀ {l:B},codeO l=true→decP l=UInt8.ofNat (codeN l)::decP (l.drop 3)
 | [],h=>by simp [codeO,codeI] at h
 | [c],h=>by simp [codeO,codeI] at h
 | [c,d],h=>by simp [codeO,codeI] at h
 |c::a::b::r,h=>by
  unfold codeO at h;unfold codeN;rw [decP];cases hv:codeOf c a b with
  |none=>rw [codeI_none hv] at h;simp at h
  |some v=>
   rw [codeI_some hv,if_neg (by omega)];simp
theorem codeO_long {l:B} (h:codeO l=true):3≤l.length:=by
 rcases Nat.lt_or_ge l.length 3 with q|q
 · unfold codeO at h;rw [codeI_short q] at h;simp at h
 · exact q
theorem madeP_code {p q:UInt8→Bool}:∀ (l:B),madeP p q (37::l)=(codeO (37::l) && q (UInt8.ofNat (codeN (37::l))) && madeP p q (l.drop 2))
 | []=>by simp [madeP,codeO,codeI]
 | [d]=>by simp [madeP,codeO,codeI]
 |a::b::r=>by
  rw [madeP,if_pos rfl];unfold codeO codeN;cases hv:codeOf 37 a b with
  |none=>rw [codeI_none hv];simp
  |some v=>
   rw [codeI_some hv,if_neg (by omega)];simp
theorem madeP_plain {p q:UInt8→Bool}{c:UInt8} (h:c≠37):∀ (l:B),madeP p q (c::l)=(p c && madeP p q l)
 | []=>by simp [madeP,h]
 | [d]=>by simp [madeP,h]
 |a::b::r=>by rw [madeP,if_neg h]
theorem made_path (s:B) (hs:s.length≤35184372088832) (w:World):Calls Tryz.prog 88 #[.string (str s),.func (.func 89) #[] #[],.func (.func 90) #[] #[]] w fun e w'=>e= .returned (.bool (madeP inPathC softC s))∧w'=w:=by
 obtain⟨n,hn⟩:∃ n,s.length=n:=⟨_,rfl⟩;have HN:=hid hn;obtain⟨S,hS⟩:∃ S,str s=S:=⟨_,rfl⟩;have hSn:S.size=n:=by rw [←hS,str_size,hn]
 have HByte:=hid (show ∀ (k:Nat) (h:k<s.length) (h2:k<S.size),S[k]'h2=s[k]'h from fun k h h2=>by subst hS;rfl);have HCo:=hid (show ∀ i,i≤n→∀ w,_ from fun i hi=>pcode_any (s.drop i) (by rw [List.length_drop];omega));have HEx:=hid (show ∀ i,S.extract i n=str (s.drop i) from fun i=>by rw [←hS];exact ext_drop s i n hn);have HF0:=hid (show ∀ (c:UInt8) (w:World),_ from pinpath_any);have HG0:=hid (show ∀ (c:UInt8) (w:World),_ from psoft_any);obtain⟨R,hR0⟩:∃ R,madeP inPathC softC s=R:=⟨_,rfl⟩;have HR0:=hid hR0;rw [hn] at hs;rw [hS,hR0];clear hn hS hR0;go_enter Tryz.func88,Tryz.ntmps88;go_wp2;go_loopg [7] (n+1) (fun gk s7 wr=>∃ i:Nat,i≤n∧gk=n-i+1∧s7= .int .i64 (i:Int)∧R=madeP inPathC softC (s.drop i)∧wr=w)
 case atStart=>exact⟨0,by omega,rfl,rfl,HR0.out.symm,rfl⟩
 case round=>
  obtain⟨i,hi,rfl,rfl,hR,rfl⟩:=hrel;have HR:=hid hR;clear hR;by_cases hin:i<n
  · have hi1:i<s.length:=by rw [HN.out];exact hin
    obtain⟨y,hy⟩:∃ y,s[i]=y:=⟨_,rfl⟩;obtain⟨Y,hY⟩:∃ Y:Nat,y.toNat=Y:=⟨_,rfl⟩;have hY256:Y<256:=by rw [←hY];exact y.toNat_lt
    have hbyte:∀ h:i<S.size,(S[i]'h).toNat=Y:=fun h=>by rw [HByte.out i hi1 h,hy,hY]
    have HD:=hid (show s.drop i=y::s.drop (i+1) from by rw [List.drop_eq_getElem_cons hi1,hy]);rw [HD.out] at HR;clear hy hi1;by_cases hc:y=37
    · obtain rfl:Y=37:=by rw [←hY,hc];rfl
      subst hc;have hext:S.extract i n=str (s.drop i):=HEx.out i;have HCi:=hid (HCo.out i (by omega));have hZ:=codeN_lt (s.drop i);have HSt:=hid (show R=(codeO (s.drop i) && softC (UInt8.ofNat (codeN (s.drop i))) && madeP inPathC softC (s.drop (i+3))) from by rw [HR.out,madeP_code,HD.out,List.drop_drop]);have HLg:=hid (show codeO (s.drop i)=true→i+3≤n from fun h=>by have:=codeO_long h;rw [List.length_drop,HN.out] at this;omega);have HG:=hid (show ∀ (u:Unit) (w:World),_ from fun _=>HG0.out (UInt8.ofNat (codeN (s.drop i))));rw [show (byteV (UInt8.ofNat (codeN (s.drop i))))= .int .u8 ((codeN (s.drop i)):Int) from by unfold byteV;congr 2;simp;omega] at HG;obtain⟨Z,hZe⟩:∃ Z,codeN (s.drop i)=Z:=⟨_,rfl⟩;rw [hZe] at HCi hZ HSt HG;obtain⟨T,hT⟩:∃ T,str (s.drop i)=T:=⟨_,rfl⟩;rw [hT] at hext HCi;clear hZe hT hY;cases hO:codeO (s.drop i) with
      |true=>
       have hi3:i+3≤n:=HLg.out hO;rw [hO] at HCi HSt;cases hQ:softC (UInt8.ofNat Z) with
       |true=>
        have HNx:=hid (show R=madeP inPathC softC (s.drop (i+3)) from by rw [HSt.out,hQ];rfl);rw [hQ] at HG;clear hO hQ;go_wp2_with (first|(go_at_call 92;(with_reducible refine(HCi.out _).mono ?_);rintro e w1 ⟨rfl,rfl⟩)|(go_at_call 90;(with_reducible refine(HG.out () _).mono ?_);rintro e w1 ⟨rfl,rfl⟩));go_roundg (n-(i+3)+1)
        case measure=>omega
        case rel=>exact⟨i+3,by omega,rfl,by push_cast;go_num,HNx.out,rfl⟩
       |false=>
        have HV:=hid (show R=false from by rw [HSt.out,hQ];rfl);rw [hQ] at HG;clear hO hQ;go_wp2_with (first|(go_at_call 92;(with_reducible refine(HCi.out _).mono ?_);rintro e w1 ⟨rfl,rfl⟩)|(go_at_call 90;(with_reducible refine(HG.out () _).mono ?_);rintro e w1 ⟨rfl,rfl⟩));go_ret;rw [HV.out];exact⟨rfl,rfl⟩
      |false=>
       have HV:=hid (show R=false from by rw [HSt.out,hO];rfl);rw [hO] at HCi;clear hO;go_wp2_with ((go_at_call 92;(with_reducible refine(HCi.out _).mono ?_);rintro e w1 ⟨rfl,rfl⟩));go_ret;rw [HV.out];exact⟨rfl,rfl⟩
    · have z1:¬(Y:Int)=37:=fun e=>hc (UInt8.toNat_inj.1 (by rw [hY];show Y=37;omega))
      have z2:((Y:Int) != 37)=true:=by simpa using z1
      have HSt:=hid (show R=(inPathC y && madeP inPathC softC (s.drop (i+1))) from by rw [HR.out,madeP_plain hc]);have HF:=hid (show ∀ (u:Unit) (w:World),_ from fun _=>HF0.out y);rw [show byteV y= .int .u8 (Y:Int) from by unfold byteV;rw [hY]] at HF;clear hY hc;cases hQ:inPathC y with
      |true=>
       have HNx:=hid (show R=madeP inPathC softC (s.drop (i+1)) from by rw [HSt.out,hQ];rfl);rw [hQ] at HF;clear hQ;go_wp2_with ((go_at_call 89;(with_reducible refine(HF.out () _).mono ?_);rintro e w1 ⟨rfl,rfl⟩));go_roundg (n-(i+1)+1)
       case measure=>omega
       case rel=>exact⟨i+1,by omega,rfl,by push_cast;go_num,HNx.out,rfl⟩
      |false=>
       have HV:=hid (show R=false from by rw [HSt.out,hQ];rfl);rw [hQ] at HF;clear hQ;go_wp2_with ((go_at_call 89;(with_reducible refine(HF.out () _).mono ?_);rintro e w1 ⟨rfl,rfl⟩));go_ret;rw [HV.out];exact⟨rfl,rfl⟩
  · obtain rfl:n=i:=by omega
    have HV:=hid (show R=true from by rw [HR.out,List.drop_of_length_le (by rw [HN.out];exact Nat.le_refl _)];simp [madeP]);go_wp2;go_ret;rw [HV.out];exact⟨rfl,rfl⟩
def decV (r:Option B):Value:=match r with
 |some t=>.tuple #[.string (str t),.int .i64 0]
 |none=>.tuple #[.string (str []),.int .i64 23]
theorem u8_wrap (Z:Nat) (h:Z<256):IntKind.u8.wrap (Z:Int)=(Z:Int):=by
 have key:∀ K:Fin 256,IntKind.u8.wrap (K.val:Int)=(K.val:Int):=by decide+kernel
 exact key ⟨Z,h⟩
theorem of_cell (Z:Nat) (h:Z<256):Lib.byteCells [UInt8.ofNat Z]= [.int .u8 (Z:Int)]:=by
 rw [one_cell];simp;omega
abbrev greatT:ByteArray:=⟨#[48,49,50,51,52,53,54,55,56,57,65,66,67,68,69,70]⟩
theorem great_at (i:Nat) (hi:i<16):∀ (j:Nat) (h:j<greatT.size),j=i→(greatT[j]'h).toNat=(greatD i).toNat:=by
 intro j h e;subst e;have key:∀ K:Fin 16,greatT.data[K.val]?=some (greatD K.val):=by decide
 have h2:greatT.data[j]?=some (greatD j):=key ⟨j,hi⟩;have h3:greatT.data[j]?=some (greatT.data[j]'h):=Array.getElem?_eq_getElem h;have h4:greatT.data[j]'h=greatD j:=Option.some.inj (h3.symm.trans h2);exact congrArg UInt8.toNat h4
theorem rem16 (X:Nat) (h:X<256):(X:Int).tmod 16=(X:Int) % 16:=by
 have key:∀ K:Fin 256,(K.val:Int).tmod 16=(K.val:Int) % 16:=by decide+kernel
 exact key ⟨X,h⟩
theorem quo16i (X:Nat) (h:X<256):IntKind.i64.wrap ((X:Int) / 16)=(X:Int) / 16:=by rw [IntKind.wrap_i64];omega
theorem new_drew (w:World) (o:Obj):Below w.heap.size w (w.alloc o).drew:=⟨(below_new w o).os,(below_new w o).tape,(below_new w o).output,(below_new w o).size,(below_new w o).block⟩
theorem three_cells (a b:UInt8):Lib.byteCells [37,a,b]= [.int .u8 37,.int .u8 (a.toNat:Int),.int .u8 (b.toNat:Int)]:=by simp [Lib.byteCells]
theorem ofNat_nat (Y:Nat) (h:Y<256):(UInt8.ofNat Y).toNat=Y:=by simp;omega
theorem meant_none:∀ {c:UInt8}{l:B},codeI (c::l)<0→meantB (c::l)=c::meantB l
 |c,[],_=>by simp [meantB]
 |c,[d],_=>by simp [meantB]
 |c,a::b::r,h=>by
  rw [meantB];cases hv:codeOf c a b with
  |none=>rfl
  |some v=>rw [codeI_some hv] at h;omega
theorem meant_some:∀ {c:UInt8}{l:B},¬codeI (c::l)<0→meantB (c::l)=(if unres (UInt8.ofNat (codeI (c::l)).toNat) then [UInt8.ofNat (codeI (c::l)).toNat] else codeB (UInt8.ofNat (codeI (c::l)).toNat))++meantB (l.drop 2)
 |c,[],h=>absurd (by rw [codeI_short (by simp)];omega) h
 |c,[d],h=>absurd (by rw [codeI_short (by simp)];omega) h
 |c,a::b::r,h=>by
  rw [meantB];cases hv:codeOf c a b with
  |none=>rw [codeI_none hv] at h;omega
  |some v=>
   rw [codeI_some hv];simp
theorem rmeant_any (s:B) (hs:s.length≤35184372088832) (w:World):Calls Tryz.prog 72 #[.string (str s)] w fun e w'=>e= .returned (.string (str (meantB s)))∧Below w.heap.size w w':=by
 obtain⟨i0,hi0,hz0,hz1,hz2⟩:=info_parts infoB;obtain⟨n,hn⟩:∃ n,s.length=n:=⟨_,rfl⟩;have HN:=hid hn;obtain⟨S,hS⟩:∃ S,str s=S:=⟨_,rfl⟩;have hSn:S.size=n:=by rw [←hS,str_size,hn]
 have HByte:=hid (show ∀ (k:Nat) (h:k<s.length) (h2:k<S.size),S[k]'h2=s[k]'h from fun k h h2=>by subst hS;rfl);have HCo:=hid (show ∀ i,i≤n→∀ w,_ from fun i hi=>code_any s i (by omega) (by omega));obtain⟨R,hR0⟩:∃ R,meantB s=R:=⟨_,rfl⟩;have HR0:=hid hR0;rw [hS] at HCo;rw [hn] at hs;rw [hS,hR0];clear hn hS hR0;go_enter Tryz.func72,Tryz.ntmps72;go_wp2;go_loopg [3,4] (n+1) (fun gk s3 s4 wr=>∃ i:Nat,i≤n∧gk=n-i+1∧s4= .int .i64 (i:Int)∧∃ acc:B,Own wr w.heap.size s3 acc∧acc.length≤i∧R=acc++meantB (s.drop i)∧Below w.heap.size w wr)
 case atStart=>exact⟨0,by omega,rfl,rfl,[],Own.nil w _,by simp,by rw [←HR0.out];simp,Below.refl _ _⟩
 case round=>
  obtain⟨i,hi,rfl,rfl,acc,ho,hln0,hR,hb⟩:=hrel;have HB:=hid hb;have HR:=hid hR;obtain⟨ln,hln⟩:∃ ln,acc.length=ln:=⟨_,rfl⟩;have HLe:=hid hln;obtain⟨p,c0,rfl⟩:=own_slice ho;have HO:=hid ho;rw [hln] at HO hln0 ⊢;clear ho hb hln hR;by_cases hin:i<n
  · have hi1:i<s.length:=by rw [HN.out];exact hin
    obtain⟨y,hy⟩:∃ y,s[i]=y:=⟨_,rfl⟩;obtain⟨D,hD⟩:∃ D:Nat,y.toNat=D:=⟨_,rfl⟩;have hD256:D<256:=by rw [←hD];exact y.toNat_lt
    have hbyte:∀ h:i<S.size,(S[i]'h).toNat=D:=fun h=>by rw [HByte.out i hi1 h,hy,hD]
    have HD:=hid (show s.drop i=y::s.drop (i+1) from by rw [List.drop_eq_getElem_cons hi1,hy]);have HBy:=hid (show Lib.byteCells [y]= [.int .u8 (D:Int)] from by rw [one_cell,hD]);have HSn:=hid (show codeI (s.drop i)<0→R=acc++ [y]++meantB (s.drop (i+1)) from fun h=>by
     rw [HD.out] at h;rw [HR.out,HD.out,meant_none h];simp)
    have HSs:=hid (show ¬codeI (s.drop i)<0→R=acc++(if unres (UInt8.ofNat (codeI (s.drop i)).toNat) then [UInt8.ofNat (codeI (s.drop i)).toNat] else codeB (UInt8.ofNat (codeI (s.drop i)).toNat))++meantB (s.drop (i+3)) from fun h=>by
     rw [HR.out];rw [HD.out] at h ⊢;rw [meant_some h,List.drop_drop,List.append_assoc])
    have HLg:=hid (show 0≤codeI (s.drop i)→i+3≤n from fun h=>by
     rw [HD.out] at h;have:=code_long h;rw [List.length_drop,HN.out] at this;omega)
    have HCi:=hid (HCo.out i (by omega));have hbd:=codeI_bd (s.drop i);obtain⟨V,hV⟩:∃ V,codeI (s.drop i)=V:=⟨_,rfl⟩;rw [hV] at HSn HSs HLg HCi hbd;clear hV hy hi1 hD;by_cases hneg:V<0
    · have HNx:=hid (HSn.out hneg);go_wp2_with (first|(go_at_call 113;(with_reducible refine(HCi.out _).mono ?_);rintro e w1 ⟨rfl,q,hq⟩;have HOq:=hid (show Own w1 w.heap.size (.slice p ln c0) acc from(by rw [hq];exact HO.out.keep (below_drew (Below.refl _ _) q)));have HBq:=hid (show Below w.heap.size w w1 from(by rw [hq];exact below_drew HB.out q));clear hq)|(at_builtin;refine wpList_append_own_at _ rfl (.tmp 27) (.tmp 31) 138 rfl w.heap.size 5 i0 _ 1 1 Tryz.underlying138 hi0 hz0 hz1 hz2 rfl (by decide) (.slice p ln c0) ln (Lib.byteCells acc) (by go_simp) (by have h8:=HOq.out.alloc (.cells #[.int .u8 (D:Int)] 5 (0,0));unfold Own at h8;rw [HLe.out] at h8;exact h8) ⟨w1.heap.size,0,none⟩ 1 1 [.int .u8 (D:Int)] (by go_simp) rfl (cells_new w1 _ _) (by simp [Value.oneCell']) (by unfold maxLen;omega) (by omega) (Nat.le_trans HBq.out.size (below_new _ _).size) ?_;intro v' w' hown hgr _ _;obtain⟨p7,L7,c7,rfl⟩:=own_slice3 hown;have HB2:=hid (HBq.out.trans (((below_new w1 (.cells #[.int .u8 (D:Int)] 5 (0,0))).mono HBq.out.size).trans (Own.below (HOq.out.alloc (.cells #[.int .u8 (D:Int)] 5 (0,0))) (Nat.le_trans HBq.out.size (below_new _ _).size) hgr)));have HW:=hid (Own.put (acc:=acc) (bs:=[y]) (by rw [HLe.out];exact hown) HBy.out rfl);clear hown hgr));go_roundg (n-(i+1)+1)
      case measure=>omega
      case rel=>exact⟨i+1,by omega,rfl,by push_cast;go_num,_,HW.out,by rw [List.length_append,HLe.out];simp;omega,HNx.out,HB2.out⟩
    · have hi3:i+3≤n:=HLg.out (by omega);obtain⟨Y,rfl⟩:∃ Y:Nat,V=(Y:Int):=⟨V.toNat,by omega⟩;have hY256:Y<256:=by omega
      have hw8:=u8_wrap Y hY256;have HSt:=hid (HSs.out hneg);simp only [Int.toNat_natCast] at HSt;have HUn:=hid (unres_any (UInt8.ofNat Y));unfold byteV at HUn;rw [ofNat_nat Y hY256] at HUn;have HBu:=hid (of_cell Y hY256);cases hu:unres (UInt8.ofNat Y) with
      |true=>
       rw [hu] at HUn HSt;have HNx:=hid (show R=acc++ [UInt8.ofNat Y]++meantB (s.drop (i+3)) from HSt.out);clear hu;go_wp2_with (first|(go_at_call 113;(with_reducible refine(HCi.out _).mono ?_);rintro e w1 ⟨rfl,q,hq⟩;have HOq:=hid (show Own w1 w.heap.size (.slice p ln c0) acc from(by rw [hq];exact HO.out.keep (below_drew (Below.refl _ _) q)));have HBq:=hid (show Below w.heap.size w w1 from(by rw [hq];exact below_drew HB.out q));clear hq)|(go_at_call 114;(with_reducible refine(HUn.out _).mono ?_);rintro e w2 ⟨rfl,hw2⟩;subst w2)|(at_builtin;refine wpList_append_own_at _ rfl (.tmp 37) (.tmp 40) 138 rfl w.heap.size 5 i0 _ 1 1 Tryz.underlying138 hi0 hz0 hz1 hz2 rfl (by decide) (.slice p ln c0) ln (Lib.byteCells acc) (by go_simp) (by have h8:=HOq.out.alloc (.cells #[.int .u8 (Y:Int)] 5 (0,0));unfold Own at h8;rw [HLe.out] at h8;exact h8) ⟨w1.heap.size,0,none⟩ 1 1 [.int .u8 (Y:Int)] (by go_simp) rfl (cells_new w1 _ _) (by simp [Value.oneCell']) (by unfold maxLen;omega) (by omega) (Nat.le_trans HBq.out.size (below_new _ _).size) ?_;intro v' w' hown hgr _ _;obtain⟨p7,L7,c7,rfl⟩:=own_slice3 hown;have HB2:=hid (HBq.out.trans (((below_new w1 (.cells #[.int .u8 (Y:Int)] 5 (0,0))).mono HBq.out.size).trans (Own.below (HOq.out.alloc (.cells #[.int .u8 (Y:Int)] 5 (0,0))) (Nat.le_trans HBq.out.size (below_new _ _).size) hgr)));have HW:=hid (Own.put (acc:=acc) (bs:=[UInt8.ofNat Y]) (by rw [HLe.out];exact hown) HBu.out rfl);clear hown hgr));go_roundg (n-(i+3)+1)
       case measure=>omega
       case rel=>exact⟨i+3,by omega,rfl,by push_cast;go_num,_,HW.out,by rw [List.length_append,HLe.out];simp;omega,HNx.out,HB2.out⟩
      |false=>
       rw [hu] at HUn HSt;have HNx:=hid (show R=acc++ [37,greatD (Y / 16),greatD (Y % 16)]++meantB (s.drop (i+3)) from by rw [HSt.out];unfold codeB;rw [ofNat_nat Y hY256];rfl);clear hu;have HE1:=hid (great_at (Y / 16) (by omega));have HE2:=hid (great_at (Y % 16) (by omega));obtain⟨h1,hh1⟩:∃ h1,greatD (Y / 16)=h1:=⟨_,rfl⟩;obtain⟨h2,hh2⟩:∃ h2,greatD (Y % 16)=h2:=⟨_,rfl⟩;rw [hh1] at HE1;rw [hh2] at HE2;rw [hh1,hh2] at HNx;have HBc:=hid (three_cells h1 h2);clear hh1 hh2;go_wp2_with (first|(go_at_call 113;(with_reducible refine(HCi.out _).mono ?_);rintro e w1 ⟨rfl,q,hq⟩;have HOq:=hid (show Own w1 w.heap.size (.slice p ln c0) acc from(by rw [hq];exact HO.out.keep (below_drew (Below.refl _ _) q)));have HBq:=hid (show Below w.heap.size w w1 from(by rw [hq];exact below_drew HB.out q));clear hq)|(go_at_call 114;(with_reducible refine(HUn.out _).mono ?_);rintro e w2 ⟨rfl,hw2⟩;subst w2));refine wp_region_noPanic ?_;refine any_begin 10 (by kernel_rfl) (by kernel_rfl) ?_;refine atk (i:=0) (some 15) rfl rfl (v:= ?v0m) ?hy0m ?rest0m
       case hy0m=>intro w0;go_simp;try with_reducible rfl
       simp only [Act.put,sA,sB,sC];refine atk (i:=1) (some 16) rfl rfl (v:= ?v1m) ?hy1m ?rest1m
       case hy1m=>intro w0;go_simp;try with_reducible rfl
       simp only [Act.put,sA,sB,sC];refine atk (i:=2) (some 17) rfl rfl (v:=.int .i64 ((Y / 16:Nat):Int)) ?hy2m ?rest2m
       case hy2m=>intro w0;go_simp;first|(exact quo16i Y hY256)|(rw [quo16i Y hY256];rfl)
       simp only [Act.put,sA,sB,sC];refine atk (i:=3) (some 18) rfl rfl (v:=.int .u8 (h1.toNat:Int)) ?hy3m ?rest3m
       case hy3m=>intro w0;go_simp;rw [dif_pos ⟨by omega,by omega⟩];simp only [Result.andThen];congr 4;exact HE1.out _ _ (by omega)
       simp only [Act.put,sA,sB,sC];refine atk (i:=4) (some 19) rfl rfl (v:= ?v4m) ?hy4m ?rest4m
       case hy4m=>intro w0;go_simp;try with_reducible rfl
       simp only [Act.put,sA,sB,sC];refine atk (i:=5) (some 20) rfl rfl (v:=.int .i64 ((Y % 16:Nat):Int)) ?hy5m ?rest5m
       case hy5m=>intro w0;go_simp;first|(exact rem16 Y hY256)|(rw [rem16 Y hY256];rfl)
       simp only [Act.put,sA,sB,sC];refine atk (i:=6) (some 21) rfl rfl (v:=.int .u8 (h2.toNat:Int)) ?hy6m ?rest6m
       case hy6m=>intro w0;go_simp;rw [dif_pos ⟨by omega,by omega⟩];simp only [Result.andThen];congr 4;exact HE2.out _ _ (by omega)
       simp only [Act.put,sA,sB,sC];refine any_one (i:=7) (by kernel_rfl) rfl (fun K hK=>?_);go_simp;refine hK _ _ ?_;clear hK K;refine any_one (i:=8) (by kernel_rfl) rfl (fun K hK=>?_);rw [if_pos (by rfl)];refine wp_append_own_at (.tmp 15) (.tmp 22) 138 rfl w.heap.size 5 i0 _ 1 1 Tryz.underlying138 hi0 hz0 hz1 hz2 rfl (by decide) (.slice p ln c0) ln (Lib.byteCells acc) (by go_simp) (by have h8:=HOq.out.alloc (.cells #[.int .u8 37,.int .u8 (h1.toNat:Int),.int .u8 (h2.toNat:Int)] 5 (0,0));unfold Own at h8;rw [HLe.out] at h8;exact h8) ⟨w1.heap.size,0,none⟩ 3 3 [.int .u8 37,.int .u8 (h1.toNat:Int),.int .u8 (h2.toNat:Int)] (by go_simp) rfl (cells_new w1 _ _) (by simp [Value.oneCell']) (by unfold maxLen;omega) (by omega) (Nat.le_trans HBq.out.size (below_new _ _).size) ?_;intro v' w' hown hgr _;obtain⟨p7,L7,c7,rfl⟩:=own_slice3 hown;have HB2:=hid (HBq.out.trans (((new_drew w1 _).mono HBq.out.size).trans (Own.below (show Own (w1.alloc (.cells #[.int .u8 37,.int .u8 (h1.toNat:Int),.int .u8 (h2.toNat:Int)] 5 (0,0))).drew w.heap.size _ acc from HOq.out.alloc (.cells #[.int .u8 37,.int .u8 (h1.toNat:Int),.int .u8 (h2.toNat:Int)] 5 (0,0))) (Nat.le_trans HBq.out.size (below_new _ _).size) hgr)));have HW:=hid (Own.put (acc:=acc) (bs:=[37,h1,h2]) (by rw [HLe.out];exact hown) HBc.out rfl);clear hown hgr;show K (Act.put _ (some 23) (.slice p7 L7 c7)) w';refine hK _ _ ?_;clear hK K;simp only [Act.put,sA,sB,sC];refine atk (i:=9) (some 3) rfl rfl (v:= ?v9m) ?hy9m ?rest9m
       case hy9m=>intro w0;go_simp;try with_reducible rfl
       simp only [Act.put,sA,sB,sC];refine any_done (by kernel_rfl) ?_ _;refine NoPanic.normal ?_;go_wp2;go_roundg (n-(i+3)+1)
       case measure=>omega
       case rel=>exact⟨i+3,by omega,rfl,by push_cast;go_num,_,HW.out,by rw [List.length_append,HLe.out];simp;omega,HNx.out,HB2.out⟩
  · obtain rfl:n=i:=by omega
    have HV:=hid (show R=acc from by rw [HR.out,List.drop_of_length_le (by rw [HN.out];exact Nat.le_refl _)];simp [meantB]);have hcv:=conv_own HO.out;go_wp2;go_ret;rw [HV.out];exact⟨rfl,HB.out⟩
end Go.Proofs.YtlmlljlappjjjaaGreatDoor
