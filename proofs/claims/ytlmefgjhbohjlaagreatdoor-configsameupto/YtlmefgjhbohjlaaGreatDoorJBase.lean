/- The program's bytes: letters, unreserved, path, query and host bytes; its digits and codes. -/
import Derived.Test.YtlmefgjhbohjlaaGreatDoorTRMade
namespace Go.Proofs.YtlmefgjhbohjlaaGreatDoor
set_option maxRecDepth 100000
set_option maxHeartbeats 8000000
open Go.RowKit
theorem dec_true {p:Prop} [Decidable p] (h:p):true=decide p:=(decide_eq_true h).symm
theorem dec_false {p:Prop} [Decidable p] (h:¬p):false=decide p:=(decide_eq_false h).symm
theorem dec_iff {p q:Prop} [Decidable p] [Decidable q] (h:p↔q):decide p=decide q:=decide_eq_decide.2 h
theorem dec_iff2 {p p2 q:Prop} [Decidable p] [Decidable p2] [Decidable q] (h:p∨p2↔q):(decide p || decide p2)=decide q:=by rw [←Bool.decide_or];exact dec_iff h
theorem dec_iff3 {p p2 p3 q:Prop} [Decidable p] [Decidable p2] [Decidable p3] [Decidable q] (h:(p∨p2)∨p3↔q):(decide p || decide p2 || decide p3)=decide q:=by rw [←Bool.decide_or,←Bool.decide_or];exact dec_iff h
theorem beq_or {X k:Int}{q r:Prop} [Decidable q] [Decidable r] (h:r↔X=k∨q):(X== k || decide q)=decide r:=by
 rw [Bool.eq_iff_iff];simp only [Bool.or_eq_true,beq_iff_eq,decide_eq_true_eq];exact h.symm
theorem byte_int (c:UInt8):0≤(c.toNat:Int)∧(c.toNat:Int)≤255:=by have:=c.toNat_lt;omega
def letterI (X:Int):Prop:=(97≤X∧X≤122)∨(65≤X∧X≤90)∨(48≤X∧X≤57)
def unresI (X:Int):Prop:=X=45∨X=46∨X=95∨X=126∨letterI X
def plainI (X:Int):Prop:=X=33∨X=36∨X=38∨X=39∨X=40∨X=41∨X=42∨X=43∨X=44∨X=59∨X=61∨X=58∨X=64∨unresI X
def hostI_t (X:Int):Prop:=X=45∨X=46∨X=95∨X=58∨letterI X
instance (X:Int):Decidable (letterI X):=by unfold letterI;infer_instance
instance (X:Int):Decidable (unresI X):=by unfold unresI;infer_instance
instance (X:Int):Decidable (plainI X):=by unfold plainI;infer_instance
instance (X:Int):Decidable (hostI_t X):=by unfold hostI_t;infer_instance
def pathI (X:Int):Prop:=X=47∨plainI X
def queryI (X:Int):Prop:=X=63∨pathI X
def softI (X:Int):Prop:=32≤X∧¬X=127
instance (X:Int):Decidable (pathI X):=by unfold pathI;infer_instance
instance (X:Int):Decidable (queryI X):=by unfold queryI;infer_instance
instance (X:Int):Decidable (softI X):=by unfold softI;infer_instance
theorem unres_int (c:UInt8):unres c=decide (unresI (c.toNat:Int)):=all256 (P:=fun c=>unres c=decide (unresI (c.toNat:Int))) (by decide+kernel) c
theorem plain_int (c:UInt8):plainB c=decide (plainI (c.toNat:Int)):=all256 (P:=fun c=>plainB c=decide (plainI (c.toNat:Int))) (by decide+kernel) c
theorem inPath_int (c:UInt8):inPathC c=decide (pathI (c.toNat:Int)):=all256 (P:=fun c=>inPathC c=decide (pathI (c.toNat:Int))) (by decide+kernel) c
theorem soft_int (c:UInt8):softC c=decide (softI (c.toNat:Int)):=all256 (P:=fun c=>softC c=decide (softI (c.toNat:Int))) (by decide+kernel) c
def ByteFn (f:Nat) (p:UInt8→Bool):Prop:=∀ (c:UInt8) (w:World),Calls Tryz.prog f #[byteV c] w fun e w'=>e= .returned (.bool (p c))∧w'=w
theorem punres_any:ByteFn 378 unres:=by
 intro c w;rw [unres_int];obtain⟨h0,h1⟩:=byte_int c;unfold byteV;generalize (c.toNat:Int)=X at*;go_enter Tryz.func378,Tryz.ntmps378;go_wp2;all_goals
  go_ret;exact⟨ret_bool (by(try simp only [beq_iff_eq,beq_eq_false_iff_ne,ne_eq] at*) <;> first|exact dec_true (by unfold unresI letterI;omega)|exact dec_false (by unfold unresI letterI;omega)|exact dec_iff (by unfold unresI letterI;omega)|exact dec_iff2 (by unfold unresI letterI;omega)|exact dec_iff3 (by unfold unresI letterI;omega)),rfl⟩
theorem pplain_any:ByteFn 375 plainB:=by
 intro c w;have HU:=hid (punres_any c);rw [unres_int] at HU;rw [plain_int];obtain⟨h0,h1⟩:=byte_int c;unfold byteV at HU ⊢;generalize (c.toNat:Int)=X at*;go_enter Tryz.func375,Tryz.ntmps375;go_wp2_with (go_at_call 378;(with_reducible refine(HU.out _).mono ?_);rintro e w1 ⟨rfl,rfl⟩);all_goals
  go_ret;exact⟨ret_bool (by(try simp only [beq_iff_eq,beq_eq_false_iff_ne,ne_eq] at*) <;> first|exact dec_true (by(try unfold plainI);(try unfold unresI);(try unfold hostI_t);(try unfold letterI);omega)|exact dec_false (by(try unfold plainI);(try unfold unresI);(try unfold hostI_t);(try unfold letterI);omega)|exact dec_iff (by(try unfold plainI);(try unfold unresI);(try unfold hostI_t);(try unfold letterI);omega)|exact dec_iff2 (by(try unfold plainI);(try unfold unresI);(try unfold hostI_t);(try unfold letterI);omega)|exact dec_iff3 (by(try unfold plainI);(try unfold unresI);(try unfold hostI_t);(try unfold letterI);omega)),rfl⟩
theorem pinpath_any:ByteFn 343 inPathC:=by
 intro c w;have HU:=hid (pplain_any c);rw [plain_int] at HU;rw [inPath_int];obtain⟨h0,h1⟩:=byte_int c;unfold byteV at HU ⊢;generalize (c.toNat:Int)=X at*;go_enter Tryz.func343,Tryz.ntmps343;go_wp2_with (go_at_call 375;(with_reducible refine(HU.out _).mono ?_);rintro e w1 ⟨rfl,rfl⟩);all_goals
  go_ret;exact⟨ret_bool (by(try simp only [beq_iff_eq,beq_eq_false_iff_ne,ne_eq] at*) <;> first|exact dec_true (p:=pathI X) (Or.inl (by omega))|exact beq_or (r:=pathI X) Iff.rfl|exact dec_iff (q:=pathI X) ⟨Or.inr,fun h=>h.resolve_left (by omega)⟩),rfl⟩
theorem psoft_any:ByteFn 344 softC:=by
 intro c w;rw [soft_int];obtain⟨h0,h1⟩:=byte_int c;unfold byteV;generalize (c.toNat:Int)=X at*;go_enter Tryz.func344,Tryz.ntmps344;go_wp2;all_goals
  go_ret;exact⟨ret_bool (by first|exact dec_false (by unfold softI;omega)|(rw [Bool.eq_iff_iff,decide_eq_true_iff (p:=softI X)];unfold softI;simp;omega)),rfl⟩
def digV (X:Int):Int:=if 65≤X∧X≤70 then X-55 else if 97≤X∧X≤102 then X-87 else if 48≤X∧X≤57 then X-48 else 0
def digO (X:Int):Bool:=decide (65≤X∧X≤70) || decide (97≤X∧X≤102) || decide (48≤X∧X≤57)
theorem dig_int (c:UInt8):hexI_t c=if digO (c.toNat:Int) then digV (c.toNat:Int) else -1:=all256 (P:=fun c=>hexI_t c=if digO (c.toNat:Int) then digV (c.toNat:Int) else -1) (by decide+kernel) c
theorem digit_any_t (X:Int) (h0:0≤X) (h1:X≤255) (w:World):Calls Tryz.prog 377 #[.int .u8 X] w fun e w'=>e= .returned (.tuple #[.int .u8 (digV X),.bool (digO X)])∧w'=w:=by
 go_enter Tryz.func377,Tryz.ntmps377;go_wp2;all_goals
  go_ret2;refine⟨ret_ib ?_ ?_,rfl⟩
  · unfold digV;(repeat' split) <;> omega
  · rw [Bool.eq_iff_iff];simp [digO];try omega
theorem digV_bd (X:Int):0≤digV X∧digV X≤15:=by unfold digV;(repeat' split) <;> omega
def codeN_t (s:B):Nat:=if codeI s<0 then 0 else (codeI s).toNat
def codeO (s:B):Bool:=decide (0≤codeI s)
theorem codeN_lt (s:B):codeN_t s<256:=by
 have:=codeI_bd s;unfold codeN_t;split <;> omega
theorem or_two (a b:Nat) (ha:a≤15) (hb:b≤15):bits BinOp.or IntKind.u8 ((a:Int)*16) (b:Int)=((a*16+b:Nat):Int):=by
 have key:∀ (i j:Fin 16),bits BinOp.or IntKind.u8 ((i.val:Int)*16) (j.val:Int)=((i.val*16+j.val:Nat):Int):=by decide+kernel
 exact key ⟨a,by omega⟩ ⟨b,by omega⟩
theorem pcode_any (s:B) (hs:s.length≤70368744177664) (w:World):Calls Tryz.prog 346 #[.string (str s)] w fun e w'=>e= .returned (.tuple #[.int .u8 (codeN_t s:Int),.bool (codeO s)])∧w'=w:=by
 obtain⟨n,hn⟩:∃ n,s.length=n:=⟨_,rfl⟩;obtain⟨S,hS⟩:∃ S,str s=S:=⟨_,rfl⟩;have hSn:S.size=n:=by rw [←hS,str_size,hn]
 by_cases hlt:2<n
 · have h0:0+2<s.length:=by rw [hn];omega
   have e:=drop3 h0;rw [List.drop_zero] at e;obtain⟨c,hc⟩:∃ c,s[0]=c:=⟨_,rfl⟩;obtain⟨a,ha⟩:∃ a,s[0+1]=a:=⟨_,rfl⟩;obtain⟨b,hb⟩:∃ b,s[0+2]=b:=⟨_,rfl⟩;have b0:∀ h:0<S.size,S[0]'h=c:=fun h=>by subst hS;exact hc
   have b1:∀ h:1<S.size,S[1]'h=a:=fun h=>by subst hS;exact ha
   have b2:∀ h:2<S.size,S[2]'h=b:=fun h=>by subst hS;exact hb
   rw [hc,ha,hb] at e;have HR:=hid (show codeI s=if c=37∧0≤hexI_t a∧0≤hexI_t b then hexI_t a*16+hexI_t b else -1 from by
    have hR:=codeI_at (c:=c) (a:=a) (b:=b) (r:=s.drop (0+3));rw [←e] at hR;exact hR)
   have HCN:=hid (show codeN_t s=if codeI s<0 then 0 else (codeI s).toNat from rfl);have HCO:=hid (show codeO s=decide (0≤codeI s) from rfl);rw [hS];rw [hn] at hs;obtain⟨R,hRR⟩:∃ R,codeI s=R:=⟨_,rfl⟩;obtain⟨RN,hRN⟩:∃ RN,codeN_t s=RN:=⟨_,rfl⟩;obtain⟨RO,hRO⟩:∃ RO,codeO s=RO:=⟨_,rfl⟩;rw [hRR] at HR HCN HCO;rw [hRN] at HCN ⊢;rw [hRO] at HCO ⊢;clear hn hS h0 e hc ha hb hRR hRN hRO;by_cases q37:c=37
   · subst q37;obtain⟨za0,za1⟩:=byte_int a;obtain⟨zb0,zb1⟩:=byte_int b;have HA:=hid (digit_any_t (a.toNat:Int) za0 za1);have HB:=hid (digit_any_t (b.toNat:Int) zb0 zb1);rw [dig_int a,dig_int b] at HR;obtain⟨va,hva⟩:∃ va:Nat,digV (a.toNat:Int)=(va:Int):=⟨(digV (a.toNat:Int)).toNat,by have:=digV_bd (a.toNat:Int);omega⟩;obtain⟨vb,hvb⟩:∃ vb:Nat,digV (b.toNat:Int)=(vb:Int):=⟨(digV (b.toNat:Int)).toNat,by have:=digV_bd (b.toNat:Int);omega⟩;have hba:va≤15:=by have:=digV_bd (a.toNat:Int);omega
     have hbb:vb≤15:=by have:=digV_bd (b.toNat:Int);omega
     rw [hva] at HA HR;rw [hvb] at HB HR;clear hva hvb za0 za1 zb0 zb1;cases ha:digO (a.toNat:Int) with
     |true=>
      rw [ha] at HA HR;cases hb:digO (b.toNat:Int) with
      |true=>
       rw [hb] at HB HR;have HV:=hid (show R=(va:Int)*16+(vb:Int) from by rw [HR.out];simp only [if_true];rw [if_pos ⟨trivial,by omega,by omega⟩]);have HV2:=hid (show RN=va*16+vb from by rw [HCN.out,HV.out,if_neg (by omega)];omega);have HV3:=hid (show RO=true from by rw [HCO.out,HV.out];exact decide_eq_true (by omega));have hor:=or_two va vb hba hbb;clear ha hb;go_enter Tryz.func346,Tryz.ntmps346;go_wp2_with (first
        |(go_at_call 377;(with_reducible refine(HA.out _).mono ?_);rintro e w1 ⟨rfl,rfl⟩)
        |(go_at_call 377;(with_reducible refine(HB.out _).mono ?_);rintro e w1 ⟨rfl,rfl⟩))
       go_ret2;rw [HV2.out,HV3.out];exact⟨rfl,rfl⟩
      |false=>
       rw [hb] at HB HR;have HV:=hid (show R= -1 from by rw [HR.out];simp);have HV2:=hid (show RN=0 from by rw [HCN.out,HV.out];rfl);have HV3:=hid (show RO=false from by rw [HCO.out,HV.out];rfl);clear ha hb;go_enter Tryz.func346,Tryz.ntmps346;go_wp2_with (first
        |(go_at_call 377;(with_reducible refine(HA.out _).mono ?_);rintro e w1 ⟨rfl,rfl⟩)
        |(go_at_call 377;(with_reducible refine(HB.out _).mono ?_);rintro e w1 ⟨rfl,rfl⟩))
       go_ret2;rw [HV2.out,HV3.out];exact⟨rfl,rfl⟩
     |false=>
      rw [ha] at HA HR;have HV:=hid (show R= -1 from by rw [HR.out];simp);have HV2:=hid (show RN=0 from by rw [HCN.out,HV.out];rfl);have HV3:=hid (show RO=false from by rw [HCO.out,HV.out];rfl);clear ha;go_enter Tryz.func346,Tryz.ntmps346;go_wp2_with (go_at_call 377;(with_reducible refine(HA.out _).mono ?_);rintro e w1 ⟨rfl,rfl⟩);go_ret2;rw [HV2.out,HV3.out];exact⟨rfl,rfl⟩
   · have HV:=hid (show R= -1 from by rw [HR.out,if_neg (fun q=>q37 q.1)]);have HV2:=hid (show RN=0 from by rw [HCN.out,HV.out];rfl);have HV3:=hid (show RO=false from by rw [HCO.out,HV.out];rfl);have z1:¬(c.toNat:Int)=37:=fun e=>q37 (UInt8.toNat_inj.1 (by show c.toNat=37;omega))
     have z2:((c.toNat:Int)== 37)=false:=by simpa using z1
     have z3:((c.toNat:Int) != 37)=true:=by simpa using z1
     clear q37;go_enter Tryz.func346,Tryz.ntmps346;go_wp2;go_ret2;rw [HV2.out,HV3.out];exact⟨rfl,rfl⟩
 · have HV:=hid (show codeI s= -1 from codeI_short (by rw [hn];omega));have HV2:=hid (show codeN_t s=0 from by unfold codeN_t;rw [HV.out];rfl);have HV3:=hid (show codeO s=false from by unfold codeO;rw [HV.out];rfl);rw [hS,HV2.out,HV3.out];rw [hn] at hs;clear hn hS;have z1:(n:Int)<3:=by omega
   go_enter Tryz.func346,Tryz.ntmps346;go_wp2;go_ret2;exact⟨rfl,rfl⟩
theorem mk_row (w:World) (n:Nat) (hn:n≤140737488355328):∃ w',(Instr.makeSlice 106 (.int .i64 0) (.int .i64 (n:Int))).run Tryz.prog w= .ok (.slice (some ⟨w.heap.size,0,none⟩) 0 n) w'∧Own w' w.heap.size (.slice (some ⟨w.heap.size,0,none⟩) 0 n) []∧Below w.heap.size w w':=by
 obtain⟨i0,hi0,hz0,hz1,hz2⟩:=info_parts infoB;obtain⟨w',h1,h2,h3⟩:=run_make_own (P:=Tryz.prog) w w.heap.size 106 5 i0 _ 1 Tryz.underlying106 hi0 hz0 hz1 .i64 .i64 n (by rw [hz2];omega) (by unfold maxLen;omega) (Nat.le_refl _);exact⟨w',h1,h2,below_grown h3⟩
theorem codeO_long {l:B} (h:codeO l=true):3≤l.length:=by
 rcases Nat.lt_or_ge l.length 3 with q|q
 · unfold codeO at h;rw [codeI_short q] at h;simp at h
 · exact q
theorem madeP_code {p q:UInt8→Bool}:∀ (l:B),madeP p q (37::l)=(codeO (37::l) && q (UInt8.ofNat (codeN_t (37::l))) && madeP p q (l.drop 2))
 | []=>by simp [madeP,codeO,codeI]
 | [d]=>by simp [madeP,codeO,codeI]
 |a::b::r=>by
  rw [madeP,if_pos rfl];unfold codeO codeN_t;cases hv:codeOf 37 a b with
  |none=>rw [codeI_none hv];simp
  |some v=>
   rw [codeI_some hv,if_neg (by omega)];simp
theorem madeP_plain {p q:UInt8→Bool}{c:UInt8} (h:c≠37):∀ (l:B),madeP p q (c::l)=(p c && madeP p q l)
 | []=>by simp [madeP,h]
 | [d]=>by simp [madeP,h]
 |a::b::r=>by rw [madeP,if_neg h]
theorem made_path (s:B) (hs:s.length≤35184372088832) (w:World):Calls Tryz.prog 342 #[.string (str s),.func (.func 343) #[] #[],.func (.func 344) #[] #[]] w fun e w'=>e= .returned (.bool (madeP inPathC softC s))∧w'=w:=by
 obtain⟨n,hn⟩:∃ n,s.length=n:=⟨_,rfl⟩;have HN:=hid hn;obtain⟨S,hS⟩:∃ S,str s=S:=⟨_,rfl⟩;have hSn:S.size=n:=by rw [←hS,str_size,hn]
 have HByte:=hid (show ∀ (k:Nat) (h:k<s.length) (h2:k<S.size),S[k]'h2=s[k]'h from fun k h h2=>by subst hS;rfl);have HCo:=hid (show ∀ i,i≤n→∀ w,_ from fun i hi=>pcode_any (s.drop i) (by rw [List.length_drop];omega));have HEx:=hid (show ∀ i,S.extract i n=str (s.drop i) from fun i=>by rw [←hS];exact ext_drop s i n hn);have HF0:=hid (show ∀ (c:UInt8) (w:World),_ from pinpath_any);have HG0:=hid (show ∀ (c:UInt8) (w:World),_ from psoft_any);obtain⟨R,hR0⟩:∃ R,madeP inPathC softC s=R:=⟨_,rfl⟩;have HR0:=hid hR0;rw [hn] at hs;rw [hS,hR0];clear hn hS hR0;go_enter Tryz.func342,Tryz.ntmps342;go_wp2;go_loopg [7] (n+1) (fun gk s7 wr=>∃ i:Nat,i≤n∧gk=n-i+1∧s7= .int .i64 (i:Int)∧R=madeP inPathC softC (s.drop i)∧wr=w)
 case atStart=>exact⟨0,by omega,rfl,rfl,HR0.out.symm,rfl⟩
 case round=>
  obtain⟨i,hi,rfl,rfl,hR,rfl⟩:=hrel;have HR:=hid hR;clear hR;by_cases hin:i<n
  · have hi1:i<s.length:=by rw [HN.out];exact hin
    obtain⟨y,hy⟩:∃ y,s[i]=y:=⟨_,rfl⟩;obtain⟨Y,hY⟩:∃ Y:Nat,y.toNat=Y:=⟨_,rfl⟩;have hY256:Y<256:=by rw [←hY];exact y.toNat_lt
    have hbyte:∀ h:i<S.size,(S[i]'h).toNat=Y:=fun h=>by rw [HByte.out i hi1 h,hy,hY]
    have HD:=hid (show s.drop i=y::s.drop (i+1) from by rw [List.drop_eq_getElem_cons hi1,hy]);rw [HD.out] at HR;clear hy hi1;by_cases hc:y=37
    · obtain rfl:Y=37:=by rw [←hY,hc];rfl
      subst hc;have hext:S.extract i n=str (s.drop i):=HEx.out i;have HCi:=hid (HCo.out i (by omega));have hZ:=codeN_lt (s.drop i);have HSt:=hid (show R=(codeO (s.drop i) && softC (UInt8.ofNat (codeN_t (s.drop i))) && madeP inPathC softC (s.drop (i+3))) from by rw [HR.out,madeP_code,HD.out,List.drop_drop]);have HLg:=hid (show codeO (s.drop i)=true→i+3≤n from fun h=>by have:=codeO_long h;rw [List.length_drop,HN.out] at this;omega);have HG:=hid (show ∀ (u:Unit) (w:World),_ from fun _=>HG0.out (UInt8.ofNat (codeN_t (s.drop i))));rw [show (byteV (UInt8.ofNat (codeN_t (s.drop i))))= .int .u8 ((codeN_t (s.drop i)):Int) from by unfold byteV;congr 2;simp;omega] at HG;obtain⟨Z,hZe⟩:∃ Z,codeN_t (s.drop i)=Z:=⟨_,rfl⟩;rw [hZe] at HCi hZ HSt HG;obtain⟨T,hT⟩:∃ T,str (s.drop i)=T:=⟨_,rfl⟩;rw [hT] at hext HCi;clear hZe hT hY;cases hO:codeO (s.drop i) with
      |true=>
       have hi3:i+3≤n:=HLg.out hO;rw [hO] at HCi HSt;cases hQ:softC (UInt8.ofNat Z) with
       |true=>
        have HNx:=hid (show R=madeP inPathC softC (s.drop (i+3)) from by rw [HSt.out,hQ];rfl);rw [hQ] at HG;clear hO hQ;go_wp2_with (first|(go_at_call 346;(with_reducible refine(HCi.out _).mono ?_);rintro e w1 ⟨rfl,rfl⟩)|(go_at_call 344;(with_reducible refine(HG.out () _).mono ?_);rintro e w1 ⟨rfl,rfl⟩));go_roundg (n-(i+3)+1)
        case measure=>omega
        case rel=>exact⟨i+3,by omega,rfl,by push_cast;go_num,HNx.out,rfl⟩
       |false=>
        have HV:=hid (show R=false from by rw [HSt.out,hQ];rfl);rw [hQ] at HG;clear hO hQ;go_wp2_with (first|(go_at_call 346;(with_reducible refine(HCi.out _).mono ?_);rintro e w1 ⟨rfl,rfl⟩)|(go_at_call 344;(with_reducible refine(HG.out () _).mono ?_);rintro e w1 ⟨rfl,rfl⟩));go_ret;rw [HV.out];exact⟨rfl,rfl⟩
      |false=>
       have HV:=hid (show R=false from by rw [HSt.out,hO];rfl);rw [hO] at HCi;clear hO;go_wp2_with ((go_at_call 346;(with_reducible refine(HCi.out _).mono ?_);rintro e w1 ⟨rfl,rfl⟩));go_ret;rw [HV.out];exact⟨rfl,rfl⟩
    · have z1:¬(Y:Int)=37:=fun e=>hc (UInt8.toNat_inj.1 (by rw [hY];show Y=37;omega))
      have z2:((Y:Int) != 37)=true:=by simpa using z1
      have HSt:=hid (show R=(inPathC y && madeP inPathC softC (s.drop (i+1))) from by rw [HR.out,madeP_plain hc]);have HF:=hid (show ∀ (u:Unit) (w:World),_ from fun _=>HF0.out y);rw [show byteV y= .int .u8 (Y:Int) from by unfold byteV;rw [hY]] at HF;clear hY hc;cases hQ:inPathC y with
      |true=>
       have HNx:=hid (show R=madeP inPathC softC (s.drop (i+1)) from by rw [HSt.out,hQ];rfl);rw [hQ] at HF;clear hQ;go_wp2_with ((go_at_call 343;(with_reducible refine(HF.out () _).mono ?_);rintro e w1 ⟨rfl,rfl⟩));go_roundg (n-(i+1)+1)
       case measure=>omega
       case rel=>exact⟨i+1,by omega,rfl,by push_cast;go_num,HNx.out,rfl⟩
      |false=>
       have HV:=hid (show R=false from by rw [HSt.out,hQ];rfl);rw [hQ] at HF;clear hQ;go_wp2_with ((go_at_call 343;(with_reducible refine(HF.out () _).mono ?_);rintro e w1 ⟨rfl,rfl⟩));go_ret;rw [HV.out];exact⟨rfl,rfl⟩
  · obtain rfl:n=i:=by omega
    have HV:=hid (show R=true from by rw [HR.out,List.drop_of_length_le (by rw [HN.out];exact Nat.le_refl _)];simp [madeP]);go_wp2;go_ret;rw [HV.out];exact⟨rfl,rfl⟩
inductive Res (α:Type) where
 |ok (a:α) (l:B)
 |err (k:Nat) (l:B)
def nx (l:B):UInt8:=l.headD 0
def skip (some:B):B→Option B
 | []=>none
 |c::l=>if some.contains c then .some l else none
def skips (some:B):B→B
 | []=>[]
 |c::l=>if some.contains c then skips some l else c::l
def blanksL:B:=[32,9,10,13]
def digitsL:B:=[48,49,50,51,52,53,54,55,56,57]
abbrev blanks (l:B):B:=skips blanksL l
def word:B→B→Res Unit
 | [],l=>.ok () l
 |c::ws,l=>match l with
  | []=>.err 3 []
  |x::t=>if x=c then word ws t else .err 3 (x::t)
def digits (l:B):Res Unit:=match skip digitsL l with
 |none=>.err 3 l
 |some t=>.ok () (skips digitsL t)
def skipD (some:B) (l:B):B:=(skip some l).getD l
def numExp (l:B):Res Unit:=match skip [101,69] l with
 |none=>.ok () l
 |some t=>digits (skipD [43,45] t)
def numFrac (l:B):Res Unit:=match skip [46] l with
 |none=>numExp l
 |some t=>match digits t with
  | .ok _ u=>numExp u
  | .err k u=>.err k u
def numHead (l:B):Res Unit:=match skip [48] l with
 |none=>match digits l with
  | .ok _ u=>numFrac u
  | .err k u=>.err k u
 |some t=>numFrac t
def numParts (l:B):Res Unit:=numHead (skipD [45] l)
def Res.left {α:Type}:Res α→B
 | .ok _ l=>l
 | .err _ l=>l
def number (l:B):Res Unit:=if 64<l.length-(numParts l).left.length then .err 3 (l.drop 64) else numParts l
def lead (c:Nat):Nat×Nat×Nat:=
 if 194≤c∧c≤223 then (128,191,1) else if c=224 then (160,191,2) else if c=237 then (128,159,2) else if 225≤c∧c≤239 then (128,191,2)
 else if c=240 then (144,191,3) else if 241≤c∧c≤243 then (128,191,3) else if c=244 then (128,143,3) else (0,0,0)
def tailBad:Nat→Nat→Nat→B→Nat→Option Nat
 |0,_,_,_,_=>none
 |_+1,_,_,[],i=>some i
 |n+1,lo,hi,x::t,i=>if x.toNat<lo∨hi<x.toNat then some i else tailBad n 128 191 t (i+1)
def uni:B→Nat×Nat
 | []=>(0,0)
 |c::t=>if c.toNat<128 then (1,0) else if (lead c.toNat).2.2=0 then (0,0) else
  match tailBad (lead c.toNat).2.2 (lead c.toNat).1 (lead c.toNat).2.1 t 1 with
  |none=>((lead c.toNat).2.2+1,0)
  |some i=>(0,i)
def hexL:B:=[48,49,50,51,52,53,54,55,56,57,97,98,99,100,101,102,65,66,67,68,69,70]
def hexv (c:UInt8):Option Nat:=
 if 48≤c.toNat∧c.toNat≤57 then some (c.toNat-48) else if 97≤c.toNat∧c.toNat≤102 then some (c.toNat-87) else if 65≤c.toNat∧c.toNat≤70 then some (c.toNat-55) else none
def four:Nat→Nat→B→Res Nat
 |0,a,l=>.ok a l
 |_+1,_,[]=>.err 3 []
 |k+1,a,c::t=>match hexv c with
  |none=>.err 3 (c::t)
  |some v=>four k (a*16+v) t
def seqSkip:List B→B→Res Unit
 | [],l=>.ok () l
 |S::T,l=>match skip S l with
  |none=>.err 3 l
  |some t=>seqSkip T t
def lowL_j:List B:=[[92],[117],[100,68],[99,100,101,102,67,68,69,70]]
def lowHalf (l:B):Res Nat:=match seqSkip lowL_j l with
 | .err k u=>.err k u
 | .ok _ _=>four 4 0 (l.drop 2)
def code (l:B):Res Nat:=match four 4 0 l with
 | .err k u=>.err k u
 | .ok c u=>if 56320≤c∧c<57344 then .err 3 (l.drop 3) else if 55296≤c∧c<56320 then
  match lowHalf u with
  | .err k v=>.err k v
  | .ok m v=>.ok (65536+(c-55296)*1024+(m-56320)) v
  else .ok c u
def escape:B→Res Nat
 | []=>.err 3 []
 |c::t=>if c=34∨c=92∨c=47 then .ok c.toNat t else if c=98 then .ok 8 t else if c=102 then .ok 12 t else if c=110 then .ok 10 t
  else if c=114 then .ok 13 t else if c=116 then .ok 9 t else if c=117 then code t else .err 3 (c::t)
def char:B→Res B
 | []=>.err 3 []
 |c::t=>if c.toNat<32 then .err 3 (c::t) else if c=92 then
  match escape t with
  | .err k u=>.err k u
  | .ok r u=>.ok (Lib.encodeRune r) u
  else if (uni (c::t)).1=0 then .err 3 ((c::t).drop (uni (c::t)).2) else .ok ((c::t).take (uni (c::t)).1) ((c::t).drop (uni (c::t)).1)
def chars:Nat→B→Res B
 |0,l=>.err 0 l
 |f+1,l=>if nx l=34 then .ok [] (l.drop 1) else match char l with
  | .err k u=>.err k u
  | .ok bs u=>match chars f u with
   | .err k v=>.err k v
   | .ok cs v=>.ok (bs++cs) v
def text (l:B):Res B:=chars l.length (l.drop 1)
inductive JV where
 |mk (kind:Int) (bool:Bool) (text:B) (int:Int) (whole:Bool) (list:List JV) (names:List B)
def JV.zero:JV:=.mk 0 false [] 0 false [] []
def numV (t:B):JV:=match Lib.atoiAll t with
 | .ok v=>.mk 3 false t v true [] []
 |_=>.mk 3 false t 0 false [] []
abbrev St:=List B×List JV
section
variable {σ : Type}
def partsF (step:σ→B→Res σ) (ends:B):Nat→σ→B→Res σ
 |0,_,l=>.err 0 l
 |f+1,x,l=>match step x l with
  | .err k u=>.err k u
  | .ok y u=>match skip ends (blanks u) with
   |some t=>.ok y t
   |none=>match skip [44] (blanks u) with
    |none=>.err 3 (blanks u)
    |some t=>partsF step ends f y (blanks t)
def nestedS (step:σ→B→Res σ) (ends:B) (x:σ) (l:B):Res σ:=match skip ends (blanks l) with
 |some t=>.ok x t
 |none=>partsF step ends ((blanks l).length+1) x (blanks l)
end
def nameS (names:List B) (l:B):Res B:=if nx l≠34 then .err 3 l else match text l with
 | .err k u=>.err k u
 | .ok nm u=>if names.contains nm then .err 6 l else match skip [58] (blanks u) with
  |none=>.err 3 (blanks u)
  |some t=>.ok nm (blanks t)
def listStep (inner:B→Res JV) (x:List B×List JV) (l:B):Res (List B×List JV):=match inner l with
 | .err k u=>.err k u
 | .ok v u=>.ok (x.1,x.2++ [v]) u
def objStep (inner:B→Res JV) (x:List B×List JV) (l:B):Res (List B×List JV):=match nameS x.1 l with
 | .err k u=>.err k u
 | .ok nm u=>match inner u with
  | .err k t=>.err k t
  | .ok v t=>.ok (x.1++ [nm],x.2++ [v]) t
def wordS (w:B) (v:JV) (l:B):Res JV:=match word w l with
 | .err k u=>.err k u
 | .ok _ u=>.ok v u
def valWith (inner:Option (B→Res JV)) (l:B):Res JV:=
 if nx l=110 then wordS [110,117,108,108] (.mk 1 false [] 0 false [] []) l
 else if nx l=116 then wordS [116,114,117,101] (.mk 2 true [] 0 false [] []) l
 else if nx l=102 then wordS [102,97,108,115,101] (.mk 2 false [] 0 false [] []) l
 else if nx l=34 then match text l with
  | .err k u=>.err k u
  | .ok bs u=>.ok (.mk 4 false bs 0 false [] []) u
 else if nx l=91 then match inner with
  |none=>.err 5 l
  |some f=>match nestedS (listStep f) [93] ([],[]) (l.drop 1) with
   | .err k u=>.err k u
   | .ok x u=>.ok (.mk 5 false [] 0 false x.2 x.1) u
 else if nx l=123 then match inner with
  |none=>.err 5 l
  |some f=>match nestedS (objStep f) [125] ([],[]) (l.drop 1) with
   | .err k u=>.err k u
   | .ok x u=>.ok (.mk 6 false [] 0 false x.2 x.1) u
 else match number l with
  | .err k u=>.err k u
  | .ok _ u=>.ok (numV (l.take (l.length-u.length))) u
def val:Nat→B→Res JV
 |0=>valWith none
 |n+1=>valWith (some (val n))
def whole (l:B):Res JV:=match val 32 (blanks l) with
 | .err k u=>.err k u
 | .ok v u=>if blanks u= [] then .ok v [] else .err 3 (blanks u)
def parse (l:B):JV×Nat×Nat:=if 1048576<l.length then (.zero,0,2) else match whole l with
 | .ok v _=>(v,l.length,0)
 | .err k u=>(.zero,l.length-u.length,k)
def hexD (n:Nat):UInt8:=UInt8.ofNat (if n<10 then 48+n else 87+n)
def esc (c:UInt8):B:=
 if c=34∨c=92 then [92,c] else if c=10 then [92,110] else if c=13 then [92,114] else if c=9 then [92,116]
 else if c.toNat<32 then [92,117,48,48,hexD (c.toNat / 16),hexD (c.toNat % 16)] else [c]
def escs:B→B
 | []=>[]
 |c::l=>esc c++escs l
def quoteB (s:B):B:=34::(escs s++ [34])
mutual
def sameV:JV→JV→Bool
 | .mk k b t n h ls ns,.mk k' b' t' n' h' ls' ns'=>k== k' && (b== b' && (t== t' && (n== n' && (h== h' && (ns== ns' && sameL ls ls')))))
def sameL:List JV→List JV→Bool
 | [],[]=>true
 |x::xs,y::ys=>sameV x y && sameL xs ys
 | [],_::_=>false
 |_::_,[]=>false
end
mutual
theorem sameV_iff:∀ a b:JV,sameV a b=true↔a=b
 | .mk k b t n h ls ns,.mk k' b' t' n' h' ls' ns'=>by
  simp only [sameV,Bool.and_eq_true,beq_iff_eq,JV.mk.injEq,sameL_iff ls ls'];constructor
  · rintro ⟨h1,h2,h3,h4,h5,h6,h7⟩;exact⟨h1,h2,h3,h4,h5,h7,h6⟩
  · rintro ⟨h1,h2,h3,h4,h5,h7,h6⟩;exact⟨h1,h2,h3,h4,h5,h6,h7⟩
theorem sameL_iff:∀ a b:List JV,sameL a b=true↔a=b
 | [],[]=>by simp [sameL]
 |x::xs,y::ys=>by simp only [sameL,Bool.and_eq_true,sameV_iff x y,sameL_iff xs ys,List.cons.injEq]
 | [],y::ys=>by simp [sameL]
 |x::xs,[]=>by simp [sameL]
end
def depthN:Nat→JV→Nat
 |0,_=>0
 |m+1,.mk k _ _ _ _ ls _=>if k=5∨k=6 then (ls.map (depthN m)).foldl max 0+1 else 0
def isNum (t:B):Bool:=match number t with
 | .ok _ []=>true
 |_=>false
def formed:JV→Bool
 | .mk k b t n h ls ns=>
  if k=1 then sameV (.mk k b t n h ls ns) (.mk k false [] 0 false [] [])
  else if k=2 then sameV (.mk k b t n h ls ns) (.mk k b [] 0 false [] [])
  else if k=3 then isNum t && sameV (.mk k b t n h ls ns) (numV t)
  else if k=4 then Lib.validD t && sameV (.mk k b t n h ls ns) (.mk k false t 0 false [] [])
  else if k=5 then sameV (.mk k b t n h [] ns) (.mk k false [] 0 false [] [])
  else if k=6 then decide (ns.length=ls.length) && (ns.all Lib.validD && sameV (.mk k b t n h [] []) (.mk k false [] 0 false [] []))
  else false
def once:List B→List B→List B
 |seen,[]=>seen
 |seen,x::l=>once (if seen.contains x then seen else seen++ [x]) l
def twice (ns:List B):Bool:=decide ((once [] ns).length<ns.length)
mutual
def fault:JV→Nat
 | .mk k b t n h ls ns=>if formed (.mk k b t n h ls ns)=false then 3 else faults (if twice ns then 6 else 0) ls
def faults:Nat→List JV→Nat
 |found,[]=>found
 |found,x::xs=>if fault x=3 then 3 else faults (if fault x=0 then found else fault x) xs
end
def validN (v:JV):Nat:=if 32<depthN 33 v then 5 else fault v
mutual
def printV:JV→B
 | .mk k b t _ _ ls ns=>
  if k=1 then [110,117,108,108]
  else if k=2 then (if b then [116,114,117,101] else [102,97,108,115,101])
  else if k=3 then t
  else if k=4 then quoteB t
  else if k=5 then 91::(printL false true ls ns++ [93])
  else if k=6 then 123::(printL true true ls ns++ [125])
  else []
def printL (o first:Bool):List JV→List B→B
 | [],_=>[]
 |x::xs,ns=>(if first then [] else [44])++((if o then quoteB (ns.headD [])++ [58] else [])++(printV x++printL o false xs ns.tail))
end
structure Turn (h:Nat) (w w':World):Prop where
 os:w'.os=w.os
 tape:w'.tape=w.tape
 output:w'.output=w.output
 size:w.heap.size≤w'.heap.size
 block:∀ k,k<w.heap.size→k≠h→w'.heap[k]?=w.heap[k]?
theorem Turn.refl (h:Nat) (w:World):Turn h w w:=⟨rfl,rfl,rfl,Nat.le_refl _,fun _ _ _=>rfl⟩
theorem Turn.trans {h:Nat}{a b c:World} (x:Turn h a b) (y:Turn h b c):Turn h a c:=
 ⟨y.os.trans x.os,y.tape.trans x.tape,y.output.trans x.output,Nat.le_trans x.size y.size,fun k hk hh=>(y.block k (Nat.lt_of_lt_of_le hk x.size) hh).trans (x.block k hk hh)⟩
theorem Turn.of_below {h:Nat}{w w':World} (b:Below w.heap.size w w'):Turn h w w':=⟨b.os,b.tape,b.output,b.size,fun k hk _=>b.block k hk⟩
theorem Turn.setCell {h:Nat}{w w':World} (x:Turn h w w') (j:Nat) (v:Value):Turn h w (w'.setCell ⟨h,j,none⟩ v):=
 x.trans ⟨rfl,rfl,rfl,by simp [World.setCell],fun k _ hh=>Below.heap_setCell _ _ _ _ hh⟩
theorem Turn.below {h B:Nat}{w w':World} (x:Turn h w w') (hB:B≤w.heap.size) (hh:B≤h):Below B w w':=
 ⟨x.os,x.tape,x.output,x.size,fun k hk=>x.block k (by omega) (by omega)⟩
theorem Turn.drew {h:Nat}{w w':World} (x:Turn h w w'):Turn h w w'.drew:=⟨x.os,x.tape,x.output,x.size,x.block⟩
theorem Turn.drewN {h:Nat}{w w':World} (x:Turn h w w'):∀ n,Turn h w (w'.drewN n)
 |0=>x
 |n+1=>(Turn.drewN x n).drew
theorem Turn.alloc {h:Nat}{w w':World} (x:Turn h w w') (o:Obj):Turn h w (w'.alloc o):=x.trans (Turn.of_below (below_new _ _))
structure Rd (w:World) (b:Nat) (s:ByteArray) (l:B) (d:Nat):Prop where
 row:∃ p:Nat,p≤s.size∧s.data.toList.drop p=l∧w.heap[b]?=some (.cells #[.string s,.int .i64 p,.int .i64 d] 117 (0,0))
 size:s.size≤140737488355328
theorem Rd.of_heap {w w':World}{b:Nat}{s:ByteArray}{l:B}{d:Nat} (h:Rd w b s l d) (e:w'.heap[b]?=w.heap[b]?):Rd w' b s l d:=by
 obtain⟨⟨p,h1,h2,h3⟩,h4⟩:=h;exact⟨⟨p,h1,h2,e.trans h3⟩,h4⟩
theorem Rd.lt {w:World}{b:Nat}{s:ByteArray}{l:B}{d:Nat} (h:Rd w b s l d):b<w.heap.size:=by
 obtain⟨⟨p,h1,h2,h3⟩,h4⟩:=h;exact lt_of_heap h3
theorem Rd.below {w w':World}{b:Nat}{s:ByteArray}{l:B}{d:Nat} (h:Rd w b s l d) (hb:Below w.heap.size w w'):Rd w' b s l d:=h.of_heap (hb.block b h.lt)
theorem Rd.drewN {w:World}{b:Nat}{s:ByteArray}{l:B}{d:Nat} (h:Rd w b s l d) (n:Nat):Rd (w.drewN n) b s l d:=h.below (by
 have:=(Turn.refl (w.heap.size) w).drewN n;exact this.below (Nat.le_refl _) (Nat.le_refl _))
structure At (w:World) (b:Nat) (s:ByteArray) (l:B) (d p:Nat):Prop where
 c0:w.cell? ⟨b,0,none⟩=some (.string s)
 c1:w.cell? ⟨b,1,none⟩=some (.int .i64 p)
 c2:w.cell? ⟨b,2,none⟩=some (.int .i64 d)
 fz:∀ j,w.frozen? ⟨b,j,none⟩=false
 len:l.length=s.size-p
 drop:s.data.toList.drop p=l
 le:p≤s.size
 most:s.size≤140737488355328
theorem Rd.at {w:World}{b:Nat}{s:ByteArray}{l:B}{d:Nat} (h:Rd w b s l d):∃ p,At w b s l d p:=by
 obtain⟨⟨p,h1,h2,h3⟩,h4⟩:=h;refine⟨p,by simp [World.cell?,h3],by simp [World.cell?,h3],by simp [World.cell?,h3],fun j=>by simp [World.frozen?,h3],?_,h2,h1,h4⟩;rw [←h2,List.length_drop];rfl
theorem At.byte {w:World}{b:Nat}{s:ByteArray}{c:UInt8}{l:B}{d p:Nat} (h:At w b s (c::l) d p):s.data.toList[p]?=some c:=by
 have:=h.drop;have h2:(s.data.toList.drop p)[0]?=some c:=by rw [this];rfl
 simpa using h2
theorem Rd.move {w:World}{b:Nat}{s:ByteArray}{l:B}{d:Nat} (h:Rd w b s l d) (p:Nat) (hp:p≤s.size):Rd (w.setCell ⟨b,1,none⟩ (.int .i64 p)) b s (s.data.toList.drop p) d:=by
 obtain⟨⟨q,h1,h2,h3⟩,h4⟩:=h;refine⟨⟨p,hp,rfl,?_⟩,h4⟩;simp [World.setCell,Array.getElem?_modify,h3]
theorem Rd.deep {w:World}{b:Nat}{s:ByteArray}{l:B}{d:Nat} (h:Rd w b s l d) (d':Nat):Rd (w.setCell ⟨b,2,none⟩ (.int .i64 d')) b s l d':=by
 obtain⟨⟨q,h1,h2,h3⟩,h4⟩:=h;refine⟨⟨q,h1,h2,?_⟩,h4⟩;simp [World.setCell,Array.getElem?_modify,h3]
theorem Rd.moved {w:World}{b:Nat}{s:ByteArray}{l l':B}{d p:Nat} (h:Rd w b s l d) (z:Int) (hz:z=p) (hp:p≤s.size) (hl:s.data.toList.drop p=l'):Rd (w.setCell ⟨b,1,none⟩ (.int .i64 z)) b s l' d:=by
 subst hz hl;exact h.move p hp
theorem At.step {w:World}{b:Nat}{s:ByteArray}{c:UInt8}{l:B}{d p:Nat} (h:At w b s (c::l) d p):s.data.toList.drop (p+1)=l∧p+1≤s.size:=by
 have h1:=h.drop;have h2:=h.len;have h3:=h.le;simp at h2;refine⟨?_,by omega⟩;rw [←List.drop_drop,h1];rfl
end Go.Proofs.YtlmefgjhbohjlaaGreatDoor
