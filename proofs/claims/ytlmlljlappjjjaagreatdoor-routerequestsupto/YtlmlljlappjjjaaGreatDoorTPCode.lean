/- The document's digits and codes; texts of path bytes and codes. -/
import Derived.Test.YtlmlljlappjjjaaGreatDoorTRByte
import Derived.Test.YtlmlljlappjjjaaGreatDoorCLow
namespace Go.Proofs.YtlmlljlappjjjaaGreatDoor
set_option maxRecDepth 100000
set_option maxHeartbeats 8000000
open Go.RowKit
def hexI (c:UInt8):Int:=match hexN c with
 |some x=>(x:Int)
 |none=> -1
def digN (i:Nat):Nat:=if i<10 then 48+i else 87+i
theorem hex_match (c:UInt8) (i:Nat) (h:i<16):hexN c=some i↔(c.toNat=digN i∨(65≤c.toNat∧c.toNat≤70∧c.toNat+32=digN i)):=by
 unfold hexN digN;simp only [UInt8.le_iff_toNat_le];have e1:(48:UInt8).toNat=48:=rfl;have e2:(57:UInt8).toNat=57:=rfl;have e3:(97:UInt8).toNat=97:=rfl;have e4:(102:UInt8).toNat=102:=rfl;have e5:(65:UInt8).toNat=65:=rfl;have e6:(70:UInt8).toNat=70:=rfl;rw [e1,e2,e3,e4,e5,e6];split
 · rw [Option.some.injEq];split <;> omega
 · split
   · rw [Option.some.injEq];split <;> omega
   · split
     · rw [Option.some.injEq];split <;> omega
     · simp only [reduceCtorEq,false_iff];split <;> omega
theorem hex_yes {c:UInt8}{i:Nat} (h:hexN c=some i):hexI c=(i:Int):=by unfold hexI;rw [h]
theorem hex_no {c:UInt8} (h:∀ j,j<16→hexN c≠some j):hexI c= -1:=by
 unfold hexI;cases e:hexN c with
 |none=>rfl
 |some x=>exact absurd e (h x (hexN_lt e))
theorem dig_at (i:Nat) (hi:i<16):∀ h:i<({data:=#[48,49,50,51,52,53,54,55,56,57,97,98,99,100,101,102]}:ByteArray).size,(({data:=#[48,49,50,51,52,53,54,55,56,57,97,98,99,100,101,102]}:ByteArray)[i]'h).toNat=digN i:=by
 intro h;have key:∀ K:Fin 16,((#[48,49,50,51,52,53,54,55,56,57,97,98,99,100,101,102]:Array UInt8)[K.val]?).map (·.toNat)=some (digN K.val):=by decide
 have h2:=key ⟨i,hi⟩;have h3:(#[48,49,50,51,52,53,54,55,56,57,97,98,99,100,101,102]:Array UInt8)[i]?=some ((#[48,49,50,51,52,53,54,55,56,57,97,98,99,100,101,102]:Array UInt8)[i]'h):=Array.getElem?_eq_getElem h;simp only at h2;rw [h3] at h2;exact Option.some.inj h2
theorem hexI_bd (c:UInt8): -1≤hexI c∧hexI c<16:=by
 unfold hexI;cases e:hexN c with
 |none=>simp
 |some x=>
  have:=hexN_lt e;simp only;omega
theorem hex_any_t (c:UInt8) (w:World):Calls Tryz.prog 145 #[byteV c] w fun e w'=>e= .returned (.int .i64 (hexI c))∧w'=w:=by
 have h1:c.toNat<256:=c.toNat_lt;have HM:=hid (hex_match c);have HY:=hid (fun i=>@hex_yes c i);have HN:=hid (@hex_no c);obtain⟨H,hH⟩:∃ H,hexI c=H:=⟨_,rfl⟩;rw [hH] at HY HN ⊢;obtain⟨X,hX⟩:∃ X,c.toNat=X:=⟨_,rfl⟩;unfold byteV;rw [hX] at h1 HM ⊢;clear hX hH;go_enter Tryz.func145,Tryz.ntmps145;go_wp2;go_loopg [3] 17 (fun gk s3 wr=>∃ i:Nat,i≤16∧gk=16-i+1∧s3= .int .i64 (i:Int)∧(∀ j,j<i→hexN c≠some j)∧wr=w)
 case atStart=>exact⟨0,by omega,rfl,rfl,fun j hj=>absurd hj (Nat.not_lt_zero _),rfl⟩
 case round=>
  obtain⟨i,hi,rfl,rfl,hno,rfl⟩:=hrel;have HNo:=hid hno;clear hno;by_cases hin:i<16
  · have HMi:=hid (HM.out i hin);have HYi:=hid (HY.out i);have hD:digN i<256:=by unfold digN;split <;> omega
    have hd:=dig_at i hin;obtain⟨D,hDD⟩:∃ D,digN i=D:=⟨_,rfl⟩;rw [hDD] at HMi hd hD;clear hDD;by_cases q1:X=D
    · have HV:=hid (HYi.out (HMi.out.2 (.inl q1)));subst q1;go_wp2;go_ret;exact⟨by rw [HV.out];rfl,rfl⟩
    · have q1b:((D:Int)== (X:Int))=false:=by simp only [beq_eq_false_iff_ne,ne_eq];omega
      have q1c:¬(D:Int)=(X:Int):=by omega
      by_cases q2:65≤X∧X≤70
      · have b1:(65:Int)≤(X:Int):=by omega
        have b2:(X:Int)≤70:=by omega
        have hwr:IntKind.u8.wrap ((X:Int)+32)=(X:Int)+32:=by rw [IntKind.wrap_u8];omega
        by_cases q3:X+32=D
        · have HV:=hid (HYi.out (HMi.out.2 (.inr ⟨q2.1,q2.2,q3⟩)));have q4:((D:Int)== (X:Int)+32)=true:=by simp only [beq_iff_eq];omega
          have q5:(D:Int)=(X:Int)+32:=by omega
          clear q3;go_wp2;go_ret;exact⟨by rw [HV.out];rfl,rfl⟩
        · have HNx:=hid (show ∀ j,j<i+1→hexN c≠some j from fun j hj=>by
           by_cases e:j=i
           · rw [e];intro hh;have:=HMi.out.1 hh;omega
           · exact HNo.out j (by omega))
          have q4:((D:Int)== (X:Int)+32)=false:=by simp only [beq_eq_false_iff_ne,ne_eq];omega
          have q5:¬(D:Int)=(X:Int)+32:=by omega
          go_wp2;go_roundg (16-(i+1)+1)
          case measure=>omega
          case rel=>exact⟨i+1,by omega,rfl,by push_cast;rfl,HNx.out,rfl⟩
      · have HNx:=hid (show ∀ j,j<i+1→hexN c≠some j from fun j hj=>by
         by_cases e:j=i
         · rw [e];intro hh;have:=HMi.out.1 hh;omega
         · exact HNo.out j (by omega))
        have q6:¬65≤(X:Int)∨(65≤(X:Int)∧¬(X:Int)≤70):=by omega
        rcases q6 with q6|⟨q6,q7⟩
        · go_wp2;go_roundg (16-(i+1)+1)
          case measure=>omega
          case rel=>exact⟨i+1,by omega,rfl,by push_cast;rfl,HNx.out,rfl⟩
        · go_wp2;go_roundg (16-(i+1)+1)
          case measure=>omega
          case rel=>exact⟨i+1,by omega,rfl,by push_cast;rfl,HNx.out,rfl⟩
  · obtain rfl:16=i:=by omega
    have HV:=hid (HN.out HNo.out);go_wp2;go_ret;rw [HV.out];exact⟨rfl,rfl⟩
def codeI (l:B):Int:=match l with
 |c::a::b::_=>(match codeOf c a b with
  |some v=>(v.toNat:Int)
  |none=> -1)
 |_=> -1
theorem codeI_short {l:B} (h:l.length<3):codeI l= -1:=by
 match l,h with
 | [],_=>rfl
 | [_],_=>rfl
 | [_,_],_=>rfl
 |_::_::_::r,h=>exact absurd h (by simp)
theorem drop3 {s:B}{i:Nat} (h:i+2<s.length):s.drop i=s[i]::s[i+1]::s[i+2]::s.drop (i+3):=by
 rw [List.drop_eq_getElem_cons (by omega),List.drop_eq_getElem_cons (by omega),List.drop_eq_getElem_cons (by omega)]
theorem codeI_at {c a b:UInt8}{r:B}:codeI (c::a::b::r)=if c=37∧0≤hexI a∧0≤hexI b then hexI a*16+hexI b else -1:=by
 unfold codeI codeOf;simp only;by_cases h:c=37
 · rw [if_pos h];unfold hexI;cases ha:hexN a with
   |none=>simp
   |some x=>
    cases hb:hexN b with
    |none=>simp
    |some y=>
     have h1:=hexN_lt ha;have h2:=hexN_lt hb;simp only;rw [if_pos ⟨h,by omega,by omega⟩,UInt8.toNat_ofNat'];omega
 · rw [if_neg h,if_neg (fun q=>h q.1)]
theorem codeI_bd (l:B): -1≤codeI l∧codeI l<256:=by
 unfold codeI;split
 · split
   · rename_i v _
     have:=v.toNat_lt;omega
   · omega
 · omega
theorem code_any (s:B) (i:Nat) (hs:s.length≤70368744177664) (hi:i≤70368744177664) (w:World):Calls Tryz.prog 113 #[.string (str s),.int .i64 (i:Int)] w fun e w'=>e= .returned (.int .i64 (codeI (s.drop i)))∧∃ q,w'=w.drewN q:=by
 obtain⟨n,hn⟩:∃ n,s.length=n:=⟨_,rfl⟩;obtain⟨S,hS⟩:∃ S,str s=S:=⟨_,rfl⟩;have hSn:S.size=n:=by rw [←hS,str_size,hn]
 by_cases hlt:i+2<n
 · have h0:i+2<s.length:=by rw [hn];exact hlt
   have e:=drop3 h0;obtain⟨c,hc⟩:∃ c,s[i]=c:=⟨_,rfl⟩;obtain⟨a,ha⟩:∃ a,s[i+1]=a:=⟨_,rfl⟩;obtain⟨b,hb⟩:∃ b,s[i+2]=b:=⟨_,rfl⟩;have b0:∀ h:i<S.size,S[i]'h=c:=fun h=>by subst hS;exact hc
   have b1:∀ h:i+1<S.size,S[i+1]'h=a:=fun h=>by subst hS;exact ha
   have b2:∀ h:i+2<S.size,S[i+2]'h=b:=fun h=>by subst hS;exact hb
   have HA:=hid (hex_any_t a);have HB:=hid (hex_any_t b);have hba:=hexI_bd a;have hbb:=hexI_bd b;rw [hc,ha,hb] at e;have hR:=codeI_at (c:=c) (a:=a) (b:=b) (r:=s.drop (i+3));rw [←e] at hR;have HR:=hid hR;rw [hS];rw [hn] at hs;obtain⟨R,hRR⟩:∃ R,codeI (s.drop i)=R:=⟨_,rfl⟩;rw [hRR] at HR ⊢;obtain⟨VA,hVA⟩:∃ VA,hexI a=VA:=⟨_,rfl⟩;obtain⟨VB,hVB⟩:∃ VB,hexI b=VB:=⟨_,rfl⟩;rw [hVA] at HA hba HR;rw [hVB] at HB hbb HR;clear hn hS h0 e hc ha hb hR hRR hVA hVB;by_cases q37:c=37
   · subst q37;by_cases qa:0≤VA
     · by_cases qb:0≤VB
       · have HV:=hid (show R=VA*16+VB from by rw [HR.out,if_pos ⟨rfl,qa,qb⟩]);have hw1:IntKind.i64.wrap ((i:Int)+1)=(i:Int)+1:=by rw [IntKind.wrap_i64];omega
         have hw2:IntKind.i64.wrap ((i:Int)+2)=(i:Int)+2:=by rw [IntKind.wrap_i64];omega
         have hw3:IntKind.i64.wrap (VA*16)=VA*16:=by rw [IntKind.wrap_i64];omega
         have hw4:IntKind.i64.wrap (VA*16+VB)=VA*16+VB:=by rw [IntKind.wrap_i64];omega
         have ht1:((i:Int)+1).toNat=i+1:=by omega
         have ht2:((i:Int)+2).toNat=i+2:=by omega
         have hl1:0≤(i:Int)+1∧(i:Int)+1<(n:Int):=by omega
         have hl2:0≤(i:Int)+2∧(i:Int)+2<(n:Int):=by omega
         go_enter Tryz.func113,Tryz.ntmps113;go_wp2_with (first
          |(go_at_call 145;(with_reducible refine(HA.out _).mono ?_);rintro e w1 ⟨rfl,rfl⟩)
          |(go_at_call 145;(with_reducible refine(HB.out _).mono ?_);rintro e w1 ⟨rfl,rfl⟩))
         refine wp_region_noPanic ?_;refine any_begin 13 (by kernel_rfl) (by kernel_rfl) ?_;refine atk (i:=0) (some 32) rfl rfl (v:= ?v0q) ?hy0q ?rest0q
         case hy0q=>intro w0;go_simp;try with_reducible rfl
         simp only [Act.put,sA,sB,sC];refine atk (i:=1) (some 33) rfl rfl (v:= ?v1q) ?hy1q ?rest1q
         case hy1q=>intro w0;go_simp;try with_reducible rfl
         simp only [Act.put,sA,sB,sC];refine atk (i:=2) (some 34) rfl rfl (v:= ?v2q) ?hy2q ?rest2q
         case hy2q=>intro w0;go_simp;try with_reducible rfl
         simp only [Act.put,sA,sB,sC];refine atk (i:=3) (some 35) rfl rfl (v:= ?v3q) ?hy3q ?rest3q
         case hy3q=>intro w0;go_simp;try with_reducible rfl
         simp only [Act.put,sA,sB,sC];refine atk (i:=6) (some 38) rfl rfl (v:= ?v6q) ?hy6q ?rest6q
         case hy6q=>intro w0;go_simp;try with_reducible rfl
         simp only [Act.put,sA,sB,sC];refine atk (i:=7) (some 39) rfl rfl (v:= ?v7q) ?hy7q ?rest7q
         case hy7q=>intro w0;go_simp;try with_reducible rfl
         simp only [Act.put,sA,sB,sC];refine atk (i:=8) (some 40) rfl rfl (v:= ?v8q) ?hy8q ?rest8q
         case hy8q=>intro w0;go_simp;try with_reducible rfl
         simp only [Act.put,sA,sB,sC];refine atk (i:=9) (some 41) rfl rfl (v:= ?v9q) ?hy9q ?rest9q
         case hy9q=>intro w0;go_simp;try with_reducible rfl
         simp only [Act.put,sA,sB,sC];refine any_one (i:=4) (by kernel_rfl) rfl (fun K hK=>?_);go_simp;go_at_call 145;refine(HA.out _).mono ?_;rintro e w5 ⟨rfl,rfl⟩;refine hK _ _ ?_;clear hK K;refine atk (i:=5) (some 37) rfl rfl (v:= ?v5q) ?hy5q ?rest5q
         case hy5q=>intro w0;go_simp;try with_reducible rfl
         simp only [Act.put,sA,sB,sC];refine any_one (i:=10) (by kernel_rfl) rfl (fun K hK=>?_);go_simp;go_at_call 145;refine(HB.out _).mono ?_;rintro e w6 ⟨rfl,rfl⟩;refine hK _ _ ?_;clear hK K;refine atk (i:=11) (some 43) rfl rfl (v:= ?v11q) ?hy11q ?rest11q
         case hy11q=>intro w0;go_simp;try with_reducible rfl
         simp only [Act.put,sA,sB,sC];refine atk (i:=12) (some 4) rfl rfl (v:= ?v12q) ?hy12q ?rest12q
         case hy12q=>intro w0;go_simp;try with_reducible rfl
         simp only [Act.put,sA,sB,sC];refine any_done (by kernel_rfl) ?_ _;refine NoPanic.normal ?_;go_wp2;go_ret;exact⟨by rw [HV.out];rfl,1,rfl⟩
       · have HV:=hid (show R= -1 from by rw [HR.out,if_neg (fun q=>qb q.2.2)]);have qb2:VB<0:=by omega
         go_enter Tryz.func113,Tryz.ntmps113;go_wp2_with (first
          |(go_at_call 145;(with_reducible refine(HA.out _).mono ?_);rintro e w1 ⟨rfl,rfl⟩)
          |(go_at_call 145;(with_reducible refine(HB.out _).mono ?_);rintro e w1 ⟨rfl,rfl⟩))
         go_ret;exact⟨by rw [HV.out];rfl,0,rfl⟩
     · have HV:=hid (show R= -1 from by rw [HR.out,if_neg (fun q=>qa q.2.1)]);have qa2:VA<0:=by omega
       go_enter Tryz.func113,Tryz.ntmps113;go_wp2_with (go_at_call 145;(with_reducible refine(HA.out _).mono ?_);rintro e w1 ⟨rfl,rfl⟩);go_ret;exact⟨by rw [HV.out];rfl,0,rfl⟩
   · have HV:=hid (show R= -1 from by rw [HR.out,if_neg (fun q=>q37 q.1)]);have z1:¬(c.toNat:Int)=37:=fun e=>q37 (UInt8.toNat_inj.1 (by show c.toNat=37;omega))
     have z2:((c.toNat:Int)== 37)=false:=by simpa using z1
     clear q37;go_enter Tryz.func113,Tryz.ntmps113;go_wp2;go_ret;exact⟨by rw [HV.out];rfl,0,rfl⟩
 · have HV:=hid (show codeI (s.drop i)= -1 from codeI_short (by rw [List.length_drop,hn];omega));rw [hS];rw [hn] at hs;rw [HV.out];clear hn hS;have z1:(n:Int)≤(i:Int)+2:=by omega
   go_enter Tryz.func113,Tryz.ntmps113;go_wp2;go_ret;exact⟨rfl,0,rfl⟩
theorem made_ok {o:B}{soft:Bool}{c:UInt8} (h:(plainB c || o.contains c)=true):∀ l:B,made o soft (c::l)=made o soft l
 | []=>by simp only [made];exact h
 | [d]=>by simp only [made];rw [h];rfl
 |a::b::r=>by simp only [made];rw [if_pos h]
theorem codeI_some {c a b v:UInt8}{r:B} (h:codeOf c a b=some v):codeI (c::a::b::r)=(v.toNat:Int):=by simp only [codeI,h]
theorem codeI_none {c a b:UInt8}{r:B} (h:codeOf c a b=none):codeI (c::a::b::r)= -1:=by simp only [codeI,h]
theorem made_step {o:B}{soft:Bool}{c:UInt8}{l:B} (h:(plainB c || o.contains c)=false):made o soft (c::l)=if codeI (c::l)<0∨(soft=true∧(codeI (c::l)<32∨codeI (c::l)=127)) then false else made o soft (l.drop 2):=by
 match l with
 | []=>rw [codeI_short (by simp)];simp only [made];rw [h];simp
 | [d]=>rw [codeI_short (by simp)];simp only [made];rw [h];simp
 |a::b::r=>
  rw [made,if_neg (by rw [h];simp)];cases hv:codeOf c a b with
  |none=>rw [codeI_none hv];simp
  |some v=>
   rw [codeI_some hv];have e1:v<32↔(v.toNat:Int)<32:=by rw [UInt8.lt_iff_toNat_lt];show v.toNat<32↔_;omega
   have e2:v=127↔(v.toNat:Int)=127:=by
    rw [←UInt8.toNat_inj];show v.toNat=127↔_;omega
   simp only [List.drop_succ_cons,List.drop_zero];cases soft with
   |false=>simp
   |true=>
    simp only [Bool.true_and,Bool.or_eq_true,decide_eq_true_eq,beq_iff_eq,e1,e2,true_and];by_cases q:(v.toNat:Int)<32∨(v.toNat:Int)=127
    · rw [if_pos q,if_pos (.inr q)]
    · rw [if_neg q,if_neg (by rintro (z|z);exact absurd z (by omega);exact q z)]
theorem code_long {c:UInt8}{l:B} (h:0≤codeI (c::l)):2≤l.length:=by
 rcases Nat.lt_or_ge l.length 2 with q|q
 · rw [codeI_short (by simp;omega)] at h;omega
 · exact q
theorem made_any (s o:B) (soft:Bool) (hs:s.length≤35184372088832) (ho:o.length≤1048576) (w:World):Calls Tryz.prog 112 #[.string (str s),.string (str o),.bool soft] w fun e w'=>e= .returned (.bool (made o soft s))∧Below w.heap.size w w':=by
 obtain⟨n,hn⟩:∃ n,s.length=n:=⟨_,rfl⟩;have HN:=hid hn;obtain⟨S,hS⟩:∃ S,str s=S:=⟨_,rfl⟩;have hSn:S.size=n:=by rw [←hS,str_size,hn]
 have HByte:=hid (show ∀ (k:Nat) (h:k<s.length) (h2:k<S.size),S[k]'h2=s[k]'h from fun k h h2=>by subst hS;rfl);obtain⟨R,hR⟩:∃ R,made o soft s=R:=⟨_,rfl⟩;have HR:=hid hR;have HCo:=hid (show ∀ i,i≤n→∀ w,_ from fun i hi=>code_any s i (by omega) (by omega));have HAm:=hid (show ∀ c w,_ from fun c=>among_any c o (by omega));obtain⟨O,hO⟩:∃ O,str o=O:=⟨_,rfl⟩;rw [hS] at HCo;rw [hO] at HAm;rw [hn] at hs;rw [hS,hO,hR];clear hn hS hR hO ho;go_enter Tryz.func112,Tryz.ntmps112;go_wp2;go_loopg [7] (n+1) (fun gk s7 wr=>∃ i:Nat,i≤n∧gk=n-i+1∧s7= .int .i64 (i:Int)∧made o soft (s.drop i)=R∧Below w.heap.size w wr)
 case atStart=>exact⟨0,by omega,rfl,rfl,HR.out,Below.refl _ _⟩
 case round=>
  obtain⟨i,hi,rfl,rfl,hm,hb⟩:=hrel;have HM:=hid hm;have HB:=hid hb;clear hm hb;by_cases hin:i<n
  · have hi1:i<s.length:=by rw [HN.out];exact hin
    obtain⟨c,hc⟩:∃ c,s[i]=c:=⟨_,rfl⟩;have hbyte:∀ h:i<S.size,(S[i]'h)=c:=fun h=>by rw [HByte.out i hi1 h,hc]
    have HD:=hid (show s.drop i=c::s.drop (i+1) from by rw [List.drop_eq_getElem_cons hi1,hc]);have HPl:=hid (plain_any c);have HAc:=hid (HAm.out c);rw [HD.out] at HM;clear hc hi1;cases hp:plainB c with
    |true=>
     have HNx:=hid (show made o soft (s.drop (i+1))=R from by rw [←HM.out,made_ok (by rw [hp];rfl)]);rw [hp] at HPl;clear hp;go_wp2_with (go_at_call 144;(with_reducible refine(HPl.out _).mono ?_);rintro e w1 ⟨rfl,rfl⟩);go_roundg (n-(i+1)+1)
     case measure=>omega
     case rel=>exact⟨i+1,by omega,rfl,by push_cast;rfl,HNx.out,HB.out⟩
    |false=>
     rw [hp] at HPl;cases hq:o.contains c with
     |true=>
      have HNx:=hid (show made o soft (s.drop (i+1))=R from by rw [←HM.out,made_ok (by rw [hp,hq];rfl)]);rw [hq] at HAc;clear hp hq;go_wp2_with (first|(go_at_call 144;(with_reducible refine(HPl.out _).mono ?_);rintro e w1 ⟨rfl,rfl⟩)|(go_at_call 85;(with_reducible refine(HAc.out _).mono ?_);rintro e w1 ⟨rfl,rfl⟩));go_roundg (n-(i+1)+1)
      case measure=>omega
      case rel=>exact⟨i+1,by omega,rfl,by push_cast;rfl,HNx.out,HB.out⟩
     |false=>
      rw [hq] at HAc;have HSt:=hid (show R=if codeI (s.drop i)<0∨(soft=true∧(codeI (s.drop i)<32∨codeI (s.drop i)=127)) then false else made o soft (s.drop (i+3)) from by
       rw [HD.out,←HM.out,made_step (by rw [hp,hq];rfl)];rw [List.drop_drop])
      have HLg:=hid (show 0≤codeI (s.drop i)→i+3≤n from fun h=>by
       rw [HD.out] at h;have:=code_long h;rw [List.length_drop,HN.out] at this;omega)
      have HCi:=hid (HCo.out i (by omega));have hbd:=codeI_bd (s.drop i);obtain⟨V,hV⟩:∃ V,codeI (s.drop i)=V:=⟨_,rfl⟩;rw [hV] at HSt HLg HCi hbd;clear hp hq hV;by_cases hneg:V<0
      · have HF:=hid (show R=false from by rw [HSt.out,if_pos (.inl hneg)]);go_wp2_with (first|(go_at_call 144;(with_reducible refine(HPl.out _).mono ?_);rintro e w1 ⟨rfl,rfl⟩)|(go_at_call 85;(with_reducible refine(HAc.out _).mono ?_);rintro e w1 ⟨rfl,rfl⟩)|(go_at_call 113;(with_reducible refine(HCi.out _).mono ?_);rintro e w1 ⟨rfl,q,rfl⟩));go_ret;rw [HF.out];exact⟨rfl,below_drew HB.out _⟩
      · have hi3:i+3≤n:=HLg.out (by omega);cases soft with
        |false=>
         have HNx:=hid (show made o false (s.drop (i+3))=R from by rw [HSt.out,if_neg (by simp;omega)]);go_wp2_with (first|(go_at_call 144;(with_reducible refine(HPl.out _).mono ?_);rintro e w1 ⟨rfl,rfl⟩)|(go_at_call 85;(with_reducible refine(HAc.out _).mono ?_);rintro e w1 ⟨rfl,rfl⟩)|(go_at_call 113;(with_reducible refine(HCi.out _).mono ?_);rintro e w1 ⟨rfl,q,rfl⟩));go_roundg (n-(i+3)+1)
         case measure=>omega
         case rel=>exact⟨i+3,by omega,rfl,by push_cast;go_num,HNx.out,below_drew HB.out _⟩
        |true=>
         by_cases h32:V<32
         · have HF:=hid (show R=false from by rw [HSt.out,if_pos (.inr ⟨rfl,.inl h32⟩)]);go_wp2_with (first|(go_at_call 144;(with_reducible refine(HPl.out _).mono ?_);rintro e w1 ⟨rfl,rfl⟩)|(go_at_call 85;(with_reducible refine(HAc.out _).mono ?_);rintro e w1 ⟨rfl,rfl⟩)|(go_at_call 113;(with_reducible refine(HCi.out _).mono ?_);rintro e w1 ⟨rfl,q,rfl⟩));go_ret;rw [HF.out];exact⟨rfl,below_drew HB.out _⟩
         · by_cases h127:V=127
           · have HF:=hid (show R=false from by rw [HSt.out,if_pos (.inr ⟨rfl,.inr h127⟩)]);subst h127;go_wp2_with (first|(go_at_call 144;(with_reducible refine(HPl.out _).mono ?_);rintro e w1 ⟨rfl,rfl⟩)|(go_at_call 85;(with_reducible refine(HAc.out _).mono ?_);rintro e w1 ⟨rfl,rfl⟩)|(go_at_call 113;(with_reducible refine(HCi.out _).mono ?_);rintro e w1 ⟨rfl,q,rfl⟩));go_ret;rw [HF.out];exact⟨rfl,below_drew HB.out _⟩
           · have HNx:=hid (show made o true (s.drop (i+3))=R from by rw [HSt.out,if_neg (by simp;omega)]);have h127b:(V== 127)=false:=by simpa using h127
             go_wp2_with (first|(go_at_call 144;(with_reducible refine(HPl.out _).mono ?_);rintro e w1 ⟨rfl,rfl⟩)|(go_at_call 85;(with_reducible refine(HAc.out _).mono ?_);rintro e w1 ⟨rfl,rfl⟩)|(go_at_call 113;(with_reducible refine(HCi.out _).mono ?_);rintro e w1 ⟨rfl,q,rfl⟩));go_roundg (n-(i+3)+1)
             case measure=>omega
             case rel=>exact⟨i+3,by omega,rfl,by push_cast;go_num,HNx.out,below_drew HB.out _⟩
  · obtain rfl:n=i:=by omega
    have HT:=hid (show R=true from by rw [←HM.out,List.drop_of_length_le (by rw [HN.out];exact Nat.le_refl _)];rfl);go_wp2;go_ret;rw [HT.out];exact⟨rfl,HB.out⟩
theorem dec_true {p:Prop} [Decidable p] (h:p):true=decide p:=(decide_eq_true h).symm
theorem dec_false {p:Prop} [Decidable p] (h:¬p):false=decide p:=(decide_eq_false h).symm
theorem dec_iff {p q:Prop} [Decidable p] [Decidable q] (h:p↔q):decide p=decide q:=decide_eq_decide.2 h
theorem dec_iff2 {p p2 q:Prop} [Decidable p] [Decidable p2] [Decidable q] (h:p∨p2↔q):(decide p || decide p2)=decide q:=by rw [←Bool.decide_or];exact dec_iff h
theorem dec_iff3 {p p2 p3 q:Prop} [Decidable p] [Decidable p2] [Decidable p3] [Decidable q] (h:(p∨p2)∨p3↔q):(decide p || decide p2 || decide p3)=decide q:=by rw [←Bool.decide_or,←Bool.decide_or];exact dec_iff h
theorem beq_or {X k:Int}{q r:Prop} [Decidable q] [Decidable r] (h:r↔X=k∨q):(X== k || decide q)=decide r:=by
 rw [Bool.eq_iff_iff];simp only [Bool.or_eq_true,beq_iff_eq,decide_eq_true_eq];exact h.symm
theorem byte_int (c:UInt8):0≤(c.toNat:Int)∧(c.toNat:Int)≤255:=by have:=c.toNat_lt;omega
def letterI (X:Int):Prop:=(97≤X∧X≤122)∨(65≤X∧X≤90)∨(48≤X∧X≤57)
def unresI (X:Int):Prop:=X=45∨X=46∨X=95∨X=126∨letterI X
def plainI (X:Int):Prop:=X=33∨X=36∨X=38∨X=39∨X=40∨X=41∨X=42∨X=43∨X=44∨X=59∨X=61∨X=58∨X=64∨unresI X
def hostI_t (X:Int):Prop:=X=45∨X=46∨X=95∨X=58∨letterI X
instance (X:Int):Decidable (letterI X):=by unfold letterI;infer_instance
instance (X:Int):Decidable (unresI X):=by unfold unresI;infer_instance
instance (X:Int):Decidable (plainI X):=by unfold plainI;infer_instance
instance (X:Int):Decidable (hostI_t X):=by unfold hostI_t;infer_instance
def pathI (X:Int):Prop:=X=47∨plainI X
def queryI (X:Int):Prop:=X=63∨pathI X
def softI (X:Int):Prop:=32≤X∧¬X=127
instance (X:Int):Decidable (pathI X):=by unfold pathI;infer_instance
instance (X:Int):Decidable (queryI X):=by unfold queryI;infer_instance
instance (X:Int):Decidable (softI X):=by unfold softI;infer_instance
theorem unres_int (c:UInt8):unres c=decide (unresI (c.toNat:Int)):=all256 (P:=fun c=>unres c=decide (unresI (c.toNat:Int))) (by decide+kernel) c
theorem plain_int (c:UInt8):plainB c=decide (plainI (c.toNat:Int)):=all256 (P:=fun c=>plainB c=decide (plainI (c.toNat:Int))) (by decide+kernel) c
theorem host_int (c:UInt8):hostB c=decide (hostI_t (c.toNat:Int)):=all256 (P:=fun c=>hostB c=decide (hostI_t (c.toNat:Int))) (by decide+kernel) c
theorem inPath_int (c:UInt8):inPathC c=decide (pathI (c.toNat:Int)):=all256 (P:=fun c=>inPathC c=decide (pathI (c.toNat:Int))) (by decide+kernel) c
theorem inQuery_int (c:UInt8):inQueryC c=decide (queryI (c.toNat:Int)):=all256 (P:=fun c=>inQueryC c=decide (queryI (c.toNat:Int))) (by decide+kernel) c
theorem soft_int (c:UInt8):softC c=decide (softI (c.toNat:Int)):=all256 (P:=fun c=>softC c=decide (softI (c.toNat:Int))) (by decide+kernel) c
def ByteFn (f:Nat) (p:UInt8→Bool):Prop:=∀ (c:UInt8) (w:World),Calls Tryz.prog f #[byteV c] w fun e w'=>e= .returned (.bool (p c))∧w'=w
theorem punres_any:ByteFn 131 unres:=by
 intro c w;rw [unres_int];obtain⟨h0,h1⟩:=byte_int c;unfold byteV;generalize (c.toNat:Int)=X at*;go_enter Tryz.func131,Tryz.ntmps131;go_wp2;all_goals
  go_ret;exact⟨ret_bool (by(try simp only [beq_iff_eq,beq_eq_false_iff_ne,ne_eq] at*) <;> first|exact dec_true (by unfold unresI letterI;omega)|exact dec_false (by unfold unresI letterI;omega)|exact dec_iff (by unfold unresI letterI;omega)|exact dec_iff2 (by unfold unresI letterI;omega)|exact dec_iff3 (by unfold unresI letterI;omega)),rfl⟩
theorem pplain_any:ByteFn 128 plainB:=by
 intro c w;have HU:=hid (punres_any c);rw [unres_int] at HU;rw [plain_int];obtain⟨h0,h1⟩:=byte_int c;unfold byteV at HU ⊢;generalize (c.toNat:Int)=X at*;go_enter Tryz.func128,Tryz.ntmps128;go_wp2_with (go_at_call 131;(with_reducible refine(HU.out _).mono ?_);rintro e w1 ⟨rfl,rfl⟩);all_goals
  go_ret;exact⟨ret_bool (by(try simp only [beq_iff_eq,beq_eq_false_iff_ne,ne_eq] at*) <;> first|exact dec_true (by(try unfold plainI);(try unfold unresI);(try unfold hostI_t);(try unfold letterI);omega)|exact dec_false (by(try unfold plainI);(try unfold unresI);(try unfold hostI_t);(try unfold letterI);omega)|exact dec_iff (by(try unfold plainI);(try unfold unresI);(try unfold hostI_t);(try unfold letterI);omega)|exact dec_iff2 (by(try unfold plainI);(try unfold unresI);(try unfold hostI_t);(try unfold letterI);omega)|exact dec_iff3 (by(try unfold plainI);(try unfold unresI);(try unfold hostI_t);(try unfold letterI);omega)),rfl⟩
theorem phost_any:ByteFn 149 hostB:=by
 intro c w;rw [host_int];obtain⟨h0,h1⟩:=byte_int c;unfold byteV;generalize (c.toNat:Int)=X at*;go_enter Tryz.func149,Tryz.ntmps149;go_wp2;all_goals
  go_ret;exact⟨ret_bool (by(try simp only [beq_iff_eq,beq_eq_false_iff_ne,ne_eq] at*) <;> first|exact dec_true (by unfold hostI_t letterI;omega)|exact dec_false (by unfold hostI_t letterI;omega)|exact dec_iff (by unfold hostI_t letterI;omega)|exact dec_iff2 (by unfold hostI_t letterI;omega)|exact dec_iff3 (by unfold hostI_t letterI;omega)),rfl⟩
theorem pinpath_any:ByteFn 89 inPathC:=by
 intro c w;have HU:=hid (pplain_any c);rw [plain_int] at HU;rw [inPath_int];obtain⟨h0,h1⟩:=byte_int c;unfold byteV at HU ⊢;generalize (c.toNat:Int)=X at*;go_enter Tryz.func89,Tryz.ntmps89;go_wp2_with (go_at_call 128;(with_reducible refine(HU.out _).mono ?_);rintro e w1 ⟨rfl,rfl⟩);all_goals
  go_ret;exact⟨ret_bool (by(try simp only [beq_iff_eq,beq_eq_false_iff_ne,ne_eq] at*) <;> first|exact dec_true (p:=pathI X) (Or.inl (by omega))|exact beq_or (r:=pathI X) Iff.rfl|exact dec_iff (q:=pathI X) ⟨Or.inr,fun h=>h.resolve_left (by omega)⟩),rfl⟩
theorem pinquery_any:ByteFn 146 inQueryC:=by
 intro c w;have HU:=hid (pinpath_any c);rw [inPath_int] at HU;rw [inQuery_int];obtain⟨h0,h1⟩:=byte_int c;unfold byteV at HU ⊢;generalize (c.toNat:Int)=X at*;go_enter Tryz.func146,Tryz.ntmps146;go_wp2_with (go_at_call 89;(with_reducible refine(HU.out _).mono ?_);rintro e w1 ⟨rfl,rfl⟩);all_goals
  go_ret;exact⟨ret_bool (by(try simp only [beq_iff_eq,beq_eq_false_iff_ne,ne_eq] at*) <;> first|exact dec_true (p:=queryI X) (Or.inl (by omega))|exact beq_or (r:=queryI X) Iff.rfl|exact dec_iff (q:=queryI X) ⟨Or.inr,fun h=>h.resolve_left (by omega)⟩),rfl⟩
theorem pany_any:ByteFn 147 anyC:=by
 intro c w;unfold byteV;go_enter Tryz.func147,Tryz.ntmps147;go_wp2;go_ret;exact⟨rfl,rfl⟩
theorem psoft_any:ByteFn 90 softC:=by
 intro c w;rw [soft_int];obtain⟨h0,h1⟩:=byte_int c;unfold byteV;generalize (c.toNat:Int)=X at*;go_enter Tryz.func90,Tryz.ntmps90;go_wp2;all_goals
  go_ret;exact⟨ret_bool (by first|exact dec_false (by unfold softI;omega)|(rw [Bool.eq_iff_iff,decide_eq_true_iff (p:=softI X)];unfold softI;simp;omega)),rfl⟩
def digV (X:Int):Int:=if 65≤X∧X≤70 then X-55 else if 97≤X∧X≤102 then X-87 else if 48≤X∧X≤57 then X-48 else 0
def digO (X:Int):Bool:=decide (65≤X∧X≤70) || decide (97≤X∧X≤102) || decide (48≤X∧X≤57)
theorem dig_int (c:UInt8):hexI c=if digO (c.toNat:Int) then digV (c.toNat:Int) else -1:=all256 (P:=fun c=>hexI c=if digO (c.toNat:Int) then digV (c.toNat:Int) else -1) (by decide+kernel) c
theorem digit_any_t (X:Int) (h0:0≤X) (h1:X≤255) (w:World):Calls Tryz.prog 130 #[.int .u8 X] w fun e w'=>e= .returned (.tuple #[.int .u8 (digV X),.bool (digO X)])∧w'=w:=by
 go_enter Tryz.func130,Tryz.ntmps130;go_wp2;all_goals
  go_ret2;refine⟨ret_ib ?_ ?_,rfl⟩
  · unfold digV;(repeat' split) <;> omega
  · rw [Bool.eq_iff_iff];simp [digO];try omega
theorem digV_bd (X:Int):0≤digV X∧digV X≤15:=by unfold digV;(repeat' split) <;> omega
def codeN (s:B):Nat:=if codeI s<0 then 0 else (codeI s).toNat
def codeO (s:B):Bool:=decide (0≤codeI s)
theorem codeN_lt (s:B):codeN s<256:=by
 have:=codeI_bd s;unfold codeN;split <;> omega
theorem or_two (a b:Nat) (ha:a≤15) (hb:b≤15):bits BinOp.or IntKind.u8 ((a:Int)*16) (b:Int)=((a*16+b:Nat):Int):=by
 have key:∀ (i j:Fin 16),bits BinOp.or IntKind.u8 ((i.val:Int)*16) (j.val:Int)=((i.val*16+j.val:Nat):Int):=by decide+kernel
 exact key ⟨a,by omega⟩ ⟨b,by omega⟩
theorem pcode_any (s:B) (hs:s.length≤70368744177664) (w:World):Calls Tryz.prog 92 #[.string (str s)] w fun e w'=>e= .returned (.tuple #[.int .u8 (codeN s:Int),.bool (codeO s)])∧w'=w:=by
 obtain⟨n,hn⟩:∃ n,s.length=n:=⟨_,rfl⟩;obtain⟨S,hS⟩:∃ S,str s=S:=⟨_,rfl⟩;have hSn:S.size=n:=by rw [←hS,str_size,hn]
 by_cases hlt:2<n
 · have h0:0+2<s.length:=by rw [hn];omega
   have e:=drop3 h0;rw [List.drop_zero] at e;obtain⟨c,hc⟩:∃ c,s[0]=c:=⟨_,rfl⟩;obtain⟨a,ha⟩:∃ a,s[0+1]=a:=⟨_,rfl⟩;obtain⟨b,hb⟩:∃ b,s[0+2]=b:=⟨_,rfl⟩;have b0:∀ h:0<S.size,S[0]'h=c:=fun h=>by subst hS;exact hc
   have b1:∀ h:1<S.size,S[1]'h=a:=fun h=>by subst hS;exact ha
   have b2:∀ h:2<S.size,S[2]'h=b:=fun h=>by subst hS;exact hb
   rw [hc,ha,hb] at e;have HR:=hid (show codeI s=if c=37∧0≤hexI a∧0≤hexI b then hexI a*16+hexI b else -1 from by
    have hR:=codeI_at (c:=c) (a:=a) (b:=b) (r:=s.drop (0+3));rw [←e] at hR;exact hR)
   have HCN:=hid (show codeN s=if codeI s<0 then 0 else (codeI s).toNat from rfl);have HCO:=hid (show codeO s=decide (0≤codeI s) from rfl);rw [hS];rw [hn] at hs;obtain⟨R,hRR⟩:∃ R,codeI s=R:=⟨_,rfl⟩;obtain⟨RN,hRN⟩:∃ RN,codeN s=RN:=⟨_,rfl⟩;obtain⟨RO,hRO⟩:∃ RO,codeO s=RO:=⟨_,rfl⟩;rw [hRR] at HR HCN HCO;rw [hRN] at HCN ⊢;rw [hRO] at HCO ⊢;clear hn hS h0 e hc ha hb hRR hRN hRO;by_cases q37:c=37
   · subst q37;obtain⟨za0,za1⟩:=byte_int a;obtain⟨zb0,zb1⟩:=byte_int b;have HA:=hid (digit_any_t (a.toNat:Int) za0 za1);have HB:=hid (digit_any_t (b.toNat:Int) zb0 zb1);rw [dig_int a,dig_int b] at HR;obtain⟨va,hva⟩:∃ va:Nat,digV (a.toNat:Int)=(va:Int):=⟨(digV (a.toNat:Int)).toNat,by have:=digV_bd (a.toNat:Int);omega⟩;obtain⟨vb,hvb⟩:∃ vb:Nat,digV (b.toNat:Int)=(vb:Int):=⟨(digV (b.toNat:Int)).toNat,by have:=digV_bd (b.toNat:Int);omega⟩;have hba:va≤15:=by have:=digV_bd (a.toNat:Int);omega
     have hbb:vb≤15:=by have:=digV_bd (b.toNat:Int);omega
     rw [hva] at HA HR;rw [hvb] at HB HR;clear hva hvb za0 za1 zb0 zb1;cases ha:digO (a.toNat:Int) with
     |true=>
      rw [ha] at HA HR;cases hb:digO (b.toNat:Int) with
      |true=>
       rw [hb] at HB HR;have HV:=hid (show R=(va:Int)*16+(vb:Int) from by rw [HR.out];simp only [if_true];rw [if_pos ⟨trivial,by omega,by omega⟩]);have HV2:=hid (show RN=va*16+vb from by rw [HCN.out,HV.out,if_neg (by omega)];omega);have HV3:=hid (show RO=true from by rw [HCO.out,HV.out];exact decide_eq_true (by omega));have hor:=or_two va vb hba hbb;clear ha hb;go_enter Tryz.func92,Tryz.ntmps92;go_wp2_with (first
        |(go_at_call 130;(with_reducible refine(HA.out _).mono ?_);rintro e w1 ⟨rfl,rfl⟩)
        |(go_at_call 130;(with_reducible refine(HB.out _).mono ?_);rintro e w1 ⟨rfl,rfl⟩))
       go_ret2;rw [HV2.out,HV3.out];exact⟨rfl,rfl⟩
      |false=>
       rw [hb] at HB HR;have HV:=hid (show R= -1 from by rw [HR.out];simp);have HV2:=hid (show RN=0 from by rw [HCN.out,HV.out];rfl);have HV3:=hid (show RO=false from by rw [HCO.out,HV.out];rfl);clear ha hb;go_enter Tryz.func92,Tryz.ntmps92;go_wp2_with (first
        |(go_at_call 130;(with_reducible refine(HA.out _).mono ?_);rintro e w1 ⟨rfl,rfl⟩)
        |(go_at_call 130;(with_reducible refine(HB.out _).mono ?_);rintro e w1 ⟨rfl,rfl⟩))
       go_ret2;rw [HV2.out,HV3.out];exact⟨rfl,rfl⟩
     |false=>
      rw [ha] at HA HR;have HV:=hid (show R= -1 from by rw [HR.out];simp);have HV2:=hid (show RN=0 from by rw [HCN.out,HV.out];rfl);have HV3:=hid (show RO=false from by rw [HCO.out,HV.out];rfl);clear ha;go_enter Tryz.func92,Tryz.ntmps92;go_wp2_with (go_at_call 130;(with_reducible refine(HA.out _).mono ?_);rintro e w1 ⟨rfl,rfl⟩);go_ret2;rw [HV2.out,HV3.out];exact⟨rfl,rfl⟩
   · have HV:=hid (show R= -1 from by rw [HR.out,if_neg (fun q=>q37 q.1)]);have HV2:=hid (show RN=0 from by rw [HCN.out,HV.out];rfl);have HV3:=hid (show RO=false from by rw [HCO.out,HV.out];rfl);have z1:¬(c.toNat:Int)=37:=fun e=>q37 (UInt8.toNat_inj.1 (by show c.toNat=37;omega))
     have z2:((c.toNat:Int)== 37)=false:=by simpa using z1
     have z3:((c.toNat:Int) != 37)=true:=by simpa using z1
     clear q37;go_enter Tryz.func92,Tryz.ntmps92;go_wp2;go_ret2;rw [HV2.out,HV3.out];exact⟨rfl,rfl⟩
 · have HV:=hid (show codeI s= -1 from codeI_short (by rw [hn];omega));have HV2:=hid (show codeN s=0 from by unfold codeN;rw [HV.out];rfl);have HV3:=hid (show codeO s=false from by unfold codeO;rw [HV.out];rfl);rw [hS,HV2.out,HV3.out];rw [hn] at hs;clear hn hS;have z1:(n:Int)<3:=by omega
   go_enter Tryz.func92,Tryz.ntmps92;go_wp2;go_ret2;exact⟨rfl,rfl⟩
end Go.Proofs.YtlmlljlappjjjaaGreatDoor
