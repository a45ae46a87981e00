/- Targets as plain functions: codes, paths as they are meant, segments, queries' parts; what holds of them. -/
import Derived.Test.YtlmlljlappjjjaaGreatDoorSOrd
namespace Go.Proofs.YtlmlljlappjjjaaGreatDoor
set_option maxRecDepth 100000
set_option maxHeartbeats 8000000
def letterB (c:UInt8):Bool:=decide (97≤c∧c≤122) || decide (65≤c∧c≤90) || decide (48≤c∧c≤57)
def unres (c:UInt8):Bool:=letterB c || ([45,46,95,126]:B).contains c
def plainB (c:UInt8):Bool:=unres c || ([33,36,38,39,40,41,42,43,44,59,61,58,64]:B).contains c
def hexN (c:UInt8):Option Nat:=if 48≤c∧c≤57 then some (c.toNat-48) else if 97≤c∧c≤102 then some (c.toNat-87) else if 65≤c∧c≤70 then some (c.toNat-55) else none
def greatD (d:Nat):UInt8:=if d<10 then UInt8.ofNat (48+d) else UInt8.ofNat (55+d)
def codeOf (c a b:UInt8):Option UInt8:=if c=37 then (match hexN a,hexN b with
 |some x,some y=>some (UInt8.ofNat (x*16+y))
 |_,_=>none) else none
def codeB (v:UInt8):B:=[37,greatD (v.toNat / 16),greatD (v.toNat % 16)]
def made (o:B) (soft:Bool):B→Bool
 | []=>true
 | [c]=>plainB c || o.contains c
 | [c,d]=>(plainB c || o.contains c) && made o soft [d]
 |c::a::b::r=>if plainB c || o.contains c then made o soft (a::b::r) else match codeOf c a b with
  |none=>false
  |some v=>if soft && (decide (v<32) || v== 127) then false else made o soft r
def isPath (s:B):Bool:=decide (s.head? =some 47) && made [47] true s
def meantB:B→B
 | []=>[]
 | [c]=>[c]
 | [c,d]=>[c,d]
 |c::a::b::r=>match codeOf c a b with
  |none=>c::meantB (a::b::r)
  |some v=>(if unres v then [v] else codeB v)++meantB r
def decodeB:B→Option B
 | []=>some []
 | [c]=>if c=37 then none else some [c]
 | [c,d]=>if c=37 then none else (decodeB [d]).map (c:: ·)
 |c::a::b::r=>if c=37 then (match codeOf c a b with
  |none=>none
  |some v=>(decodeB r).map (v:: ·)) else (decodeB (a::b::r)).map (c:: ·)
def cutAt (x:UInt8):B→List B
 | []=>[[]]
 |b::l=>if b=x then []::cutAt x l else match cutAt x l with
  | []=>[[b]]
  |p::r=>(b::p)::r
def segs (s:B):List B:=(cutAt 47 s).tail
def joinS (l:List B):B:=l.flatMap fun s=>47::s
def dotsL:List B→List B→Option (List B)
 | [],out=>some out
 |s::r,out=>if s= [46] then (if r= [] then some (out++ [[]]) else dotsL r out)
  else if s= [46,46] then (if out= [] then none else if r= [] then some (out.dropLast++ [[]]) else dotsL r out.dropLast)
  else dotsL r (out++ [s])
def normalB (p:B):Option B:=if isPath p then (dotsL (segs (meantB p)) []).map joinS else none
theorem hexN_lt {c:UInt8}{x:Nat} (h:hexN c=some x):x<16:=by
 unfold hexN at h;have hc:c.toNat<256:=c.toNat_lt;split at h
 · rename_i q
   have h1:c.toNat≤57:=by simpa using UInt8.le_iff_toNat_le.1 q.2
   simp only [Option.some.injEq] at h;omega
 split at h
 · rename_i q
   have h1:c.toNat≤102:=by simpa using UInt8.le_iff_toNat_le.1 q.2
   simp only [Option.some.injEq] at h;omega
 split at h
 · rename_i q
   have h1:c.toNat≤70:=by simpa using UInt8.le_iff_toNat_le.1 q.2
   simp only [Option.some.injEq] at h;omega
 · cases h
theorem code_none {c a b:UInt8} (h:c≠37):codeOf c a b=none:=by unfold codeOf;rw [if_neg h]
theorem dec_cons {c:UInt8} (h:c≠37):∀ l:B,decodeB (c::l)=(decodeB l).map (c:: ·)
 | []=>by simp [decodeB,h]
 | [d]=>by simp [decodeB,h]
 |a::b::r=>by simp [decodeB,h]
theorem meant_cons {c:UInt8} (h:c≠37):∀ l:B,meantB (c::l)=c::meantB l
 | []=>rfl
 | [d]=>rfl
 |a::b::r=>by simp only [meantB,code_none h]
theorem cut_ne (x:UInt8) (l:B):cutAt x l≠ []:=by
 cases l with
 |nil=>simp [cutAt]
 |cons b l=>unfold cutAt;split <;> (try split) <;> simp
theorem cut_none {x:UInt8}:∀ l:B,(∀ y∈l,y≠x)→cutAt x l= [l]
 | [],_=>rfl
 |b::l,h=>by
  rw [cutAt,if_neg (h b (by simp)),cut_none l (fun y hy=>h y (by simp [hy]))]
theorem cut_at {x:UInt8}:∀ (p l:B),(∀ y∈p,y≠x)→cutAt x (p++x::l)=p::cutAt x l
 | [],l,_=>by rw [List.nil_append,cutAt,if_pos rfl]
 |b::p,l,h=>by
  rw [List.cons_append,cutAt,if_neg (h b (by simp)),cut_at p l (fun y hy=>h y (by simp [hy]))]
def Whole (l:List B):Prop:=∀ s∈l,∀ y∈s,y≠(47:UInt8)
theorem join_app (a b:List B):joinS (a++b)=joinS a++joinS b:=by simp [joinS]
def decP:B→B
 | []=>[]
 | [c]=>[c]
 | [c,d]=>[c,d]
 |c::a::b::r=>match codeOf c a b with
  |none=>c::decP (a::b::r)
  |some v=>v::decP r
def madeP (p q:UInt8→Bool):B→Bool
 | []=>true
 | [c]=>decide (c≠37) && p c
 | [c,d]=>decide (c≠37) && p c && (decide (d≠37) && p d)
 |c::a::b::r=>if c=37 then (match codeOf c a b with
  |none=>false
  |some v=>q v && madeP p q r) else p c && madeP p q (a::b::r)
def softC (c:UInt8):Bool:=decide (32≤c) && decide (c≠127)
def inPathC (c:UInt8):Bool:=c== 47 || plainB c
theorem inPath_eq (c:UInt8):inPathC c=(plainB c || ([47]:B).contains c):=by
 unfold inPathC;rw [Bool.or_comm];simp only [List.contains_cons,List.contains_nil,Bool.or_false]
theorem in37 (o:B) (h:o.contains 37=false):(plainB 37 || o.contains 37)=false:=by rw [h];decide
theorem made_is {p q:UInt8→Bool}{o:B}{soft:Bool} (hp:∀ c,p c=(plainB c || o.contains c)) (ho:o.contains 37=false) (hq:∀ v,q v= !(soft && (decide (v<32) || v== 127))):∀ s:B,madeP p q s=made o soft s
 | []=>rfl
 | [c]=>by
  simp only [madeP,made];rw [hp];by_cases hc:c=37
  · rw [hc,in37 o ho];simp
  · simp [hc]
 | [c,d]=>by
  simp only [madeP,made];rw [hp,hp];by_cases hc:c=37
  · rw [hc,in37 o ho];simp
  · by_cases hd:d=37
    · rw [hd,in37 o ho];simp
    · simp [hc,hd]
 |c::a::b::r=>by
  rw [madeP,made];by_cases hc:c=37
  · rw [if_pos hc,if_neg (by rw [hc,in37 o ho];simp)];cases hv:codeOf c a b with
    |none=>rfl
    |some v=>
     simp only;rw [hq,made_is hp ho hq r];cases (soft && (decide (v<32) || v== 127)) <;> rfl
  · rw [if_neg hc,hp,made_is hp ho hq (a::b::r)];by_cases h:(plainB c || o.contains c)=true
    · rw [if_pos h,h];rfl
    · rw [if_neg h,code_none hc];rw [Bool.not_eq_true] at h;rw [h];rfl
theorem path_made (s:B):madeP inPathC softC s=made [47] true s:=by
 refine made_is inPath_eq (by decide) (fun v=>?_) s;unfold softC;rw [Bool.eq_iff_iff];simp only [Bool.and_eq_true,decide_eq_true_eq,Bool.not_eq_true',Bool.true_and,Bool.or_eq_false_iff,decide_eq_false_iff_not,beq_eq_false_iff_ne,ne_eq,UInt8.not_lt]
def toCome (rest:B) (more:Bool):List B:=if more then cutAt 47 rest else []
theorem come_cut (rest:B):toCome rest true=(cutF 47 rest).1::toCome (cutF 47 rest).2.1 (cutF 47 rest).2.2:=by
 show cutAt 47 rest=_;obtain⟨h1,h2,h3⟩:=cutF_spec 47 rest;cases h:(cutF 47 rest).2.2 with
 |true=>
  rw [h] at h2;simp only [if_true] at h2;conv=>lhs;rw [h2]
  rw [cut_at _ _ h1];rfl
 |false=>
  rw [h] at h2;simp only [Bool.false_eq_true,if_false,List.append_nil] at h2;conv=>lhs;rw [h2]
  rw [cut_none _ h1];rfl
theorem come_nil (rest:B) (more:Bool):toCome rest more= []↔more=false:=by
 cases more with
 |true=>simp [toCome,cut_ne]
 |false=>simp [toCome]
open Go.RowKit
def hexI (c:UInt8):Int:=match hexN c with
 |some x=>(x:Int)
 |none=> -1
def codeI (l:B):Int:=match l with
 |c::a::b::_=>(match codeOf c a b with
  |some v=>(v.toNat:Int)
  |none=> -1)
 |_=> -1
theorem codeI_short {l:B} (h:l.length<3):codeI l= -1:=by
 match l,h with
 | [],_=>rfl
 | [_],_=>rfl
 | [_,_],_=>rfl
 |_::_::_::r,h=>exact absurd h (by simp)
theorem drop3 {s:B}{i:Nat} (h:i+2<s.length):s.drop i=s[i]::s[i+1]::s[i+2]::s.drop (i+3):=by
 rw [List.drop_eq_getElem_cons (by omega),List.drop_eq_getElem_cons (by omega),List.drop_eq_getElem_cons (by omega)]
theorem codeI_at {c a b:UInt8}{r:B}:codeI (c::a::b::r)=if c=37∧0≤hexI a∧0≤hexI b then hexI a*16+hexI b else -1:=by
 unfold codeI codeOf;simp only;by_cases h:c=37
 · rw [if_pos h];unfold hexI;cases ha:hexN a with
   |none=>simp
   |some x=>
    cases hb:hexN b with
    |none=>simp
    |some y=>
     have h1:=hexN_lt ha;have h2:=hexN_lt hb;simp only;rw [if_pos ⟨h,by omega,by omega⟩,UInt8.toNat_ofNat'];omega
 · rw [if_neg h,if_neg (fun q=>h q.1)]
theorem codeI_bd (l:B): -1≤codeI l∧codeI l<256:=by
 unfold codeI;split
 · split
   · rename_i v _
     have:=v.toNat_lt;omega
   · omega
 · omega
theorem codeI_some {c a b v:UInt8}{r:B} (h:codeOf c a b=some v):codeI (c::a::b::r)=(v.toNat:Int):=by simp only [codeI,h]
theorem codeI_none {c a b:UInt8}{r:B} (h:codeOf c a b=none):codeI (c::a::b::r)= -1:=by simp only [codeI,h]
theorem dec_true {p:Prop} [Decidable p] (h:p):true=decide p:=(decide_eq_true h).symm
theorem dec_false {p:Prop} [Decidable p] (h:¬p):false=decide p:=(decide_eq_false h).symm
theorem dec_iff {p q:Prop} [Decidable p] [Decidable q] (h:p↔q):decide p=decide q:=decide_eq_decide.2 h
theorem dec_iff2 {p p2 q:Prop} [Decidable p] [Decidable p2] [Decidable q] (h:p∨p2↔q):(decide p || decide p2)=decide q:=by rw [←Bool.decide_or];exact dec_iff h
theorem dec_iff3 {p p2 p3 q:Prop} [Decidable p] [Decidable p2] [Decidable p3] [Decidable q] (h:(p∨p2)∨p3↔q):(decide p || decide p2 || decide p3)=decide q:=by rw [←Bool.decide_or,←Bool.decide_or];exact dec_iff h
theorem beq_or {X k:Int}{q r:Prop} [Decidable q] [Decidable r] (h:r↔X=k∨q):(X== k || decide q)=decide r:=by
 rw [Bool.eq_iff_iff];simp only [Bool.or_eq_true,beq_iff_eq,decide_eq_true_eq];exact h.symm
theorem byte_int (c:UInt8):0≤(c.toNat:Int)∧(c.toNat:Int)≤255:=by have:=c.toNat_lt;omega
def letterI (X:Int):Prop:=(97≤X∧X≤122)∨(65≤X∧X≤90)∨(48≤X∧X≤57)
def unresI (X:Int):Prop:=X=45∨X=46∨X=95∨X=126∨letterI X
def plainI (X:Int):Prop:=X=33∨X=36∨X=38∨X=39∨X=40∨X=41∨X=42∨X=43∨X=44∨X=59∨X=61∨X=58∨X=64∨unresI X
def hostI_t (X:Int):Prop:=X=45∨X=46∨X=95∨X=58∨letterI X
instance (X:Int):Decidable (letterI X):=by unfold letterI;infer_instance
instance (X:Int):Decidable (unresI X):=by unfold unresI;infer_instance
instance (X:Int):Decidable (plainI X):=by unfold plainI;infer_instance
instance (X:Int):Decidable (hostI_t X):=by unfold hostI_t;infer_instance
def pathI (X:Int):Prop:=X=47∨plainI X
def queryI (X:Int):Prop:=X=63∨pathI X
def softI (X:Int):Prop:=32≤X∧¬X=127
instance (X:Int):Decidable (pathI X):=by unfold pathI;infer_instance
instance (X:Int):Decidable (queryI X):=by unfold queryI;infer_instance
instance (X:Int):Decidable (softI X):=by unfold softI;infer_instance
theorem unres_int (c:UInt8):unres c=decide (unresI (c.toNat:Int)):=all256 (P:=fun c=>unres c=decide (unresI (c.toNat:Int))) (by decide+kernel) c
theorem plain_int (c:UInt8):plainB c=decide (plainI (c.toNat:Int)):=all256 (P:=fun c=>plainB c=decide (plainI (c.toNat:Int))) (by decide+kernel) c
theorem inPath_int (c:UInt8):inPathC c=decide (pathI (c.toNat:Int)):=all256 (P:=fun c=>inPathC c=decide (pathI (c.toNat:Int))) (by decide+kernel) c
theorem soft_int (c:UInt8):softC c=decide (softI (c.toNat:Int)):=all256 (P:=fun c=>softC c=decide (softI (c.toNat:Int))) (by decide+kernel) c
def ByteFn (f:Nat) (p:UInt8→Bool):Prop:=∀ (c:UInt8) (w:World),Calls Tryz.prog f #[byteV c] w fun e w'=>e= .returned (.bool (p c))∧w'=w
theorem punres_any:ByteFn 131 unres:=by
 intro c w;rw [unres_int];obtain⟨h0,h1⟩:=byte_int c;unfold byteV;generalize (c.toNat:Int)=X at*;go_enter Tryz.func131,Tryz.ntmps131;go_wp2;all_goals
  go_ret;exact⟨ret_bool (by(try simp only [beq_iff_eq,beq_eq_false_iff_ne,ne_eq] at*) <;> first|exact dec_true (by unfold unresI letterI;omega)|exact dec_false (by unfold unresI letterI;omega)|exact dec_iff (by unfold unresI letterI;omega)|exact dec_iff2 (by unfold unresI letterI;omega)|exact dec_iff3 (by unfold unresI letterI;omega)),rfl⟩
theorem pplain_any:ByteFn 128 plainB:=by
 intro c w;have HU:=hid (punres_any c);rw [unres_int] at HU;rw [plain_int];obtain⟨h0,h1⟩:=byte_int c;unfold byteV at HU ⊢;generalize (c.toNat:Int)=X at*;go_enter Tryz.func128,Tryz.ntmps128;go_wp2_with (go_at_call 131;(with_reducible refine(HU.out _).mono ?_);rintro e w1 ⟨rfl,rfl⟩);all_goals
  go_ret;exact⟨ret_bool (by(try simp only [beq_iff_eq,beq_eq_false_iff_ne,ne_eq] at*) <;> first|exact dec_true (by(try unfold plainI);(try unfold unresI);(try unfold hostI_t);(try unfold letterI);omega)|exact dec_false (by(try unfold plainI);(try unfold unresI);(try unfold hostI_t);(try unfold letterI);omega)|exact dec_iff (by(try unfold plainI);(try unfold unresI);(try unfold hostI_t);(try unfold letterI);omega)|exact dec_iff2 (by(try unfold plainI);(try unfold unresI);(try unfold hostI_t);(try unfold letterI);omega)|exact dec_iff3 (by(try unfold plainI);(try unfold unresI);(try unfold hostI_t);(try unfold letterI);omega)),rfl⟩
theorem pinpath_any:ByteFn 89 inPathC:=by
 intro c w;have HU:=hid (pplain_any c);rw [plain_int] at HU;rw [inPath_int];obtain⟨h0,h1⟩:=byte_int c;unfold byteV at HU ⊢;generalize (c.toNat:Int)=X at*;go_enter Tryz.func89,Tryz.ntmps89;go_wp2_with (go_at_call 128;(with_reducible refine(HU.out _).mono ?_);rintro e w1 ⟨rfl,rfl⟩);all_goals
  go_ret;exact⟨ret_bool (by(try simp only [beq_iff_eq,beq_eq_false_iff_ne,ne_eq] at*) <;> first|exact dec_true (p:=pathI X) (Or.inl (by omega))|exact beq_or (r:=pathI X) Iff.rfl|exact dec_iff (q:=pathI X) ⟨Or.inr,fun h=>h.resolve_left (by omega)⟩),rfl⟩
theorem psoft_any:ByteFn 90 softC:=by
 intro c w;rw [soft_int];obtain⟨h0,h1⟩:=byte_int c;unfold byteV;generalize (c.toNat:Int)=X at*;go_enter Tryz.func90,Tryz.ntmps90;go_wp2;all_goals
  go_ret;exact⟨ret_bool (by first|exact dec_false (by unfold softI;omega)|(rw [Bool.eq_iff_iff,decide_eq_true_iff (p:=softI X)];unfold softI;simp;omega)),rfl⟩
def digV (X:Int):Int:=if 65≤X∧X≤70 then X-55 else if 97≤X∧X≤102 then X-87 else if 48≤X∧X≤57 then X-48 else 0
def digO (X:Int):Bool:=decide (65≤X∧X≤70) || decide (97≤X∧X≤102) || decide (48≤X∧X≤57)
theorem dig_int (c:UInt8):hexI c=if digO (c.toNat:Int) then digV (c.toNat:Int) else -1:=all256 (P:=fun c=>hexI c=if digO (c.toNat:Int) then digV (c.toNat:Int) else -1) (by decide+kernel) c
theorem digit_any_t (X:Int) (h0:0≤X) (h1:X≤255) (w:World):Calls Tryz.prog 130 #[.int .u8 X] w fun e w'=>e= .returned (.tuple #[.int .u8 (digV X),.bool (digO X)])∧w'=w:=by
 go_enter Tryz.func130,Tryz.ntmps130;go_wp2;all_goals
  go_ret2;refine⟨ret_ib ?_ ?_,rfl⟩
  · unfold digV;(repeat' split) <;> omega
  · rw [Bool.eq_iff_iff];simp [digO];try omega
theorem digV_bd (X:Int):0≤digV X∧digV X≤15:=by unfold digV;(repeat' split) <;> omega
def codeN (s:B):Nat:=if codeI s<0 then 0 else (codeI s).toNat
def codeO (s:B):Bool:=decide (0≤codeI s)
theorem codeN_lt (s:B):codeN s<256:=by
 have:=codeI_bd s;unfold codeN;split <;> omega
theorem or_two (a b:Nat) (ha:a≤15) (hb:b≤15):bits BinOp.or IntKind.u8 ((a:Int)*16) (b:Int)=((a*16+b:Nat):Int):=by
 have key:∀ (i j:Fin 16),bits BinOp.or IntKind.u8 ((i.val:Int)*16) (j.val:Int)=((i.val*16+j.val:Nat):Int):=by decide+kernel
 exact key ⟨a,by omega⟩ ⟨b,by omega⟩
theorem pcode_any (s:B) (hs:s.length≤70368744177664) (w:World):Calls Tryz.prog 92 #[.string (str s)] w fun e w'=>e= .returned (.tuple #[.int .u8 (codeN s:Int),.bool (codeO s)])∧w'=w:=by
 obtain⟨n,hn⟩:∃ n,s.length=n:=⟨_,rfl⟩;obtain⟨S,hS⟩:∃ S,str s=S:=⟨_,rfl⟩;have hSn:S.size=n:=by rw [←hS,str_size,hn]
 by_cases hlt:2<n
 · have h0:0+2<s.length:=by rw [hn];omega
   have e:=drop3 h0;rw [List.drop_zero] at e;obtain⟨c,hc⟩:∃ c,s[0]=c:=⟨_,rfl⟩;obtain⟨a,ha⟩:∃ a,s[0+1]=a:=⟨_,rfl⟩;obtain⟨b,hb⟩:∃ b,s[0+2]=b:=⟨_,rfl⟩;have b0:∀ h:0<S.size,S[0]'h=c:=fun h=>by subst hS;exact hc
   have b1:∀ h:1<S.size,S[1]'h=a:=fun h=>by subst hS;exact ha
   have b2:∀ h:2<S.size,S[2]'h=b:=fun h=>by subst hS;exact hb
   rw [hc,ha,hb] at e;have HR:=hid (show codeI s=if c=37∧0≤hexI a∧0≤hexI b then hexI a*16+hexI b else -1 from by
    have hR:=codeI_at (c:=c) (a:=a) (b:=b) (r:=s.drop (0+3));rw [←e] at hR;exact hR)
   have HCN:=hid (show codeN s=if codeI s<0 then 0 else (codeI s).toNat from rfl);have HCO:=hid (show codeO s=decide (0≤codeI s) from rfl);rw [hS];rw [hn] at hs;obtain⟨R,hRR⟩:∃ R,codeI s=R:=⟨_,rfl⟩;obtain⟨RN,hRN⟩:∃ RN,codeN s=RN:=⟨_,rfl⟩;obtain⟨RO,hRO⟩:∃ RO,codeO s=RO:=⟨_,rfl⟩;rw [hRR] at HR HCN HCO;rw [hRN] at HCN ⊢;rw [hRO] at HCO ⊢;clear hn hS h0 e hc ha hb hRR hRN hRO;by_cases q37:c=37
   · subst q37;obtain⟨za0,za1⟩:=byte_int a;obtain⟨zb0,zb1⟩:=byte_int b;have HA:=hid (digit_any_t (a.toNat:Int) za0 za1);have HB:=hid (digit_any_t (b.toNat:Int) zb0 zb1);rw [dig_int a,dig_int b] at HR;obtain⟨va,hva⟩:∃ va:Nat,digV (a.toNat:Int)=(va:Int):=⟨(digV (a.toNat:Int)).toNat,by have:=digV_bd (a.toNat:Int);omega⟩;obtain⟨vb,hvb⟩:∃ vb:Nat,digV (b.toNat:Int)=(vb:Int):=⟨(digV (b.toNat:Int)).toNat,by have:=digV_bd (b.toNat:Int);omega⟩;have hba:va≤15:=by have:=digV_bd (a.toNat:Int);omega
     have hbb:vb≤15:=by have:=digV_bd (b.toNat:Int);omega
     rw [hva] at HA HR;rw [hvb] at HB HR;clear hva hvb za0 za1 zb0 zb1;cases ha:digO (a.toNat:Int) with
     |true=>
      rw [ha] at HA HR;cases hb:digO (b.toNat:Int) with
      |true=>
       rw [hb] at HB HR;have HV:=hid (show R=(va:Int)*16+(vb:Int) from by rw [HR.out];simp only [if_true];rw [if_pos ⟨trivial,by omega,by omega⟩]);have HV2:=hid (show RN=va*16+vb from by rw [HCN.out,HV.out,if_neg (by omega)];omega);have HV3:=hid (show RO=true from by rw [HCO.out,HV.out];exact decide_eq_true (by omega));have hor:=or_two va vb hba hbb;clear ha hb;go_enter Tryz.func92,Tryz.ntmps92;go_wp2_with (first
        |(go_at_call 130;(with_reducible refine(HA.out _).mono ?_);rintro e w1 ⟨rfl,rfl⟩)
        |(go_at_call 130;(with_reducible refine(HB.out _).mono ?_);rintro e w1 ⟨rfl,rfl⟩))
       go_ret2;rw [HV2.out,HV3.out];exact⟨rfl,rfl⟩
      |false=>
       rw [hb] at HB HR;have HV:=hid (show R= -1 from by rw [HR.out];simp);have HV2:=hid (show RN=0 from by rw [HCN.out,HV.out];rfl);have HV3:=hid (show RO=false from by rw [HCO.out,HV.out];rfl);clear ha hb;go_enter Tryz.func92,Tryz.ntmps92;go_wp2_with (first
        |(go_at_call 130;(with_reducible refine(HA.out _).mono ?_);rintro e w1 ⟨rfl,rfl⟩)
        |(go_at_call 130;(with_reducible refine(HB.out _).mono ?_);rintro e w1 ⟨rfl,rfl⟩))
       go_ret2;rw [HV2.out,HV3.out];exact⟨rfl,rfl⟩
     |false=>
      rw [ha] at HA HR;have HV:=hid (show R= -1 from by rw [HR.out];simp);have HV2:=hid (show RN=0 from by rw [HCN.out,HV.out];rfl);have HV3:=hid (show RO=false from by rw [HCO.out,HV.out];rfl);clear ha;go_enter Tryz.func92,Tryz.ntmps92;go_wp2_with (go_at_call 130;(with_reducible refine(HA.out _).mono ?_);rintro e w1 ⟨rfl,rfl⟩);go_ret2;rw [HV2.out,HV3.out];exact⟨rfl,rfl⟩
   · have HV:=hid (show R= -1 from by rw [HR.out,if_neg (fun q=>q37 q.1)]);have HV2:=hid (show RN=0 from by rw [HCN.out,HV.out];rfl);have HV3:=hid (show RO=false from by rw [HCO.out,HV.out];rfl);have z1:¬(c.toNat:Int)=37:=fun e=>q37 (UInt8.toNat_inj.1 (by show c.toNat=37;omega))
     have z2:((c.toNat:Int)== 37)=false:=by simpa using z1
     have z3:((c.toNat:Int) != 37)=true:=by simpa using z1
     clear q37;go_enter Tryz.func92,Tryz.ntmps92;go_wp2;go_ret2;rw [HV2.out,HV3.out];exact⟨rfl,rfl⟩
 · have HV:=hid (show codeI s= -1 from codeI_short (by rw [hn];omega));have HV2:=hid (show codeN s=0 from by unfold codeN;rw [HV.out];rfl);have HV3:=hid (show codeO s=false from by unfold codeO;rw [HV.out];rfl);rw [hS,HV2.out,HV3.out];rw [hn] at hs;clear hn hS;have z1:(n:Int)<3:=by omega
   go_enter Tryz.func92,Tryz.ntmps92;go_wp2;go_ret2;exact⟨rfl,rfl⟩
theorem mk_row (w:World) (n:Nat) (hn:n≤140737488355328):∃ w',(Instr.makeSlice 138 (.int .i64 0) (.int .i64 (n:Int))).run Tryz.prog w= .ok (.slice (some ⟨w.heap.size,0,none⟩) 0 n) w'∧Own w' w.heap.size (.slice (some ⟨w.heap.size,0,none⟩) 0 n) []∧Below w.heap.size w w':=by
 obtain⟨i0,hi0,hz0,hz1,hz2⟩:=info_parts infoB;obtain⟨w',h1,h2,h3⟩:=run_make_own (P:=Tryz.prog) w w.heap.size 138 5 i0 _ 1 Tryz.underlying138 hi0 hz0 hz1 .i64 .i64 n (by rw [hz2];omega) (by unfold maxLen;omega) (Nat.le_refl _);exact⟨w',h1,h2,below_grown h3⟩
theorem decP_some:∀ {l:B},codeO l=true→decP l=UInt8.ofNat (codeN l)::decP (l.drop 3)
 | [],h=>by simp [codeO,codeI] at h
 | [c],h=>by simp [codeO,codeI] at h
 | [c,d],h=>by simp [codeO,codeI] at h
 |c::a::b::r,h=>by
  unfold codeO at h;unfold codeN;rw [decP];cases hv:codeOf c a b with
  |none=>rw [codeI_none hv] at h;simp at h
  |some v=>
   rw [codeI_some hv,if_neg (by omega)];simp
theorem codeO_long {l:B} (h:codeO l=true):3≤l.length:=by
 rcases Nat.lt_or_ge l.length 3 with q|q
 · unfold codeO at h;rw [codeI_short q] at h;simp at h
 · exact q
theorem madeP_code {p q:UInt8→Bool}:∀ (l:B),madeP p q (37::l)=(codeO (37::l) && q (UInt8.ofNat (codeN (37::l))) && madeP p q (l.drop 2))
 | []=>by simp [madeP,codeO,codeI]
 | [d]=>by simp [madeP,codeO,codeI]
 |a::b::r=>by
  rw [madeP,if_pos rfl];unfold codeO codeN;cases hv:codeOf 37 a b with
  |none=>rw [codeI_none hv];simp
  |some v=>
   rw [codeI_some hv,if_neg (by omega)];simp
theorem madeP_plain {p q:UInt8→Bool}{c:UInt8} (h:c≠37):∀ (l:B),madeP p q (c::l)=(p c && madeP p q l)
 | []=>by simp [madeP,h]
 | [d]=>by simp [madeP,h]
 |a::b::r=>by rw [madeP,if_neg h]
theorem made_path (s:B) (hs:s.length≤35184372088832) (w:World):Calls Tryz.prog 88 #[.string (str s),.func (.func 89) #[] #[],.func (.func 90) #[] #[]] w fun e w'=>e= .returned (.bool (madeP inPathC softC s))∧w'=w:=by
 obtain⟨n,hn⟩:∃ n,s.length=n:=⟨_,rfl⟩;have HN:=hid hn;obtain⟨S,hS⟩:∃ S,str s=S:=⟨_,rfl⟩;have hSn:S.size=n:=by rw [←hS,str_size,hn]
 have HByte:=hid (show ∀ (k:Nat) (h:k<s.length) (h2:k<S.size),S[k]'h2=s[k]'h from fun k h h2=>by subst hS;rfl);have HCo:=hid (show ∀ i,i≤n→∀ w,_ from fun i hi=>pcode_any (s.drop i) (by rw [List.length_drop];omega));have HEx:=hid (show ∀ i,S.extract i n=str (s.drop i) from fun i=>by rw [←hS];exact ext_drop s i n hn);have HF0:=hid (show ∀ (c:UInt8) (w:World),_ from pinpath_any);have HG0:=hid (show ∀ (c:UInt8) (w:World),_ from psoft_any);obtain⟨R,hR0⟩:∃ R,madeP inPathC softC s=R:=⟨_,rfl⟩;have HR0:=hid hR0;rw [hn] at hs;rw [hS,hR0];clear hn hS hR0;go_enter Tryz.func88,Tryz.ntmps88;go_wp2;go_loopg [7] (n+1) (fun gk s7 wr=>∃ i:Nat,i≤n∧gk=n-i+1∧s7= .int .i64 (i:Int)∧R=madeP inPathC softC (s.drop i)∧wr=w)
 case atStart=>exact⟨0,by omega,rfl,rfl,HR0.out.symm,rfl⟩
 case round=>
  obtain⟨i,hi,rfl,rfl,hR,rfl⟩:=hrel;have HR:=hid hR;clear hR;by_cases hin:i<n
  · have hi1:i<s.length:=by rw [HN.out];exact hin
    obtain⟨y,hy⟩:∃ y,s[i]=y:=⟨_,rfl⟩;obtain⟨Y,hY⟩:∃ Y:Nat,y.toNat=Y:=⟨_,rfl⟩;have hY256:Y<256:=by rw [←hY];exact y.toNat_lt
    have hbyte:∀ h:i<S.size,(S[i]'h).toNat=Y:=fun h=>by rw [HByte.out i hi1 h,hy,hY]
    have HD:=hid (show s.drop i=y::s.drop (i+1) from by rw [List.drop_eq_getElem_cons hi1,hy]);rw [HD.out] at HR;clear hy hi1;by_cases hc:y=37
    · obtain rfl:Y=37:=by rw [←hY,hc];rfl
      subst hc;have hext:S.extract i n=str (s.drop i):=HEx.out i;have HCi:=hid (HCo.out i (by omega));have hZ:=codeN_lt (s.drop i);have HSt:=hid (show R=(codeO (s.drop i) && softC (UInt8.ofNat (codeN (s.drop i))) && madeP inPathC softC (s.drop (i+3))) from by rw [HR.out,madeP_code,HD.out,List.drop_drop]);have HLg:=hid (show codeO (s.drop i)=true→i+3≤n from fun h=>by have:=codeO_long h;rw [List.length_drop,HN.out] at this;omega);have HG:=hid (show ∀ (u:Unit) (w:World),_ from fun _=>HG0.out (UInt8.ofNat (codeN (s.drop i))));rw [show (byteV (UInt8.ofNat (codeN (s.drop i))))= .int .u8 ((codeN (s.drop i)):Int) from by unfold byteV;congr 2;simp;omega] at HG;obtain⟨Z,hZe⟩:∃ Z,codeN (s.drop i)=Z:=⟨_,rfl⟩;rw [hZe] at HCi hZ HSt HG;obtain⟨T,hT⟩:∃ T,str (s.drop i)=T:=⟨_,rfl⟩;rw [hT] at hext HCi;clear hZe hT hY;cases hO:codeO (s.drop i) with
      |true=>
       have hi3:i+3≤n:=HLg.out hO;rw [hO] at HCi HSt;cases hQ:softC (UInt8.ofNat Z) with
       |true=>
        have HNx:=hid (show R=madeP inPathC softC (s.drop (i+3)) from by rw [HSt.out,hQ];rfl);rw [hQ] at HG;clear hO hQ;go_wp2_with (first|(go_at_call 92;(with_reducible refine(HCi.out _).mono ?_);rintro e w1 ⟨rfl,rfl⟩)|(go_at_call 90;(with_reducible refine(HG.out () _).mono ?_);rintro e w1 ⟨rfl,rfl⟩));go_roundg (n-(i+3)+1)
        case measure=>omega
        case rel=>exact⟨i+3,by omega,rfl,by push_cast;go_num,HNx.out,rfl⟩
       |false=>
        have HV:=hid (show R=false from by rw [HSt.out,hQ];rfl);rw [hQ] at HG;clear hO hQ;go_wp2_with (first|(go_at_call 92;(with_reducible refine(HCi.out _).mono ?_);rintro e w1 ⟨rfl,rfl⟩)|(go_at_call 90;(with_reducible refine(HG.out () _).mono ?_);rintro e w1 ⟨rfl,rfl⟩));go_ret;rw [HV.out];exact⟨rfl,rfl⟩
      |false=>
       have HV:=hid (show R=false from by rw [HSt.out,hO];rfl);rw [hO] at HCi;clear hO;go_wp2_with ((go_at_call 92;(with_reducible refine(HCi.out _).mono ?_);rintro e w1 ⟨rfl,rfl⟩));go_ret;rw [HV.out];exact⟨rfl,rfl⟩
    · have z1:¬(Y:Int)=37:=fun e=>hc (UInt8.toNat_inj.1 (by rw [hY];show Y=37;omega))
      have z2:((Y:Int) != 37)=true:=by simpa using z1
      have HSt:=hid (show R=(inPathC y && madeP inPathC softC (s.drop (i+1))) from by rw [HR.out,madeP_plain hc]);have HF:=hid (show ∀ (u:Unit) (w:World),_ from fun _=>HF0.out y);rw [show byteV y= .int .u8 (Y:Int) from by unfold byteV;rw [hY]] at HF;clear hY hc;cases hQ:inPathC y with
      |true=>
       have HNx:=hid (show R=madeP inPathC softC (s.drop (i+1)) from by rw [HSt.out,hQ];rfl);rw [hQ] at HF;clear hQ;go_wp2_with ((go_at_call 89;(with_reducible refine(HF.out () _).mono ?_);rintro e w1 ⟨rfl,rfl⟩));go_roundg (n-(i+1)+1)
       case measure=>omega
       case rel=>exact⟨i+1,by omega,rfl,by push_cast;go_num,HNx.out,rfl⟩
      |false=>
       have HV:=hid (show R=false from by rw [HSt.out,hQ];rfl);rw [hQ] at HF;clear hQ;go_wp2_with ((go_at_call 89;(with_reducible refine(HF.out () _).mono ?_);rintro e w1 ⟨rfl,rfl⟩));go_ret;rw [HV.out];exact⟨rfl,rfl⟩
  · obtain rfl:n=i:=by omega
    have HV:=hid (show R=true from by rw [HR.out,List.drop_of_length_le (by rw [HN.out];exact Nat.le_refl _)];simp [madeP]);go_wp2;go_ret;rw [HV.out];exact⟨rfl,rfl⟩
end Go.Proofs.YtlmlljlappjjjaaGreatDoor
