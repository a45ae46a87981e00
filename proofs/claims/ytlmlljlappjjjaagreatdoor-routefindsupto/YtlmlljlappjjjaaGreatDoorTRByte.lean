/- A trie and the document's row side by side. -/
import Derived.Test.YtlmlljlappjjjaaGreatDoorSDFind
namespace Go.Proofs.YtlmlljlappjjjaaGreatDoor
open Go.RowKit
def chkN (p:B):Nat:=if checkP p then 0 else 3
theorem chk_prog (p:B) (hp:p.length≤4398046511104) (w:World) (hmx:MxAt w):Calls Tryz.prog 57 #[.string (str p)] w fun e w'=>e= .returned (errOf (chkN p))∧Below w.heap.size w w':=by
 refine(check_any p (by omega) w hmx).mono ?_;rintro e w' ⟨he,hb⟩;refine⟨?_,hb⟩;rw [he];unfold chkN;split <;> rfl
theorem chk_doc (p:B) (hp:p.length≤4398046511104) (w:World):Calls Tryz.prog 28 #[.string (str p)] w fun e w'=>e= .returned (.int .i64 (chkN p:Int))∧Below w.heap.size w w':=by
 refine(rcheck_any_r p hp w).mono ?_;rintro e w' ⟨he,hb⟩;refine⟨?_,hb⟩;rw [he];unfold chkN;split <;> rfl
def letterB (c:UInt8):Bool:=decide (97≤c∧c≤122) || decide (65≤c∧c≤90) || decide (48≤c∧c≤57)
def unres (c:UInt8):Bool:=letterB c || ([45,46,95,126]:B).contains c
def plainB (c:UInt8):Bool:=unres c || ([33,36,38,39,40,41,42,43,44,59,61,58,64]:B).contains c
def hexN (c:UInt8):Option Nat:=if 48≤c∧c≤57 then some (c.toNat-48) else if 97≤c∧c≤102 then some (c.toNat-87) else if 65≤c∧c≤70 then some (c.toNat-55) else none
def greatD (d:Nat):UInt8:=if d<10 then UInt8.ofNat (48+d) else UInt8.ofNat (55+d)
def codeOf (c a b:UInt8):Option UInt8:=if c=37 then (match hexN a,hexN b with
 |some x,some y=>some (UInt8.ofNat (x*16+y))
 |_,_=>none) else none
def codeB (v:UInt8):B:=[37,greatD (v.toNat / 16),greatD (v.toNat % 16)]
def made (o:B) (soft:Bool):B→Bool
 | []=>true
 | [c]=>plainB c || o.contains c
 | [c,d]=>(plainB c || o.contains c) && made o soft [d]
 |c::a::b::r=>if plainB c || o.contains c then made o soft (a::b::r) else match codeOf c a b with
  |none=>false
  |some v=>if soft && (decide (v<32) || v== 127) then false else made o soft r
def isPath (s:B):Bool:=decide (s.head? =some 47) && made [47] true s
def meantB:B→B
 | []=>[]
 | [c]=>[c]
 | [c,d]=>[c,d]
 |c::a::b::r=>match codeOf c a b with
  |none=>c::meantB (a::b::r)
  |some v=>(if unres v then [v] else codeB v)++meantB r
def decodeB:B→Option B
 | []=>some []
 | [c]=>if c=37 then none else some [c]
 | [c,d]=>if c=37 then none else (decodeB [d]).map (c:: ·)
 |c::a::b::r=>if c=37 then (match codeOf c a b with
  |none=>none
  |some v=>(decodeB r).map (v:: ·)) else (decodeB (a::b::r)).map (c:: ·)
def encodeB (s:B):B:=s.flatMap fun c=>if unres c then [c] else codeB c
def cutAt (x:UInt8):B→List B
 | []=>[[]]
 |b::l=>if b=x then []::cutAt x l else match cutAt x l with
  | []=>[[b]]
  |p::r=>(b::p)::r
def segs (s:B):List B:=(cutAt 47 s).tail
def joinS (l:List B):B:=l.flatMap fun s=>47::s
def dotsL:List B→List B→Option (List B)
 | [],out=>some out
 |s::r,out=>if s= [46] then (if r= [] then some (out++ [[]]) else dotsL r out)
  else if s= [46,46] then (if out= [] then none else if r= [] then some (out.dropLast++ [[]]) else dotsL r out.dropLast)
  else dotsL r (out++ [s])
def normalB (p:B):Option B:=if isPath p then (dotsL (segs (meantB p)) []).map joinS else none
theorem hex_great:∀ d:Fin 16,hexN (greatD d.1)=some d.1:=by decide
theorem great_small:∀ d:Fin 16,greatD d.1<97∧greatD d.1≠47∧greatD d.1≠37:=by decide
theorem hexN_lt {c:UInt8}{x:Nat} (h:hexN c=some x):x<16:=by
 unfold hexN at h;have hc:c.toNat<256:=c.toNat_lt;split at h
 · rename_i q
   have h1:c.toNat≤57:=by simpa using UInt8.le_iff_toNat_le.1 q.2
   simp only [Option.some.injEq] at h;omega
 split at h
 · rename_i q
   have h1:c.toNat≤102:=by simpa using UInt8.le_iff_toNat_le.1 q.2
   simp only [Option.some.injEq] at h;omega
 split at h
 · rename_i q
   have h1:c.toNat≤70:=by simpa using UInt8.le_iff_toNat_le.1 q.2
   simp only [Option.some.injEq] at h;omega
 · cases h
theorem code_self (v:UInt8):codeOf 37 (greatD (v.toNat / 16)) (greatD (v.toNat % 16))=some v:=by
 have hv:v.toNat<256:=v.toNat_lt;unfold codeOf;rw [if_pos rfl,hex_great ⟨v.toNat / 16,by omega⟩,hex_great ⟨v.toNat % 16,by omega⟩];simp only;congr 1;apply UInt8.toNat_inj.1;rw [UInt8.toNat_ofNat'];omega
theorem code_none {c a b:UInt8} (h:c≠37):codeOf c a b=none:=by unfold codeOf;rw [if_neg h]
theorem unres_ne (c:UInt8) (h:unres c=true):c≠37∧c≠47:=⟨fun e=>by subst e;revert h;decide,fun e=>by subst e;revert h;decide⟩
theorem plain_ne (c:UInt8) (h:plainB c=true):c≠37∧c≠47:=⟨fun e=>by subst e;revert h;decide,fun e=>by subst e;revert h;decide⟩
theorem unres_plain (c:UInt8) (h:unres c=true):plainB c=true:=by unfold plainB;rw [h];rfl
theorem dec_cons {c:UInt8} (h:c≠37):∀ l:B,decodeB (c::l)=(decodeB l).map (c:: ·)
 | []=>by simp [decodeB,h]
 | [d]=>by simp [decodeB,h]
 |a::b::r=>by simp [decodeB,h]
theorem dec_code (v:UInt8) (l:B):decodeB (codeB v++l)=(decodeB l).map (v:: ·):=by
 show decodeB (37::greatD (v.toNat / 16)::greatD (v.toNat % 16)::l)=_;simp [decodeB,code_self]
theorem decode_encode:∀ s:B,decodeB (encodeB s)=some s
 | []=>rfl
 |c::l=>by
  have ih:=decode_encode l;simp only [encodeB,List.flatMap_cons] at ih ⊢;split
  · rename_i h
    rw [List.singleton_append,dec_cons (unres_ne c h).1,ih];rfl
  · rw [dec_code,ih];rfl
inductive Clean:B→Prop
 |nil:Clean []
 |ch {c:UInt8}{l:B}:plainB c=true∨c=47→Clean l→Clean (c::l)
 |cd {v:UInt8}{l:B}:unres v=false→¬v<32→v≠127→Clean l→Clean (codeB v++l)
theorem meant_cons {c:UInt8} (h:c≠37):∀ l:B,meantB (c::l)=c::meantB l
 | []=>rfl
 | [d]=>rfl
 |a::b::r=>by simp only [meantB,code_none h]
theorem ch_ne {c:UInt8} (h:plainB c=true∨c=47):c≠37:=by
 rcases h with h|h
 · exact(plain_ne c h).1
 · subst h;decide
theorem ch_out {c:UInt8} (h:(plainB c || [47].contains c)=true):plainB c=true∨c=47:=by
 rw [Bool.or_eq_true] at h;rcases h with h|h
 · exact .inl h
 · simp at h;exact .inr h
theorem clean_meant:∀ p:B,made [47] true p=true→Clean (meantB p)
 | [],_=>.nil
 | [c],h=>by
  simp only [made] at h;exact .ch (ch_out h) .nil
 | [c,d],h=>by
  simp only [made,Bool.and_eq_true] at h;exact .ch (ch_out h.1) (.ch (ch_out h.2) .nil)
 |c::a::b::r,h=>by
  rw [made] at h;split at h
  · rename_i hc
    rw [meant_cons (ch_ne (ch_out hc))];exact .ch (ch_out hc) (clean_meant (a::b::r) h)
  · cases hv:codeOf c a b with
    |none=>rw [hv] at h;cases h
    |some v=>
     rw [hv] at h;simp only at h;split at h
     · cases h
     · rename_i hs
       simp only [Bool.and_eq_true,Bool.or_eq_true,decide_eq_true_eq,beq_iff_eq,true_and,not_or] at hs;simp only [meantB,hv];cases hu:unres v with
       |true=>exact .ch (.inl (unres_plain v hu)) (clean_meant r h)
       |false=>exact .cd hu hs.1 hs.2 (clean_meant r h)
theorem cut_ne (x:UInt8) (l:B):cutAt x l≠ []:=by
 cases l with
 |nil=>simp [cutAt]
 |cons b l=>unfold cutAt;split <;> (try split) <;> simp
theorem cut_none {x:UInt8}:∀ l:B,(∀ y∈l,y≠x)→cutAt x l= [l]
 | [],_=>rfl
 |b::l,h=>by
  rw [cutAt,if_neg (h b (by simp)),cut_none l (fun y hy=>h y (by simp [hy]))]
theorem cut_at {x:UInt8}:∀ (p l:B),(∀ y∈p,y≠x)→cutAt x (p++x::l)=p::cutAt x l
 | [],l,_=>by rw [List.nil_append,cutAt,if_pos rfl]
 |b::p,l,h=>by
  rw [List.cons_append,cutAt,if_neg (h b (by simp)),cut_at p l (fun y hy=>h y (by simp [hy]))]
theorem cut_no {x:UInt8}:∀ (l p:B),p∈cutAt x l→∀ y∈p,y≠x
 | [],p,h,y,hy=>by simp [cutAt] at h;subst h;simp at hy
 |b::l,p,h,y,hy=>by
  unfold cutAt at h;split at h
  · rcases List.mem_cons.1 h with rfl|h
    · simp at hy
    · exact cut_no l p h y hy
  · rename_i hb
    split at h
    · simp at h;subst h;simp at hy;rw [hy];exact hb
    · rename_i q r hq
      rcases List.mem_cons.1 h with rfl|h
      · rcases List.mem_cons.1 hy with rfl|hy
        · exact hb
        · exact cut_no l q (by rw [hq];simp) y hy
      · exact cut_no l p (by rw [hq];simp [h]) y hy
def Whole (l:List B):Prop:=∀ s∈l,∀ y∈s,y≠(47:UInt8)
theorem join_segs:∀ l:B,∃ a,cutAt 47 l=a::segs l∧l=a++joinS (segs l)
 | []=>⟨[],rfl,rfl⟩
 |b::l=>by
  obtain⟨a,h1,h2⟩:=join_segs l;by_cases hb:b=47
  · subst hb;have e:segs (47::l)=cutAt 47 l:=by unfold segs;rw [cutAt,if_pos rfl];rfl
    refine⟨[],by rw [e,cutAt,if_pos rfl],?_⟩;rw [e,h1];simp only [joinS,List.flatMap_cons,List.nil_append,List.cons_append];rw [←joinS,←h2]
  · have e:cutAt 47 (b::l)=(b::a)::segs l:=by rw [cutAt,if_neg hb,h1]
    have e2:segs (b::l)=segs l:=by
     show (cutAt 47 (b::l)).tail=segs l;rw [e];rfl
    exact⟨b::a,by rw [e2];exact e,by rw [e2,List.cons_append,←h2]⟩
theorem segs_whole (l:B):Whole (segs l):=fun s hs=>cut_no l s (List.mem_of_mem_tail hs)
theorem join_app (a b:List B):joinS (a++b)=joinS a++joinS b:=by simp [joinS]
theorem clean_split {m:B} (h:Clean m):∀ (a b:B),m=a++47::b→Clean a∧Clean b:=by
 induction h with
 |nil=>intro a b e;cases a <;> simp at e
 | @ch c l hc hl ih=>
  intro a b e;cases a with
  |nil=>
   simp only [List.nil_append,List.cons.injEq] at e;rw [←e.2];exact⟨.nil,hl⟩
  |cons d a=>
   simp only [List.cons_append,List.cons.injEq] at e;obtain⟨h1,h2⟩:=ih a b e.2;rw [←e.1];exact⟨.ch hc h1,h2⟩
 | @cd v l hu h1 h2 hl ih=>
  intro a b e;have hv:v.toNat<256:=v.toNat_lt;obtain⟨g1,g2⟩:=(great_small ⟨v.toNat / 16,by omega⟩);obtain⟨g3,g4⟩:=(great_small ⟨v.toNat % 16,by omega⟩);have e':(37:UInt8)::greatD (v.toNat / 16)::greatD (v.toNat % 16)::l=a++47::b:=e;cases a with
  |nil=>simp at e'
  |cons a0 a=>
   simp only [List.cons_append,List.cons.injEq] at e';obtain⟨rfl,e'⟩:=e';cases a with
   |nil=>simp at e';exact absurd e'.1 g2.1
   |cons a1 a=>
    simp only [List.cons_append,List.cons.injEq] at e';obtain⟨rfl,e'⟩:=e';cases a with
    |nil=>simp at e';exact absurd e'.1 g4.1
    |cons a2 a=>
     simp only [List.cons_append,List.cons.injEq] at e';obtain⟨rfl,e'⟩:=e';obtain⟨i1,i2⟩:=ih a b e';exact⟨.cd hu h1 h2 i1,i2⟩
theorem clean_join:∀ (l:List B) (a:B),Clean (a++joinS l)→Whole l→(∀ s∈l,Clean s)∧Clean a
 | [],a,h,_=>by simpa [joinS] using h
 |s::l,a,h,hw=>by
  simp only [joinS,List.flatMap_cons,List.cons_append] at h;obtain⟨h1,h2⟩:=clean_split h a _ rfl;obtain⟨h3,h4⟩:=clean_join l s h2 (fun t ht=>hw t (by simp [ht]));refine⟨fun t ht=>?_,h1⟩;rcases List.mem_cons.1 ht with rfl|ht
  · exact h4
  · exact h3 t ht
def NoDot (l:List B):Prop:=∀ s∈l,s≠ [46]∧s≠ [46,46]
theorem dots_out (P:B→Prop) (h0:P []):∀ (l out o:List B),dotsL l out=some o→(∀ s∈l,s≠ [46]→s≠ [46,46]→P s)→(∀ s∈out,P s)→(∀ s∈o,P s)∧(l≠ []∨out≠ []→o≠ [])
  | [],out,o,h,_,ho=>by
    simp only [dotsL,Option.some.injEq] at h
    subst h
    exact⟨ho,fun q=>q.resolve_left (by simp)⟩
  |s::r,out,o,h,hl,ho=>by
    have last:∀ x:List B,(∀ s∈x,P s)→(∀ s∈x++ [[]],P s):=fun x hx s hs=>by
      rcases List.mem_append.1 hs with hs|hs
      · exact hx s hs
      · simp at hs
        rw [hs]
        exact h0
    have drop:∀ s∈out.dropLast,P s:=fun s hs=>ho s (List.dropLast_subset _ hs)
    rw [dotsL] at h
    split at h
    · split at h
      · simp only [Option.some.injEq] at h
        subst h
        exact⟨last _ ho,fun _=>by simp⟩
      · rename_i hr
        obtain⟨a1,a2⟩:=dots_out P h0 r out o h (fun t ht=>hl t (by simp [ht])) ho
        exact⟨a1,fun _=>a2 (.inl hr)⟩
    · rename_i hs1
      split at h
      · split at h
        · cases h
        · split at h
          · simp only [Option.some.injEq] at h
            subst h
            exact⟨last _ drop,fun _=>by simp⟩
          · rename_i hr
            obtain⟨a1,a2⟩:=dots_out P h0 r _ o h (fun t ht=>hl t (by simp [ht])) drop
            exact⟨a1,fun _=>a2 (.inl hr)⟩
      · rename_i hs2
        obtain⟨a1,a2⟩:=dots_out P h0 r _ o h (fun t ht=>hl t (by simp [ht])) (fun t ht=>by
          rcases List.mem_append.1 ht with ht|ht
          · exact ho t ht
          · simp at ht
            rw [ht]
            exact hl s (by simp) hs1 hs2)
        exact⟨a1,fun _=>a2 (.inr (by simp))⟩
structure Meant (s:B) (o:List B):Prop where
 eq:s=joinS o
 ne:o≠ []
 clean:∀ t∈o,Clean t
 whole:Whole o
 nodot:NoDot o
theorem normal_meant {p s:B} (h:normalB p=some s):∃ o,Meant s o:=by
 unfold normalB at h;split at h
 · rename_i hp
   cases hd:dotsL (segs (meantB p)) [] with
   |none=>rw [hd] at h;cases h
   |some o=>
    rw [hd] at h;simp only [Option.map_some,Option.some.injEq] at h;simp only [isPath,Bool.and_eq_true,decide_eq_true_eq] at hp;have hm:=clean_meant p hp.2;obtain⟨a,ha1,ha2⟩:=join_segs (meantB p);have hw:=segs_whole (meantB p);have hc:∀ t∈segs (meantB p),Clean t:=by
     have:Clean (a++joinS (segs (meantB p))):=by rw [←ha2];exact hm
     exact(clean_join _ a this hw).1
    have hne:segs (meantB p)≠ []:=by
     cases p with
     |nil=>simp at hp
     |cons c l=>
      simp only [List.head?_cons,Option.some.injEq] at hp;obtain⟨rfl,_⟩:=hp;rw [meant_cons (by decide)];show (cutAt 47 (47::meantB l)).tail≠ [];rw [cutAt,if_pos rfl];exact cut_ne 47 _
    obtain⟨h1,h2⟩:=dots_out (fun t=>Clean t∧(∀ y∈t,y≠(47:UInt8))∧t≠ [46]∧t≠ [46,46]) ⟨.nil,by simp,by simp,by simp⟩ _ _ _ hd (fun t ht e1 e2=>⟨hc t ht,hw t ht,e1,e2⟩) (by simp);exact⟨o,h.symm,h2 (.inl hne),fun t ht=>(h1 t ht).1,fun t ht=>(h1 t ht).2.1,fun t ht=>(h1 t ht).2.2⟩
 · cases h
def decP:B→B
 | []=>[]
 | [c]=>[c]
 | [c,d]=>[c,d]
 |c::a::b::r=>match codeOf c a b with
  |none=>c::decP (a::b::r)
  |some v=>v::decP r
def madeP (p q:UInt8→Bool):B→Bool
 | []=>true
 | [c]=>decide (c≠37) && p c
 | [c,d]=>decide (c≠37) && p c && (decide (d≠37) && p d)
 |c::a::b::r=>if c=37 then (match codeOf c a b with
  |none=>false
  |some v=>q v && madeP p q r) else p c && madeP p q (a::b::r)
def softC (c:UInt8):Bool:=decide (32≤c) && decide (c≠127)
def inPathC (c:UInt8):Bool:=c== 47 || plainB c
theorem inPath_eq (c:UInt8):inPathC c=(plainB c || ([47]:B).contains c):=by
 unfold inPathC;rw [Bool.or_comm];simp only [List.contains_cons,List.contains_nil,Bool.or_false]
theorem in37 (o:B) (h:o.contains 37=false):(plainB 37 || o.contains 37)=false:=by rw [h];decide
theorem made_is {p q:UInt8→Bool}{o:B}{soft:Bool} (hp:∀ c,p c=(plainB c || o.contains c)) (ho:o.contains 37=false) (hq:∀ v,q v= !(soft && (decide (v<32) || v== 127))):∀ s:B,madeP p q s=made o soft s
 | []=>rfl
 | [c]=>by
  simp only [madeP,made];rw [hp];by_cases hc:c=37
  · rw [hc,in37 o ho];simp
  · simp [hc]
 | [c,d]=>by
  simp only [madeP,made];rw [hp,hp];by_cases hc:c=37
  · rw [hc,in37 o ho];simp
  · by_cases hd:d=37
    · rw [hd,in37 o ho];simp
    · simp [hc,hd]
 |c::a::b::r=>by
  rw [madeP,made];by_cases hc:c=37
  · rw [if_pos hc,if_neg (by rw [hc,in37 o ho];simp)];cases hv:codeOf c a b with
    |none=>rfl
    |some v=>
     simp only;rw [hq,made_is hp ho hq r];cases (soft && (decide (v<32) || v== 127)) <;> rfl
  · rw [if_neg hc,hp,made_is hp ho hq (a::b::r)];by_cases h:(plainB c || o.contains c)=true
    · rw [if_pos h,h];rfl
    · rw [if_neg h,code_none hc];rw [Bool.not_eq_true] at h;rw [h];rfl
theorem path_made (s:B):madeP inPathC softC s=made [47] true s:=by
 refine made_is inPath_eq (by decide) (fun v=>?_) s;unfold softC;rw [Bool.eq_iff_iff];simp only [Bool.and_eq_true,decide_eq_true_eq,Bool.not_eq_true',Bool.true_and,Bool.or_eq_false_iff,decide_eq_false_iff_not,beq_eq_false_iff_ne,ne_eq,UInt8.not_lt]
def toCome (rest:B) (more:Bool):List B:=if more then cutAt 47 rest else []
theorem come_cut (rest:B):toCome rest true=(cutF 47 rest).1::toCome (cutF 47 rest).2.1 (cutF 47 rest).2.2:=by
 show cutAt 47 rest=_;obtain⟨h1,h2,h3⟩:=cutF_spec 47 rest;cases h:(cutF 47 rest).2.2 with
 |true=>
  rw [h] at h2;simp only [if_true] at h2;conv=>lhs;rw [h2]
  rw [cut_at _ _ h1];rfl
 |false=>
  rw [h] at h2;simp only [Bool.false_eq_true,if_false,List.append_nil] at h2;conv=>lhs;rw [h2]
  rw [cut_none _ h1];rfl
theorem come_nil (rest:B) (more:Bool):toCome rest more= []↔more=false:=by
 cases more with
 |true=>simp [toCome,cut_ne]
 |false=>simp [toCome]
theorem letter_int (c:UInt8):letterB c=decide ((97≤(c.toNat:Int)∧(c.toNat:Int)≤122)∨(65≤(c.toNat:Int)∧(c.toNat:Int)≤90)∨(48≤(c.toNat:Int)∧(c.toNat:Int)≤57)):=by
 unfold letterB;rw [Bool.eq_iff_iff];simp only [Bool.or_eq_true,decide_eq_true_eq,UInt8.le_iff_toNat_le];simp;omega
set_option maxHeartbeats 400000 in
theorem letter_any_t (c:UInt8) (w:World):Calls Tryz.prog 84 #[byteV c] w fun e w'=>e= .returned (.bool (letterB c))∧w'=w:=by
 rw [letter_int];have h1:c.toNat<256:=c.toNat_lt;obtain⟨X,hX⟩:∃ X,c.toNat=X:=⟨_,rfl⟩;unfold byteV;rw [hX] at h1 ⊢;clear hX;go_enter Tryz.func84,Tryz.ntmps84;go_wp2;all_goals
  go_ret;exact⟨ret_bool (by first|rfl|(rw [Bool.eq_iff_iff];first|omega|(simp;omega)|simp)),rfl⟩
theorem con_take {s:B}{c:UInt8}{i:Nat} (h:i<s.length):(s.take (i+1)).contains c=((s.take i).contains c || s[i]== c):=by
 rw [List.take_add_one,List.getElem?_eq_getElem h];simp only [Option.toList_some,List.contains_eq_any_beq,List.any_append,List.any_cons,List.any_nil,Bool.or_false];congr 1;exact Bool.eq_iff_iff.2 ⟨fun h=>by rw [beq_iff_eq] at h ⊢;exact h.symm,fun h=>by rw [beq_iff_eq] at h ⊢;exact h.symm⟩
set_option maxHeartbeats 2000000 in
theorem among_any (c:UInt8) (s:B) (hs:s.length≤70368744177664) (w:World):Calls Tryz.prog 85 #[byteV c,.string (str s)] w fun e w'=>e= .returned (.bool (s.contains c))∧w'=w:=by
 have h1:c.toNat<256:=c.toNat_lt;obtain⟨n,hn⟩:∃ n,s.length=n:=⟨_,rfl⟩;have HN:=hid hn;obtain⟨S,hS⟩:∃ S,str s=S:=⟨_,rfl⟩;have hSn:S.size=n:=by rw [←hS,str_size,hn]
 have HByte:=hid (show ∀ (k:Nat) (h:k<s.length) (h2:k<S.size),S[k]'h2=s[k]'h from fun k h h2=>by subst hS;rfl);have HS:=hid hS;obtain⟨R,hR⟩:∃ R,s.contains c=R:=⟨_,rfl⟩;have HR:=hid hR;rw [hn] at hs;rw [hS,hR];clear hn hS hR;go_enter Tryz.func85,Tryz.ntmps85;go_wp2;go_loopg [5] (n+1) (fun gk s5 wr=>∃ i:Nat,i≤n∧gk=n-i+1∧s5= .int .i64 (i:Int)∧(s.take i).contains c=false∧wr=w)
 case atStart=>exact⟨0,by omega,rfl,rfl,rfl,rfl⟩
 case round=>
  obtain⟨i,hi,rfl,rfl,hcon,rfl⟩:=hrel;have HCo:=hid hcon;clear hcon;by_cases hin:i<n
  · have hi1:i<s.length:=by rw [HN.out];exact hin
    obtain⟨y,hy⟩:∃ y,s[i]=y:=⟨_,rfl⟩;have hbyte:∀ h:i<S.size,(S[i]'h)=y:=fun h=>by rw [HByte.out i hi1 h,hy]
    have HSt:=hid (con_take (c:=c) hi1);rw [hy,HCo.out,Bool.false_or] at HSt;have HMem:=hid (show y=c→R=true from fun e=>by rw [←HR.out,←e,←hy];simp);clear hy hi1;by_cases hyc:y=c
    · have HT:=hid (HMem.out hyc);subst hyc;go_wp2;go_ret;rw [HT.out];exact⟨rfl,rfl⟩
    · have hb1:(y== c)=false:=by simpa using hyc
      rw [hb1] at HSt;have hb2:((y.toNat:Int)== (c.toNat:Int))=false:=by
       simp only [beq_eq_false_iff_ne,ne_eq];intro e;exact hyc (UInt8.toNat_inj.1 (by omega))
      have hb3:¬(y.toNat:Int)=(c.toNat:Int):=by simpa using hb2
      clear hb1 hyc;go_wp2;go_roundg (n-(i+1)+1)
      case measure=>omega
      case rel=>exact⟨i+1,by omega,rfl,by push_cast;rfl,HSt.out,rfl⟩
  · obtain rfl:n=i:=by omega
    have HT:=hid (show R=false from by rw [←HR.out];have:=HCo.out;rw [List.take_of_length_le (by rw [HN.out];exact Nat.le_refl _)] at this;exact this);go_wp2;go_ret;rw [HT.out];exact⟨rfl,rfl⟩
theorem unres_any (c:UInt8) (w:World):Calls Tryz.prog 114 #[byteV c] w fun e w'=>e= .returned (.bool (unres c))∧w'=w:=by
 have HL:=hid (letter_any_t c);have HA:=hid (among_any c [45,46,95,126] (by decide));have e0:unres c=(letterB c || ([45,46,95,126]:B).contains c):=rfl;rw [e0];obtain⟨l,hl⟩:∃ l,letterB c=l:=⟨_,rfl⟩;obtain⟨m,hm⟩:∃ m,([45,46,95,126]:B).contains c=m:=⟨_,rfl⟩;rw [hl] at HL;rw [hm] at HA;rw [hl,hm];obtain⟨V,hV⟩:∃ V,byteV c=V:=⟨_,rfl⟩;rw [hV] at HL HA ⊢;clear hl hm hV e0;cases l with
 |true=>
  go_enter Tryz.func114,Tryz.ntmps114;go_wp2_with (go_at_call 84;(with_reducible refine(HL.out _).mono ?_);rintro e w1 ⟨rfl,rfl⟩);go_ret;exact⟨rfl,rfl⟩
 |false=>
  go_enter Tryz.func114,Tryz.ntmps114;go_wp2_with (first|(go_at_call 84;(with_reducible refine(HL.out _).mono ?_);rintro e w1 ⟨rfl,rfl⟩)|(go_at_call 85;(with_reducible refine(HA.out _).mono ?_);rintro e w2 ⟨rfl,rfl⟩));go_ret;exact⟨rfl,rfl⟩
theorem plain_any (c:UInt8) (w:World):Calls Tryz.prog 144 #[byteV c] w fun e w'=>e= .returned (.bool (plainB c))∧w'=w:=by
 have HL:=hid (unres_any c);have HA:=hid (among_any c [33,36,38,39,40,41,42,43,44,59,61,58,64] (by decide));have e0:plainB c=(unres c || ([33,36,38,39,40,41,42,43,44,59,61,58,64]:B).contains c):=rfl;rw [e0];obtain⟨l,hl⟩:∃ l,unres c=l:=⟨_,rfl⟩;obtain⟨m,hm⟩:∃ m,([33,36,38,39,40,41,42,43,44,59,61,58,64]:B).contains c=m:=⟨_,rfl⟩;rw [hl] at HL;rw [hm] at HA;rw [hl,hm];obtain⟨V,hV⟩:∃ V,byteV c=V:=⟨_,rfl⟩;rw [hV] at HL HA ⊢;clear hl hm hV e0;cases l with
 |true=>
  go_enter Tryz.func144,Tryz.ntmps144;go_wp2_with (go_at_call 114;(with_reducible refine(HL.out _).mono ?_);rintro e w1 ⟨rfl,rfl⟩);go_ret;exact⟨rfl,rfl⟩
 |false=>
  go_enter Tryz.func144,Tryz.ntmps144;go_wp2_with (first|(go_at_call 114;(with_reducible refine(HL.out _).mono ?_);rintro e w1 ⟨rfl,rfl⟩)|(go_at_call 85;(with_reducible refine(HA.out _).mono ?_);rintro e w2 ⟨rfl,rfl⟩));go_ret;exact⟨rfl,rfl⟩
end Go.Proofs.YtlmlljlappjjjaaGreatDoor
