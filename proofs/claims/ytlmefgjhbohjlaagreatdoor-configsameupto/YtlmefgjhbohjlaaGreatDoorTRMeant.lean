/- UTF-8 by its characters; a text in quotation marks is read as it was. -/
import Derived.Test.YtlmefgjhbohjlaaGreatDoorJWr
namespace Go.Proofs.YtlmefgjhbohjlaaGreatDoor
theorem valid_uni (l:B) (h:l≠ []):Lib.validD l=if (uni l).1=0 then false else Lib.validD (l.drop (uni l).1):=by
 rw [Lib.validD_step l h];obtain⟨h1,h2⟩:=uni_decode l h;by_cases h0:(uni l).1=0
 · rw [if_pos (h1 h0),if_pos h0]
 · rw [if_neg (h2 h0).2,if_neg h0,(h2 h0).1]
theorem tail_ok:∀ (n lo hi:Nat) (t:B) (i:Nat),128≤lo→tailBad n lo hi t i=none→n≤t.length∧(∀ x∈t.take n,128≤x.toNat)∧∀ r,tailBad n lo hi (t.take n++r) i=none
 |0,lo,hi,t,i,_,_=>⟨Nat.zero_le _,by simp,by simp [tailBad]⟩
 |n+1,lo,hi,[],i,_,h=>by simp [tailBad] at h
 |n+1,lo,hi,x::t,i,hlo,h=>by
  simp only [tailBad] at h;split at h
  · cases h
  · rename_i hx
    obtain⟨a,b,c⟩:=tail_ok n 128 191 t (i+1) (Nat.le_refl _) h;refine⟨by simp only [List.length_cons];omega,?_,fun r=>?_⟩
    · intro y hy;simp only [List.take_succ_cons,List.mem_cons] at hy;rcases hy with rfl|hy
      · omega
      · exact b y hy
    · simp only [List.take_succ_cons,List.cons_append,tailBad,if_neg hx];exact c r
theorem lead_lo (c:Nat) (h:(lead c).2.2≠0):128≤(lead c).1:=by
 unfold lead at h ⊢
 (repeat' split) <;> simp_all
theorem uni_app (l:B) (h:(uni l).1≠0):∃ c t,l=c::t∧(uni l).1≤l.length∧(∀ r,uni (l.take (uni l).1++r)=((uni l).1,0))∧(c.toNat<128∧(uni l).1=1∨128≤c.toNat∧∀ x∈l.take (uni l).1,128≤x.toNat):=by
 rcases l with _|⟨c,t⟩
 · simp [uni] at h
 refine⟨c,t,rfl,?_⟩;by_cases hc:c.toNat<128
 · have e:uni (c::t)=(1,0):=by simp [uni,hc]
   rw [e];exact⟨by simp,fun r=>by simp [uni,hc],.inl ⟨hc,rfl⟩⟩
 · by_cases hn:(lead c.toNat).2.2=0
   · simp [uni,hc,hn] at h
   · cases ht:tailBad (lead c.toNat).2.2 (lead c.toNat).1 (lead c.toNat).2.1 t 1 with
     |some i=>simp [uni,hc,hn,ht] at h
     |none=>
      have e:uni (c::t)=((lead c.toNat).2.2+1,0):=by simp [uni,hc,hn,ht]
      obtain⟨a,b,d⟩:=tail_ok _ _ _ _ _ (lead_lo _ hn) ht;rw [e];refine⟨by simp only [List.length_cons];omega,fun r=>?_,.inr ⟨by omega,fun x hx=>?_⟩⟩
      · simp only [List.take_succ_cons,List.cons_append,uni,if_neg hc,if_neg hn,d r]
      · simp only [List.take_succ_cons,List.mem_cons] at hx;rcases hx with rfl|hx
        · omega
        · exact b x hx
theorem u8_ne_j {c:UInt8}{n:Nat} (h:c.toNat≠n) (d:UInt8) (hd:d.toNat=n):c≠d:=fun e=>h (by rw [e,hd])
theorem esc_plain (c:UInt8) (h:32≤c.toNat) (h1:c.toNat≠34) (h2:c.toNat≠92):esc c= [c]:=by
 have a1:=u8_ne_j h1 34 rfl;have a2:=u8_ne_j h2 92 rfl;have a3:c≠10:=u8_ne_j (n:=10) (by omega) 10 rfl;have a4:c≠13:=u8_ne_j (n:=13) (by omega) 13 rfl;have a5:c≠9:=u8_ne_j (n:=9) (by omega) 9 rfl;unfold esc;rw [if_neg (by simp [a1,a2]),if_neg a3,if_neg a4,if_neg a5,if_neg (by omega)]
theorem escs_high:∀ (l r:B),(∀ x∈l,128≤x.toNat)→escs (l++r)=l++escs r
 | [],r,_=>rfl
 |x::l,r,h=>by
  have hx:=h x (by simp);simp only [List.cons_append,escs];rw [esc_plain x (by omega) (by omega) (by omega),escs_high l r (fun y hy=>h y (by simp [hy]))];rfl
theorem hexv_hexD:∀ k,k<16→hexv (hexD k)=some k:=by decide
theorem encode_one (c:UInt8) (h:c.toNat<128):Lib.encodeRune (c.toNat:Int)= [c]:=by
 unfold Lib.encodeRune;rw [Lib.encodeRuneZ_one (by omega) (by omega)];simp
theorem char_esc (c:UInt8) (h:c.toNat<128) (r:B):char (esc c++r)= .ok [c] r∧nx (esc c++r)≠34:=by
 by_cases h1:c=34∨c=92
 · have e:esc c= [92,c]:=by unfold esc;rw [if_pos h1]
   rw [e];refine⟨?_,by simp [nx]⟩;have e2:escape (c::r)= .ok c.toNat r:=by rcases h1 with rfl|rfl <;> rfl
   show char (92::c::r)=_;simp only [char];rw [if_neg (by decide),if_pos True.intro,e2];simp only;rw [encode_one c h]
 by_cases h2:c=10
 · subst h2;exact⟨rfl,show (92:UInt8)≠34 by decide⟩
 by_cases h3:c=13
 · subst h3;exact⟨rfl,show (92:UInt8)≠34 by decide⟩
 by_cases h4:c=9
 · subst h4;exact⟨rfl,show (92:UInt8)≠34 by decide⟩
 by_cases h5:c.toNat<32
 · have e:esc c= [92,117,48,48,hexD (c.toNat / 16),hexD (c.toNat % 16)]:=by unfold esc;rw [if_neg h1,if_neg h2,if_neg h3,if_neg h4,if_pos h5]
   rw [e];refine⟨?_,by simp [nx]⟩;have e2:four 4 0 (48::48::hexD (c.toNat / 16)::hexD (c.toNat % 16)::r)= .ok c.toNat r:=by
    have z:hexv 48=some 0:=by decide
    simp only [four,z,hexv_hexD (c.toNat / 16) (by omega),hexv_hexD (c.toNat % 16) (by omega)];congr 1;omega
   have e3:code (48::48::hexD (c.toNat / 16)::hexD (c.toNat % 16)::r)= .ok c.toNat r:=by
    unfold code;rw [e2];simp only;rw [if_neg (by omega),if_neg (by omega)]
   show char (92::117::48::48::hexD (c.toNat / 16)::hexD (c.toNat % 16)::r)=_;simp only [char];rw [if_neg (by decide),if_pos True.intro];have e4:escape (117::48::48::hexD (c.toNat / 16)::hexD (c.toNat % 16)::r)= .ok c.toNat r:=by
    show code _=_;exact e3
   rw [e4];simp only;rw [encode_one c h]
 · have n1:c≠34:=fun e=>h1 (.inl e)
   have n2:c≠92:=fun e=>h1 (.inr e)
   have e:esc c= [c]:=by unfold esc;rw [if_neg h1,if_neg h2,if_neg h3,if_neg h4,if_neg h5]
   rw [e];refine⟨?_,n1⟩;have e2:uni (c::r)=(1,0):=by simp [uni,h]
   show char (c::r)=_;simp only [char,e2];rw [if_neg h5,if_neg n2,if_neg (by decide)];rfl
theorem chars_escs:∀ (n:Nat) (s:B),s.length≤n→Lib.validD s=true→∀ f,s.length<f→∀ rest,chars f (escs s++34::rest)= .ok s rest:=by
 intro n
 induction n with
 |zero=>
  intro s hs _ f hf rest;cases s with
  |nil=>
   cases f with
   |zero=>omega
   |succ f=>simp [chars,escs,nx]
  |cons c t=>simp at hs
 |succ n ih=>
  intro s hs hv f hf rest;cases s with
  |nil=>
   cases f with
   |zero=>omega
   |succ f=>simp [chars,escs,nx]
  |cons c t=>
   cases f with
   |zero=>omega
   |succ f=>
    simp only [List.length_cons] at hs hf;rw [valid_uni (c::t) (by simp)] at hv;have h0:(uni (c::t)).1≠0:=by
     intro e;rw [if_pos e] at hv;cases hv
    rw [if_neg h0] at hv;obtain⟨c',t',e,hle,happ,hcase⟩:=uni_app (c::t) h0;simp only [List.cons.injEq] at e;obtain⟨rfl,rfl⟩:=e;rcases hcase with ⟨hc,h1⟩|⟨hc,hhigh⟩
    · obtain⟨e1,e2⟩:=char_esc c hc (escs t++34::rest);rw [h1] at hv;simp only [List.drop_succ_cons,List.drop_zero] at hv;have i:=ih t (by omega) hv f (by omega) rest;simp only [escs,List.append_assoc,chars];rw [if_neg e2,e1];simp only [i];rfl
    · obtain⟨m,hm⟩:∃ m,(uni (c::t)).1=m+1:=⟨(uni (c::t)).1-1,by have:=Nat.pos_of_ne_zero h0;omega⟩;rw [hm] at hv hle happ hhigh;simp only [List.drop_succ_cons,List.take_succ_cons,List.length_cons] at hv hle happ hhigh;have hsplit:c::t=(c::t.take m)++t.drop m:=by simp
      have i:=ih (t.drop m) (by simp;omega) hv f (by simp;omega) rest;have e3:escs (c::t)=(c::t.take m)++escs (t.drop m):=by
       rw [hsplit];exact escs_high _ _ hhigh
      have u:=happ (escs (t.drop m)++34::rest);rw [e3,List.append_assoc];simp only [List.cons_append] at u ⊢;have hch:char (c::(t.take m++(escs (t.drop m)++34::rest)))= .ok (c::t.take m) (escs (t.drop m)++34::rest):=by
       simp only [char,u];rw [if_neg (by omega),if_neg (u8_ne_j (n:=92) (by omega) 92 rfl),if_neg (by simp)];simp only [List.take_succ_cons,List.drop_succ_cons];have hl:(t.take m).length=m:=by simp;omega
       rw [List.take_left' hl,List.drop_left' hl]
      simp only [chars];rw [if_neg (show nx (c::(t.take m++(escs (t.drop m)++34::rest)))≠34 from(u8_ne_j (c:=c) (n:=34) (by omega) 34 rfl:c≠34)),hch];simp only [i,List.cons_append,List.take_append_drop]
theorem escs_len:∀ s:B,s.length≤(escs s).length
 | []=>Nat.le_refl _
 |c::t=>by
  have h1:1≤(esc c).length:=by
   unfold esc
   (repeat' split) <;> simp
  have:=escs_len t;simp only [escs,List.length_append,List.length_cons];omega
theorem text_quote (s:B) (h:Lib.validD s=true) (rest:B):text (quoteB s++rest)= .ok s rest:=by
 unfold text quoteB;simp only [List.cons_append,List.drop_succ_cons,List.drop_zero,List.append_assoc,List.nil_append];refine chars_escs s.length s (Nat.le_refl _) h _ ?_ rest;have:=escs_len s;simp;omega
def numL_j:B:=[48,49,50,51,52,53,54,55,56,57,46,101,69,43,45]
def Free (l:B):Prop:=∀ c t,l=c::t→numL_j.contains c=false
def Res.app {α:Type} (r:Res α) (rest:B):Res α:=match r with
 | .ok a u=>.ok a (u++rest)
 | .err k u=>.err k (u++rest)
theorem contains_sub {S T:B} (hs:∀ x∈S,x∈T) {c:UInt8} (h:T.contains c=false):S.contains c=false:=by
 cases hc:S.contains c with
 |false=>rfl
 |true=>
  have h1:c∈S:=by simpa using hc
  have h2:T.contains c=true:=by simpa using hs c h1
  rw [h] at h2;cases h2
theorem skip_app {S rest:B} (hs:∀ x∈S,x∈numL_j) (hf:Free rest) (t:B):skip S (t++rest)=(skip S t).map (· ++rest):=by
 cases t with
 |nil=>
  cases rest with
  |nil=>rfl
  |cons c r=>
   have:=contains_sub hs (hf c r rfl);simp only [List.nil_append,skip,this];rfl
 |cons c t=>
  simp only [List.cons_append,skip];split <;> rfl
theorem skips_app {S rest:B} (hs:∀ x∈S,x∈numL_j) (hf:Free rest):∀ t:B,skips S (t++rest)=skips S t++rest
 | []=>by
  cases rest with
  |nil=>rfl
  |cons c r=>
   have:=contains_sub hs (hf c r rfl);simp only [List.nil_append,skips,this];rfl
 |c::t=>by
  simp only [List.cons_append,skips];split
  · exact skips_app hs hf t
  · rfl
theorem sub_digits:∀ x∈digitsL,x∈numL_j:=by decide
theorem digits_app {rest:B} (hf:Free rest) (t:B):digits (t++rest)=(digits t).app rest:=by
 unfold digits;rw [skip_app sub_digits hf];cases skip digitsL t with
 |none=>rfl
 |some u=>
  simp only [Option.map_some,Res.app];rw [skips_app sub_digits hf]
theorem skipD_app {S rest:B} (hs:∀ x∈S,x∈numL_j) (hf:Free rest) (t:B):skipD S (t++rest)=skipD S t++rest:=by
 unfold skipD;rw [skip_app hs hf];cases skip S t with
 |none=>rfl
 |some u=>rfl
theorem numExp_app {rest:B} (hf:Free rest) (t:B):numExp (t++rest)=(numExp t).app rest:=by
 unfold numExp;rw [skip_app (by decide) hf];cases skip [101,69] t with
 |none=>rfl
 |some u=>
  simp only [Option.map_some];rw [skipD_app (by decide) hf,digits_app hf]
theorem numFrac_app {rest:B} (hf:Free rest) (t:B):numFrac (t++rest)=(numFrac t).app rest:=by
 unfold numFrac;rw [skip_app (by decide) hf];cases skip [46] t with
 |none=>exact numExp_app hf t
 |some u=>
  simp only [Option.map_some];rw [digits_app hf];cases digits u with
  |ok x v=>exact numExp_app hf v
  |err k v=>rfl
theorem numHead_app {rest:B} (hf:Free rest) (t:B):numHead (t++rest)=(numHead t).app rest:=by
 unfold numHead;rw [skip_app (by decide) hf];cases skip [48] t with
 |none=>
  simp only [Option.map_none];rw [digits_app hf];cases digits t with
  |ok x v=>exact numFrac_app hf v
  |err k v=>rfl
 |some u=>exact numFrac_app hf u
theorem numParts_app {rest:B} (hf:Free rest) (t:B):numParts (t++rest)=(numParts t).app rest:=by
 unfold numParts;rw [skipD_app (by decide) hf,numHead_app hf]
theorem isNum_ok {t:B} (h:isNum t=true):number t= .ok () []:=by
 unfold isNum at h;split at h
 · rename_i x e
   exact e
 · cases h
theorem number_parts {t:B} (h:number t= .ok () []):numParts t= .ok () []∧t.length≤64:=by
 unfold number at h;split at h
 · cases h
 · rename_i hn
   rw [h] at hn;simp only [Res.left,List.length_nil] at hn;exact⟨h,by omega⟩
theorem number_app {t rest:B} (h:isNum t=true) (hf:Free rest):number (t++rest)= .ok () rest:=by
 obtain⟨h1,h2⟩:=number_parts (isNum_ok h);have e:numParts (t++rest)= .ok () rest:=by rw [numParts_app hf,h1];rfl
 unfold number;rw [e];rw [if_neg (by simp only [Res.left,List.length_append];omega)]
theorem num_head {t:B} (h:isNum t=true):∃ c r,t=c::r∧numL_j.contains c=true:=by
 obtain⟨h1,_⟩:=number_parts (isNum_ok h);cases t with
 |nil=>exact nomatch (show (Res.err 3 []:Res Unit)= .ok () [] from h1)
 |cons c r=>
  refine⟨c,r,rfl,?_⟩;cases hc:numL_j.contains c with
  |true=>rfl
  |false=>
   have k:∀ S:B,(∀ x∈S,x∈numL_j)→skip S (c::r)=none:=fun S hs=>by
    have:=contains_sub hs hc;simp only [skip,this];rfl
   unfold numParts numHead digits at h1;have e1:skipD [45] (c::r)=c::r:=by unfold skipD;rw [k _ (by decide)];rfl
   rw [e1,k _ (by decide),k _ sub_digits] at h1;cases h1
theorem fault_zero {k:Int}{b:Bool}{t:B}{n:Int}{h:Bool}{ls:List JV}{ns:List B} (e:fault (.mk k b t n h ls ns)=0):formed (.mk k b t n h ls ns)=true∧twice ns=false∧∀ x∈ls,fault x=0:=by
 have key:∀ (ls:List JV) (f:Nat),faults f ls=0→(f=0∨f=6)→f=0∧∀ x∈ls,fault x=0:=by
  intro ls
  induction ls with
  |nil=>
   intro f hf _;simp only [faults] at hf;exact⟨hf,by simp⟩
  |cons x xs ih=>
   intro f hf h06;simp only [faults] at hf;split at hf
   · cases hf
   · rename_i h3
     by_cases hx:fault x=0
     · rw [if_pos hx] at hf;obtain⟨a,b⟩:=ih f hf h06;refine⟨a,fun y hy=>?_⟩;simp only [List.mem_cons] at hy;rcases hy with rfl|hy
       · exact hx
       · exact b y hy
     · rw [if_neg hx] at hf;exfalso;have keep:∀ (zs:List JV) (g:Nat),g≠0→faults g zs≠0:=by
        intro zs
        induction zs with
        |nil=>intro g hg;simpa [faults] using hg
        |cons z zs ihz=>
         intro g hg;simp only [faults];split
         · decide
         · by_cases hz:fault z=0
           · rw [if_pos hz];exact ihz g hg
           · rw [if_neg hz];exact ihz _ hz
       exact keep xs _ hx hf
 simp only [fault] at e;split at e
 · cases e
 · rename_i hfm
   obtain⟨a,b⟩:=key ls _ e (by split <;> simp);refine⟨by simpa using hfm,?_,b⟩;cases ht:twice ns with
   |false=>rfl
   |true=>rw [ht] at a;simp at a
theorem once_mem:∀ (l seen:List B),(once seen l).length≤seen.length+l.length
 | [],seen=>by simp [once]
 |x::l,seen=>by
  simp only [once];have:=once_mem l (if seen.contains x then seen else seen++ [x]);split at this
  · rename_i h
    rw [if_pos h];simp only [List.length_cons];omega
  · rename_i h
    rw [if_neg h];simp only [List.length_append,List.length_cons,List.length_nil] at this ⊢;omega
def Fresh:List B→List B→Prop
 |_,[]=>True
 |seen,x::l=>seen.contains x=false∧Fresh (seen++ [x]) l
theorem fresh_once:∀ (l seen:List B),(once seen l).length=seen.length+l.length→Fresh seen l
 | [],_,_=>trivial
 |x::l,seen,h=>by
  simp only [once] at h;cases hc:seen.contains x with
  |true=>
   rw [if_pos hc] at h;have:=once_mem l seen;simp only [List.length_cons] at h;omega
  |false=>
   rw [if_neg (by rw [hc];decide)] at h;refine⟨hc,fresh_once l (seen++ [x]) ?_⟩;rw [h];simp only [List.length_cons,List.length_append,List.length_nil];omega
theorem fresh_of {ns:List B} (h:twice ns=false):Fresh [] ns:=by
 refine fresh_once ns [] ?_;have h1:=once_mem ns [];have h2:¬(once [] ns).length<ns.length:=by simpa [twice] using h
 simp only [List.length_nil] at h1 ⊢;omega
def Head (l:B):Prop:=∃ c r,l=c::r∧blanksL.contains c=false∧c≠93∧c≠125
theorem Head.blanks {l:B} (h:Head l) (r:B):blanks (l++r)=l++r:=by
 obtain⟨c,t,rfl,h1,_⟩:=h;show skips blanksL (c::(t++r))=_;simp only [skips,h1];rfl
theorem Head.skip {l:B} (h:Head l) (r:B):skip [93] (l++r)=none∧skip [125] (l++r)=none:=by
 obtain⟨c,t,rfl,_,h1,h2⟩:=h;have a1:([93]:B).contains c=false:=by simpa using h1
 have a2:([125]:B).contains c=false:=by simpa using h2
 simp only [List.cons_append,Go.Proofs.YtlmefgjhbohjlaaGreatDoor.skip,a1,a2];exact⟨rfl,rfl⟩
theorem quote_head (s:B):Head (quoteB s):=⟨34,_,rfl,by decide,by decide,by decide⟩
theorem num_facts:∀ c∈numL_j,blanksL.contains c=false∧c≠93∧c≠125∧c≠110∧c≠116∧c≠102∧c≠34∧c≠91∧c≠123:=by decide
theorem formed_cases {k:Int}{b:Bool}{t:B}{n:Int}{h:Bool}{ls:List JV}{ns:List B} (e:formed (.mk k b t n h ls ns)=true):
 (JV.mk k b t n h ls ns= .mk 1 false [] 0 false [] [])∨(JV.mk k b t n h ls ns= .mk 2 b [] 0 false [] [])∨(isNum t=true∧k=3∧JV.mk k b t n h ls ns=numV t)∨(Lib.validD t=true∧JV.mk k b t n h ls ns= .mk 4 false t 0 false [] [])
 ∨(JV.mk k b t n h ls ns= .mk 5 false [] 0 false ls [])∨(ns.length=ls.length∧ns.all Lib.validD=true∧JV.mk k b t n h ls ns= .mk 6 false [] 0 false ls ns):=by
 simp only [formed] at e;split at e
 · rename_i hk
   subst hk;exact .inl ((sameV_iff _ _).1 e)
 split at e
 · rename_i hk
   subst hk;exact .inr (.inl ((sameV_iff _ _).1 e))
 split at e
 · rename_i hk
   simp only [Bool.and_eq_true] at e;exact .inr (.inr (.inl ⟨e.1,hk,(sameV_iff _ _).1 e.2⟩))
 split at e
 · rename_i hk
   subst hk;simp only [Bool.and_eq_true] at e;exact .inr (.inr (.inr (.inl ⟨e.1,(sameV_iff _ _).1 e.2⟩)))
 split at e
 · rename_i hk
   subst hk;have:=(sameV_iff _ _).1 e;simp only [JV.mk.injEq] at this;obtain⟨_,rfl,rfl,rfl,rfl,_,rfl⟩:=this;exact .inr (.inr (.inr (.inr (.inl rfl))))
 split at e
 · rename_i hk
   subst hk;simp only [Bool.and_eq_true,decide_eq_true_eq] at e;have:=(sameV_iff _ _).1 e.2.2;simp only [JV.mk.injEq] at this;obtain⟨_,rfl,rfl,rfl,rfl,_,_⟩:=this;exact .inr (.inr (.inr (.inr (.inr ⟨e.1,e.2.1,rfl⟩))))
 · cases e
theorem print_head {v:JV} (h:fault v=0):Head (printV v):=by
 obtain⟨k,b,t,n,hh,ls,ns⟩:=v;obtain⟨h1,_,_⟩:=fault_zero h;rcases formed_cases h1 with e|e|⟨e1,rfl,e⟩|⟨_,e⟩|e|⟨_,_,e⟩
 · rw [e];exact⟨110,_,rfl,by decide,by decide,by decide⟩
 · rw [e];cases b
   · exact⟨102,_,rfl,by decide,by decide,by decide⟩
   · exact⟨116,_,rfl,by decide,by decide,by decide⟩
 · obtain⟨c,r,rfl,hc⟩:=num_head e1;obtain⟨f1,f2,f3,_⟩:=num_facts c (by simpa using hc);exact⟨c,r,by simp [printV],f1,f2,f3⟩
 · rw [e];show Head (quoteB t);exact quote_head t
 · rw [e];exact⟨91,_,rfl,by decide,by decide,by decide⟩
 · rw [e];exact⟨123,_,rfl,by decide,by decide,by decide⟩
theorem fold_max:∀ (l:List Nat) (a m:Nat),l.foldl max a≤m→a≤m∧∀ x∈l,x≤m
 | [],a,m,h=>⟨h,by simp⟩
 |y::l,a,m,h=>by
  obtain⟨h1,h2⟩:=fold_max l (max a y) m h;refine⟨by omega,fun x hx=>?_⟩;simp only [List.mem_cons] at hx;rcases hx with rfl|hx
  · omega
  · exact h2 x hx
theorem depth_parts {m:Nat}{k:Int}{b:Bool}{t:B}{n:Int}{h:Bool}{ls:List JV}{ns:List B} (hk:k=5∨k=6) (e:depthN (m+1) (.mk k b t n h ls ns)≤m):1≤m∧∀ x∈ls,depthN m x≤m-1:=by
 simp only [depthN,if_pos hk] at e;obtain⟨_,h2⟩:=fold_max (ls.map (depthN m)) 0 (m-1) (by omega);exact⟨by omega,fun x hx=>h2 _ (List.mem_map.2 ⟨x,hx,rfl⟩)⟩
def Reads (f:B→Res JV) (v:JV):Prop:=∀ rest,Free rest→f (printV v++rest)= .ok v rest
theorem free_comma (r:B):Free (44::r):=fun c t e=>by cases e;decide
theorem free_endl (r:B):Free (93::r):=fun c t e=>by cases e;decide
theorem free_endo (r:B):Free (125::r):=fun c t e=>by cases e;decide
theorem parts_read {f:B→Res JV} (rest:B):∀ (xs:List JV) (x:JV) (ns:List B) (acc:St) (g:Nat),(∀ y∈x::xs,Reads f y∧fault y=0)→xs.length<g→
 partsF (listStep f) [93] g acc (printV x++(printL false false xs ns++93::rest))= .ok (acc.1,acc.2++x::xs) rest
 | [],x,ns,acc,g,h,hg=>by
  cases g with
  |zero=>omega
  |succ g=>
   obtain⟨h1,h2⟩:=h x (by simp);have e1:listStep f acc (printV x++93::rest)= .ok (acc.1,acc.2++ [x]) (93::rest):=by unfold listStep;rw [h1 _ (free_endl rest)]
   simp only [printL,List.nil_append,partsF,e1];rfl
 |y::ys,x,ns,acc,g,h,hg=>by
  cases g with
  |zero=>omega
  |succ g=>
   obtain⟨h1,h2⟩:=h x (by simp);obtain⟨_,hy2⟩:=h y (by simp);have i:=parts_read rest ys y ns.tail (acc.1,acc.2++ [x]) g (fun z hz=>h z (by simp only [List.mem_cons] at hz ⊢;exact .inr hz)) (by simp only [List.length_cons] at hg;omega);have e0:printL false false (y::ys) ns=44::(printV y++printL false false ys ns.tail):=by simp [printL]
   have e1:listStep f acc (printV x++44::(printV y++(printL false false ys ns.tail++93::rest)))= .ok (acc.1,acc.2++ [x]) (44::(printV y++(printL false false ys ns.tail++93::rest))):=by unfold listStep;rw [h1 _ (free_comma _)]
   rw [e0];simp only [List.cons_append,List.append_assoc];simp only [partsF,e1];have s1:skip [93] (blanks (44::(printV y++(printL false false ys ns.tail++93::rest))))=none:=rfl;have s2:skip [44] (blanks (44::(printV y++(printL false false ys ns.tail++93::rest))))=some (printV y++(printL false false ys ns.tail++93::rest)):=rfl;rw [s1];simp only;rw [s2];simp only;rw [(print_head hy2).blanks,i];simp
theorem name_quote {ns:List B}{nm r:B} (hv:Lib.validD nm=true) (hc:ns.contains nm=false):nameS ns (quoteB nm++58::r)= .ok nm (blanks r):=by
 unfold nameS;rw [if_neg (by simp [quoteB,nx]),text_quote nm hv];simp only;rw [if_neg (by rw [hc];decide)];rfl
theorem members_read {f:B→Res JV} (rest:B):∀ (xs:List JV) (x:JV) (nms:List B) (nm:B) (acc:St) (g:Nat),(∀ y∈x::xs,Reads f y∧fault y=0)→Fresh acc.1 (nm::nms)→(∀ z∈nm::nms,Lib.validD z=true)→nms.length=xs.length→xs.length<g→
 partsF (objStep f) [125] g acc (quoteB nm++58::(printV x++(printL true false xs nms++125::rest)))= .ok (acc.1++nm::nms,acc.2++x::xs) rest
 | [],x,nms,nm,acc,g,h,hfr,hva,hl,hg=>by
  cases g with
  |zero=>omega
  |succ g=>
   obtain⟨h1,h2⟩:=h x (by simp);have hn0:nms= []:=by simpa using hl
   subst hn0;have e1:objStep f acc (quoteB nm++58::(printV x++125::rest))= .ok (acc.1++ [nm],acc.2++ [x]) (125::rest):=by
    unfold objStep;rw [name_quote (hva nm (by simp)) hfr.1];simp only;rw [(print_head h2).blanks,h1 _ (free_endo rest)]
   simp only [printL,List.nil_append,partsF,e1];rfl
 |y::ys,x,nms,nm,acc,g,h,hfr,hva,hl,hg=>by
  cases g with
  |zero=>omega
  |succ g=>
   obtain⟨h1,h2⟩:=h x (by simp);obtain⟨_,hy2⟩:=h y (by simp);cases nms with
   |nil=>simp at hl
   |cons nm2 nms2=>
    have i:=members_read rest ys y nms2 nm2 (acc.1++ [nm],acc.2++ [x]) g (fun z hz=>h z (by simp only [List.mem_cons] at hz ⊢;exact .inr hz)) hfr.2 (fun z hz=>hva z (by simp only [List.mem_cons] at hz ⊢;exact .inr hz)) (by simpa using hl) (by simp only [List.length_cons] at hg;omega);have e0:printL true false (y::ys) (nm2::nms2)=44::(quoteB nm2++58::(printV y++printL true false ys nms2)):=by simp [printL]
    rw [e0];simp only [List.cons_append,List.append_assoc];obtain⟨R,hR⟩:∃ R,quoteB nm2++58::(printV y++(printL true false ys nms2++125::rest))=R:=⟨_,rfl⟩;have hRb:blanks R=R:=by rw [←hR];exact(quote_head nm2).blanks _
    rw [hR] at i ⊢;have e1:objStep f acc (quoteB nm++58::(printV x++44::R))= .ok (acc.1++ [nm],acc.2++ [x]) (44::R):=by
     unfold objStep;rw [name_quote (hva nm (by simp)) hfr.1];simp only;rw [(print_head h2).blanks,h1 _ (free_comma R)]
    simp only [partsF,e1];have s1:skip [125] (blanks (44::R))=none:=rfl;have s2:skip [44] (blanks (44::R))=some R:=rfl;rw [s1];simp only;rw [s2];simp only;rw [hRb,i];simp
theorem printL_len (o:Bool):∀ (xs:List JV) (fi:Bool) (ns:List B),(∀ y∈xs,fault y=0)→xs.length≤(printL o fi xs ns).length
 | [],_,_,_=>by simp
 |x::xs,fi,ns,h=>by
  have i:=printL_len o xs false ns.tail (fun y hy=>h y (by simp [hy]));obtain⟨c,r,hc,_⟩:=print_head (h x (by simp));have:1≤(printV x).length:=by rw [hc];simp
  simp only [printL,List.length_append,List.length_cons];omega
theorem val_print:∀ (n:Nat) (v:JV),fault v=0→depthN (n+1) v≤n→Reads (val n) v:=by
 intro n
 induction n with
 |zero=>
  intro v hf hd rest hr;obtain⟨k,b,t,m,hh,ls,ns⟩:=v;obtain⟨h1,_,_⟩:=fault_zero hf;rcases formed_cases h1 with e|e|⟨e1,rfl,e⟩|⟨e1,e⟩|e|⟨_,_,e⟩
  · rw [e];rfl
  · rw [e];cases b <;> rfl
  · obtain⟨c,r,rfl,hc⟩:=num_head e1;obtain⟨_,_,_,f1,f2,f3,f4,f5,f6⟩:=num_facts c (by simpa using hc);show valWith none (c::r++rest)=_;unfold valWith;have hn:nx (c::r++rest)=c:=rfl;rw [hn,if_neg f1,if_neg f2,if_neg f3,if_neg f4,if_neg f5,if_neg f6,number_app e1 hr];simp only;rw [e,show (c::r++rest).length-rest.length=(c::r).length by simp only [List.length_append];omega,List.take_left' rfl]
  · rw [e];show valWith none (quoteB t++rest)=_;have hn:nx (quoteB t++rest)=34:=rfl;unfold valWith;rw [hn,text_quote t e1];rfl
  · rw [e] at hd;have:=(depth_parts (.inl rfl) hd).1;omega
  · rw [e] at hd;have:=(depth_parts (.inr rfl) hd).1;omega
 |succ n ih=>
  intro v hf hd rest hr;obtain⟨k,b,t,m,hh,ls,ns⟩:=v;obtain⟨h1,h2,h3⟩:=fault_zero hf;rcases formed_cases h1 with e|e|⟨e1,rfl,e⟩|⟨e1,e⟩|e|⟨l1,l2,e⟩
  · rw [e];rfl
  · rw [e];cases b <;> rfl
  · obtain⟨c,r,rfl,hc⟩:=num_head e1;obtain⟨_,_,_,f1,f2,f3,f4,f5,f6⟩:=num_facts c (by simpa using hc);show valWith (some (val n)) (c::r++rest)=_;unfold valWith;have hn:nx (c::r++rest)=c:=rfl;rw [hn,if_neg f1,if_neg f2,if_neg f3,if_neg f4,if_neg f5,if_neg f6,number_app e1 hr];simp only;rw [e,show (c::r++rest).length-rest.length=(c::r).length by simp only [List.length_append];omega,List.take_left' rfl]
  · rw [e];show valWith (some (val n)) (quoteB t++rest)=_;have hn:nx (quoteB t++rest)=34:=rfl;unfold valWith;rw [hn,text_quote t e1];rfl
  · rw [e] at hd;have hp:=(depth_parts (.inl rfl) hd).2;have hR:∀ y∈ls,Reads (val n) y∧fault y=0:=fun y hy=>⟨ih y (h3 y hy) (hp y hy),h3 y hy⟩
    have e2:nestedS (listStep (val n)) [93] ([],[]) (printL false true ls []++93::rest)= .ok ([],ls) rest:=by
     cases ls with
     |nil=>rfl
     |cons x xs=>
      obtain⟨q1,q2⟩:=hR x (by simp);have e3:printL false true (x::xs) []++93::rest=printV x++(printL false false xs []++93::rest):=by simp [printL]
      rw [e3];unfold nestedS;rw [(print_head q2).blanks,((print_head q2).skip _).1];simp only;have hl:=printL_len false xs false [] (fun y hy=>(hR y (by simp [hy])).2);rw [parts_read rest xs x [] ([],[]) _ hR (by simp only [List.length_append,List.length_cons];omega)];rfl
    rw [e];show valWith (some (val n)) (91::(printL false true ls []++ [93])++rest)=_;simp only [List.cons_append,List.append_assoc,List.nil_append];unfold valWith;rw [show nx (91::(printL false true ls []++93::rest))=91 from rfl];rw [if_neg (by decide),if_neg (by decide),if_neg (by decide),if_neg (by decide),if_pos rfl];simp only [List.drop_succ_cons,List.drop_zero];rw [e2]
  · rw [e] at hd;have hp:=(depth_parts (.inr rfl) hd).2;have hR:∀ y∈ls,Reads (val n) y∧fault y=0:=fun y hy=>⟨ih y (h3 y hy) (hp y hy),h3 y hy⟩
    have hF:=fresh_of h2;have hV:∀ z∈ns,Lib.validD z=true:=fun z hz=>by
     rw [List.all_eq_true] at l2;exact l2 z hz
    have e2:nestedS (objStep (val n)) [125] ([],[]) (printL true true ls ns++125::rest)= .ok (ns,ls) rest:=by
     cases ls with
     |nil=>
      have:ns= []:=by simpa using l1
      subst this;rfl
     |cons x xs=>
      cases ns with
      |nil=>simp at l1
      |cons nm nms=>
       obtain⟨q1,q2⟩:=hR x (by simp);have e3:printL true true (x::xs) (nm::nms)++125::rest=quoteB nm++58::(printV x++(printL true false xs nms++125::rest)):=by simp [printL]
       rw [e3];unfold nestedS;rw [(quote_head nm).blanks,((quote_head nm).skip _).2];simp only;have hl:=printL_len true xs false nms (fun y hy=>(hR y (by simp [hy])).2);rw [members_read rest xs x nms nm ([],[]) _ hR hF hV (by simpa using l1) (by simp only [List.length_append,List.length_cons];omega)];rfl
    rw [e];show valWith (some (val n)) (123::(printL true true ls ns++ [125])++rest)=_;simp only [List.cons_append,List.append_assoc,List.nil_append];unfold valWith;rw [show nx (123::(printL true true ls ns++125::rest))=123 from rfl];rw [if_neg (by decide),if_neg (by decide),if_neg (by decide),if_neg (by decide),if_neg (by decide),if_pos rfl];simp only [List.drop_succ_cons,List.drop_zero];rw [e2]
theorem parse_print {v:JV} (hv:validN v=0) (hl:(printV v).length≤1048576):parse (printV v)=(v,(printV v).length,0):=by
 unfold validN at hv;split at hv
 · cases hv
 · rename_i hd
   have h1:=val_print 32 v hv (show depthN 33 v≤32 by omega) [] (fun c t e=>by cases e);rw [List.append_nil] at h1;have h2:blanks (printV v)=printV v:=by
    have:=(print_head hv).blanks [];rw [List.append_nil] at this;exact this
   unfold parse whole;rw [if_neg (by omega),h2,h1];rfl
open Go.RowKit
def NamesB (w:World) (N:Nat) (ns:List B) (p:Option Addr):Prop:=∀ j t,ns[j]?=some t→∃ g o,p=some ⟨g,o,none⟩∧g<N∧w.cell? ⟨g,o+j,none⟩=some (.string (str t))
theorem cell_block {w w':World}{g o:Nat} (e:w'.heap[g]?=w.heap[g]?):w'.cell? ⟨g,o,none⟩=w.cell? ⟨g,o,none⟩:=World.cell?_of_block (by exact e)
theorem NamesB.below {w w':World}{N:Nat}{ns:List B}{p:Option Addr} (h:NamesB w N ns p) (hb:Below N w w'):NamesB w' N ns p:=by
 intro j t hj;obtain⟨g,o,h1,hg,h2⟩:=h j t hj;exact⟨g,o,h1,hg,by rw [cell_block (hb.block g hg)];exact h2⟩
mutual
def Pr:JV→Prop
 | .mk k _ _ _ _ ls ns=>(k=6→ns.length=ls.length)∧PrL ls
def PrL:List JV→Prop
 | []=>True
 |x::xs=>Pr x∧PrL xs
end
def ToldPr (r:B×Nat) (w:World) (e:Ending) (w':World):Prop:=e= .returned (.tuple #[.string (str r.1),errOf_j r.2])∧Below w.heap.size w w'
def quoteS (s:B):B×Nat:=if Lib.validD s then (quoteB s,0) else ([],3)
abbrev greatT:ByteArray:=⟨#[48,49,50,51,52,53,54,55,56,57,65,66,67,68,69,70]⟩
theorem great_at (i:Nat) (hi:i<16):∀ (j:Nat) (h:j<greatT.size),j=i→(greatT[j]'h).toNat=(greatD i).toNat:=by
 intro j h e;subst e;have key:∀ K:Fin 16,greatT.data[K.val]?=some (greatD K.val):=by decide
 have h2:greatT.data[j]?=some (greatD j):=key ⟨j,hi⟩;have h3:greatT.data[j]?=some (greatT.data[j]'h):=Array.getElem?_eq_getElem h;have h4:greatT.data[j]'h=greatD j:=Option.some.inj (h3.symm.trans h2);exact congrArg UInt8.toNat h4
theorem new_drew_t (w:World) (o:Obj):Below w.heap.size w (w.alloc o).drew:=⟨(below_new w o).os,(below_new w o).tape,(below_new w o).output,(below_new w o).size,(below_new w o).block⟩
theorem three_cells (a b:UInt8):Lib.byteCells [37,a,b]= [.int .u8 37,.int .u8 (a.toNat:Int),.int .u8 (b.toNat:Int)]:=by simp [Lib.byteCells]
theorem meant_none:∀ {c:UInt8}{l:B},codeI (c::l)<0→meantB (c::l)=c::meantB l
 |c,[],_=>by simp [meantB]
 |c,[d],_=>by simp [meantB]
 |c,a::b::r,h=>by
  rw [meantB];cases hv:codeOf c a b with
  |none=>rfl
  |some v=>rw [codeI_some hv] at h;omega
theorem meant_some:∀ {c:UInt8}{l:B},¬codeI (c::l)<0→meantB (c::l)=(if unres (UInt8.ofNat (codeI (c::l)).toNat) then [UInt8.ofNat (codeI (c::l)).toNat] else codeB (UInt8.ofNat (codeI (c::l)).toNat))++meantB (l.drop 2)
 |c,[],h=>absurd (by rw [codeI_short (by simp)];omega) h
 |c,[d],h=>absurd (by rw [codeI_short (by simp)];omega) h
 |c,a::b::r,h=>by
  rw [meantB];cases hv:codeOf c a b with
  |none=>rw [codeI_none hv] at h;omega
  |some v=>
   rw [codeI_some hv];simp
end Go.Proofs.YtlmefgjhbohjlaaGreatDoor
