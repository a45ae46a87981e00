/- What the laws call: an error's number, fields and texts held against each other; Beats, and the document's Fits and Beats; what must come whatever the input is. -/
import Derived.Test.YtlmlljlappjjjaaGreatDoorHFine
import Derived.Test.YtlmlljlappjjjaaGreatDoorRows
import Derived.OpenShut
import Derived.ShutString
namespace Go.Proofs.YtlmlljlappjjjaaGreatDoor
open Go.RowKit
def RFitsAns (o:Option (Option (List (B×B)))) (w:World) (e:Ending) (w':World):Prop:=Below w.heap.size w w'∧match o with
 |none=>e= .returned (.tuple #[.bool false,.slice none 0 0,.int .i64 3])
 |some none=>e= .returned (.tuple #[.bool false,.slice none 0 0,.int .i64 0])
 |some (some F)=>∃ q d,e= .returned (.tuple #[.bool true,.slice q F.length d,.int .i64 0])∧OwnF w' w.heap.size (.slice q F.length d) F
set_option maxRecDepth 20000 in
set_option maxHeartbeats 8000000 in
theorem rfitsO_any (pa path:B) (ha:pa.length≤4398046511104) (hp:path.length≤4294967280) (w:World):Calls Tryz.prog 22 #[.string (str pa),.string (str path)] w fun e w'=>RFitsAns (fitsO pa path) w e w':=by
 have HCk:=hid (fun W:World=>rcheck_any_r pa ha W);obtain⟨ck,hck⟩:∃ ck,checkP pa=ck:=⟨_,rfl⟩;have HCk2:=hid (show ∀ W:World,Calls Tryz.prog 28 #[.string (str pa)] W fun e w'=>e= .returned (.int .i64 (if ck then 0 else 3))∧Below W.heap.size W w' from fun W=>by have h:=HCk.out W;unfold RChkAns at h;rw [hck] at h;exact h);clear HCk;cases hb:begB 47 path with
 |false=>
  have e1:fitsO pa path=none:=by unfold fitsO;rw [hb,Bool.and_false];rfl
  have HSp:=hid (fun W:World=>rsplit_none (p:=path) (by omega) hb W);rw [e1];obtain⟨S,hS⟩:∃ S,str pa=S:=⟨_,rfl⟩;obtain⟨Y,hY⟩:∃ S,str path=S:=⟨_,rfl⟩;rw [hS] at HCk2 ⊢;rw [hY] at HSp ⊢;clear hS hY ha hp hb e1 hck;cases ck with
  |false=>
   rw [if_neg (by decide)] at HCk2;go_enter Tryz.func22,Tryz.ntmps22;go_wp2_with (first|(go_at_call 53;(with_reducible refine(HSp.out _).mono ?_);rintro e w1 ⟨rfl,hw1⟩;subst w1)|(go_at_call 28;(with_reducible refine(HCk2.out _).mono ?_);rintro e w2 ⟨rfl,hb2⟩;have HB2:=hid hb2;clear hb2));go_ret3;exact⟨HB2.out,rfl⟩
  |true=>
   rw [if_pos rfl] at HCk2;go_enter Tryz.func22,Tryz.ntmps22;go_wp2_with (first|(go_at_call 53;(with_reducible refine(HSp.out _).mono ?_);rintro e w1 ⟨rfl,hw1⟩;subst w1)|(go_at_call 28;(with_reducible refine(HCk2.out _).mono ?_);rintro e w2 ⟨rfl,hb2⟩;have HB2:=hid hb2;clear hb2));go_ret3;exact⟨HB2.out,rfl⟩
 |true=>
  obtain⟨t,rfl⟩:=beg_cons hb;have htl:t.length≤4294967280:=by simp at hp;omega
  have HSp:=hid (fun W:World=>rsplit_yes t (by omega) W);have hcl:=cutT_len t;obtain⟨X,hX⟩:∃ X,cutT t=X:=⟨_,rfl⟩;obtain⟨n,hn⟩:∃ n,X.length=n:=⟨_,rfl⟩;have HN:=hid hn;rw [hX,hn] at HSp hcl;cases ck with
  |false=>
   have e1:fitsO pa (47::t)=none:=by unfold fitsO;rw [hck];rfl
   rw [e1];rw [if_neg (by decide)] at HCk2;obtain⟨S,hS⟩:∃ S,str pa=S:=⟨_,rfl⟩;obtain⟨Y,hY⟩:∃ S,str (47::t)=S:=⟨_,rfl⟩;rw [hS] at HCk2 ⊢;rw [hY] at HSp ⊢;clear hS hY ha hp hb e1 hck hX hn;go_enter Tryz.func22,Tryz.ntmps22;go_wp2_with (first|(go_at_call 53;(with_reducible refine(HSp.out _).mono ?_);rintro e w1 ⟨p1,c1,rfl,ho,hb1⟩;have HB1:=hid hb1;clear hb1 ho)|(go_at_call 28;(with_reducible refine(HCk2.out _).mono ?_);rintro e w2 ⟨rfl,hb2⟩;have HB2:=hid (below_out HB1.out hb2);clear hb2));go_ret3;exact⟨HB2.out,rfl⟩
  |true=>
   rw [if_pos rfl] at HCk2;obtain⟨tp,etp,h64,h256,hrl⟩:=check_parts hck;have e1:fitsO pa (47::t)=some (fitsT (cutT tp) X):=by unfold fitsO;rw [hck,hb,etp];show some (fitsT (cutT tp) (cutT t))=_;rw [hX]
   rw [e1];have HFt:=hid (fun (py:Option Addr) (c:Nat) (hc:n≤c) (W:World) (h:TxAt W py X)=>rfits_any_r tp (by rw [etp] at h256;simp at h256;omega) X py n c HN.out (by omega) hc (by rw [←hX,joinT_cut];omega) W h);rw [←etp] at HFt;obtain⟨S,hS⟩:∃ S,str pa=S:=⟨_,rfl⟩;obtain⟨Y,hY⟩:∃ S,str (47::t)=S:=⟨_,rfl⟩;rw [hS] at HCk2 HFt ⊢;rw [hY] at HSp ⊢;obtain⟨R,hR⟩:∃ R,fitsT (cutT tp) X=R:=⟨_,rfl⟩;rw [hR] at HFt ⊢;clear hS hY ha hp hb e1 hck hX hn hR etp h64 h256 hrl;cases R with
   |none=>
    go_enter Tryz.func22,Tryz.ntmps22;go_wp2_with (first|(go_at_call 53;(with_reducible refine(HSp.out _).mono ?_);rintro e w1 ⟨p1,c1,rfl,ho,hb1⟩;have HB1:=hid hb1;have HCp:=hid ho.cap;have HTx:=hid ho.tx;clear hb1 ho)|(go_at_call 28;(with_reducible refine(HCk2.out _).mono ?_);rintro e w2 ⟨rfl,hb2⟩;have HB2:=hid (below_out HB1.out hb2);have HT2:=hid (HTx.out.next hb2);clear hb2)|(go_at_call 54;(with_reducible refine(HFt.out _ _ HCp.out _ HT2.out).mono ?_);rintro e w3 ⟨rfl,hb3⟩;have HB3:=hid (below_out HB2.out hb3);clear hb3));go_ret3;exact⟨HB3.out,rfl⟩
   |some F=>
    obtain⟨L,hL⟩:∃ L,F.length=L:=⟨_,rfl⟩;have HF2:=hid (fun (py:Option Addr) (c:Nat) (hc:n≤c) (W:World) (h:TxAt W py X)=>(HFt.out py c hc W h).mono (R':=fun e w'=>∃ q d,e= .returned (.tuple #[.bool true,.slice q L d])∧OwnF w' W.heap.size (.slice q L d) F∧Below W.heap.size W w') (by rintro e w' ⟨q,d,h3,h4⟩;rw [hL] at h3 h4;exact⟨q,d,h3,h4⟩));have HL:=hid hL;clear hL HFt;go_enter Tryz.func22,Tryz.ntmps22;go_wp2_with (first|(go_at_call 53;(with_reducible refine(HSp.out _).mono ?_);rintro e w1 ⟨p1,c1,rfl,ho,hb1⟩;have HB1:=hid hb1;have HCp:=hid ho.cap;have HTx:=hid ho.tx;clear hb1 ho)|(go_at_call 28;(with_reducible refine(HCk2.out _).mono ?_);rintro e w2 ⟨rfl,hb2⟩;have HB2:=hid (below_out HB1.out hb2);have HT2:=hid (HTx.out.next hb2);clear hb2)|(go_at_call 54;(with_reducible refine(HF2.out _ _ HCp.out _ HT2.out).mono ?_);rintro e w3 ⟨q3,d3,rfl,ho3,hb3⟩;have HO3:=hid (ho3.lowT HB2.out.size);have HB3:=hid (below_out HB2.out hb3);clear hb3 ho3));go_ret3;exact⟨HB3.out,q3,d3,by rw [HL.out];rfl,by rw [HL.out];exact HO3.out⟩
theorem fitsO_check {a path:B}{o:Option (List (B×B))} (h:fitsO a path=some o):checkP a=true:=by
 unfold fitsO at h;cases hc:checkP a with
 |true=>rfl
 |false=>rw [hc] at h;cases h
theorem mx_below {w w':World}{b:Nat} (h:MxAt w) (hb:Below b w w') (hl:0<b):MxAt w':=by
 obtain⟨m,h⟩:=h;exact⟨m,cell_same h (hb.block _ hl)⟩
def TrX (w:World) (X:Nat→Prop) (t:Nat) (P:List (B×Int)) (M:Nat):Prop:=∃ G es v,Tr w t P M G es v∧∀ i,Ft_r G es v i→X i
theorem TrX.keep {w w':World}{X:Nat→Prop}{t:Nat}{P:List (B×Int)}{M:Nat} (h:TrX w X t P M) (hk:∀ i,X i→i<w.heap.size→w'.heap[i]?=w.heap[i]?):TrX w' X t P M:=by
 obtain⟨G,es,v,h1,h2⟩:=h;exact⟨G,es,v,h1.keep (fun i hi hl=>hk i (h2 i hi) hl),h2⟩
theorem addX_any_r {w:World}{X:Nat→Prop}{t:Nat}{P:List (B×Int)}{M:Nat} (h:TrX w X t P M) (hmx:MxAt w) (hM:M+64<1000000) (hP:P.length≤1000000) (p:B) (hp:p.length≤140737488355328) (id:Int):
  Calls Tryz.prog 60 #[.pointer (some ⟨t,0,none⟩),.string (str p),.int .i64 id] w fun e w'=>e= .returned (errOf (addE_r P p))∧TrX w' (fun i=>X i∨(w.heap.size≤i∧i<w'.heap.size)) t (addP_r P p id) (M+64)∧Kept X w w':=by
 obtain⟨G,es,v,h1,h2⟩:=h;refine(add_any_r h1 hmx hM hP p hp id).mono ?_;rintro e w' ⟨he,G',es',v',k1,k2,k3⟩;exact⟨he,⟨G',es',v',k1,fun i hi=>(k3 i hi).elim (fun h=>.inl (h2 i h)) (fun e1=>.inr ⟨e1,k1.ft_lt hi⟩)⟩,k2.mono (fun i _ h=>h2 i h)⟩
def idxP (l:List B):List (B×Int):=l.zipIdx.map fun x=>(x.1,(x.2:Int))
theorem idxP_len (l:List B):(idxP l).length=l.length:=by simp [idxP]
theorem idxP_snoc (l:List B) (s:B):idxP (l++ [s])=idxP l++ [(s,(l.length:Int))]:=by
 unfold idxP;rw [List.zipIdx_append];simp
theorem idxP_at {l:List B}{i:Nat}{s:B} (h:l[i]?=some s):(idxP l)[i]?=some (s,(i:Int)):=by
 unfold idxP;rw [List.getElem?_map,List.getElem?_zipIdx,h];simp
theorem idxP_of {l:List B}{x:B×Int} (h:x∈idxP l):∃ i:Nat,l[i]?=some x.1∧x.2=(i:Int):=by
 obtain⟨i,hi⟩:=List.getElem?_of_mem h;have hl:i<l.length:=by have:=(List.getElem?_eq_some_iff.1 hi).1;rw [idxP_len] at this;exact this
 rw [idxP_at (List.getElem?_eq_getElem hl)] at hi;injection hi with hi
 exact⟨i,by rw [←hi];exact List.getElem?_eq_getElem hl,by rw [←hi]⟩
theorem fitsT_len:∀ (l r:List B) (F:List (B×B)),fitsT l r=some F→F.length≤l.length
 | [],[],F,h=>by simp [fitsT] at h;subst h;exact Nat.le_refl _
 | [],_::_,F,h=>by simp [fitsT] at h
 |_::_,[],F,h=>by simp [fitsT] at h
 |x::l,y::r,F,h=>by
  unfold fitsT at h;split at h
  · injection h with h;subst h;simp
  · split at h
    · split at h
      · cases h
      · cases hf:fitsT l r with
        |none=>rw [hf] at h;cases h
        |some F2=>
         rw [hf] at h;have:=fitsT_len l r F2 hf;injection h with h
         subst h;simp;omega
    · split at h
      · have:=fitsT_len l r F h;simp;omega
      · cases h
theorem fits_few {a path:B}{F:List (B×B)} (h:fitsO a path=some (some F)):F.length≤64:=by
 have hc:=fitsO_check h;obtain⟨t,e,h64,_⟩:=check_parts hc;unfold fitsO at h;split at h
 · injection h with h
   have:=fitsT_len _ _ F h;rw [e] at this;exact Nat.le_trans this h64
 · cases h
def chkN (p:B):Nat:=if checkP p then 0 else 3
theorem chk_prog (p:B) (hp:p.length≤4398046511104) (w:World) (hmx:MxAt w):Calls Tryz.prog 57 #[.string (str p)] w fun e w'=>e= .returned (errOf (chkN p))∧Below w.heap.size w w':=by
 refine(check_any p (by omega) w hmx).mono ?_;rintro e w' ⟨he,hb⟩;refine⟨?_,hb⟩;rw [he];unfold chkN;split <;> rfl
def letterB (c:UInt8):Bool:=decide (97≤c∧c≤122) || decide (65≤c∧c≤90) || decide (48≤c∧c≤57)
def unres (c:UInt8):Bool:=letterB c || ([45,46,95,126]:B).contains c
def plainB (c:UInt8):Bool:=unres c || ([33,36,38,39,40,41,42,43,44,59,61,58,64]:B).contains c
def hexN (c:UInt8):Option Nat:=if 48≤c∧c≤57 then some (c.toNat-48) else if 97≤c∧c≤102 then some (c.toNat-87) else if 65≤c∧c≤70 then some (c.toNat-55) else none
def greatD (d:Nat):UInt8:=if d<10 then UInt8.ofNat (48+d) else UInt8.ofNat (55+d)
def codeOf (c a b:UInt8):Option UInt8:=if c=37 then (match hexN a,hexN b with
 |some x,some y=>some (UInt8.ofNat (x*16+y))
 |_,_=>none) else none
def codeB (v:UInt8):B:=[37,greatD (v.toNat / 16),greatD (v.toNat % 16)]
def made (o:B) (soft:Bool):B→Bool
 | []=>true
 | [c]=>plainB c || o.contains c
 | [c,d]=>(plainB c || o.contains c) && made o soft [d]
 |c::a::b::r=>if plainB c || o.contains c then made o soft (a::b::r) else match codeOf c a b with
  |none=>false
  |some v=>if soft && (decide (v<32) || v== 127) then false else made o soft r
def isPath (s:B):Bool:=decide (s.head? =some 47) && made [47] true s
def meantB:B→B
 | []=>[]
 | [c]=>[c]
 | [c,d]=>[c,d]
 |c::a::b::r=>match codeOf c a b with
  |none=>c::meantB (a::b::r)
  |some v=>(if unres v then [v] else codeB v)++meantB r
def decodeB:B→Option B
 | []=>some []
 | [c]=>if c=37 then none else some [c]
 | [c,d]=>if c=37 then none else (decodeB [d]).map (c:: ·)
 |c::a::b::r=>if c=37 then (match codeOf c a b with
  |none=>none
  |some v=>(decodeB r).map (v:: ·)) else (decodeB (a::b::r)).map (c:: ·)
def encodeB (s:B):B:=s.flatMap fun c=>if unres c then [c] else codeB c
def cutAt (x:UInt8):B→List B
 | []=>[[]]
 |b::l=>if b=x then []::cutAt x l else match cutAt x l with
  | []=>[[b]]
  |p::r=>(b::p)::r
def segs (s:B):List B:=(cutAt 47 s).tail
def joinS (l:List B):B:=l.flatMap fun s=>47::s
def dotsL:List B→List B→Option (List B)
 | [],out=>some out
 |s::r,out=>if s= [46] then (if r= [] then some (out++ [[]]) else dotsL r out)
  else if s= [46,46] then (if out= [] then none else if r= [] then some (out.dropLast++ [[]]) else dotsL r out.dropLast)
  else dotsL r (out++ [s])
def normalB (p:B):Option B:=if isPath p then (dotsL (segs (meantB p)) []).map joinS else none
theorem hex_great:∀ d:Fin 16,hexN (greatD d.1)=some d.1:=by decide
theorem great_small:∀ d:Fin 16,greatD d.1<97∧greatD d.1≠47∧greatD d.1≠37:=by decide
theorem hexN_lt {c:UInt8}{x:Nat} (h:hexN c=some x):x<16:=by
 unfold hexN at h;have hc:c.toNat<256:=c.toNat_lt;split at h
 · rename_i q
   have h1:c.toNat≤57:=by simpa using UInt8.le_iff_toNat_le.1 q.2
   simp only [Option.some.injEq] at h;omega
 split at h
 · rename_i q
   have h1:c.toNat≤102:=by simpa using UInt8.le_iff_toNat_le.1 q.2
   simp only [Option.some.injEq] at h;omega
 split at h
 · rename_i q
   have h1:c.toNat≤70:=by simpa using UInt8.le_iff_toNat_le.1 q.2
   simp only [Option.some.injEq] at h;omega
 · cases h
theorem code_self (v:UInt8):codeOf 37 (greatD (v.toNat / 16)) (greatD (v.toNat % 16))=some v:=by
 have hv:v.toNat<256:=v.toNat_lt;unfold codeOf;rw [if_pos rfl,hex_great ⟨v.toNat / 16,by omega⟩,hex_great ⟨v.toNat % 16,by omega⟩];simp only;congr 1;apply UInt8.toNat_inj.1;rw [UInt8.toNat_ofNat'];omega
theorem code_none {c a b:UInt8} (h:c≠37):codeOf c a b=none:=by unfold codeOf;rw [if_neg h]
theorem unres_ne (c:UInt8) (h:unres c=true):c≠37∧c≠47:=⟨fun e=>by subst e;revert h;decide,fun e=>by subst e;revert h;decide⟩
theorem plain_ne (c:UInt8) (h:plainB c=true):c≠37∧c≠47:=⟨fun e=>by subst e;revert h;decide,fun e=>by subst e;revert h;decide⟩
theorem unres_plain (c:UInt8) (h:unres c=true):plainB c=true:=by unfold plainB;rw [h];rfl
theorem dec_cons {c:UInt8} (h:c≠37):∀ l:B,decodeB (c::l)=(decodeB l).map (c:: ·)
 | []=>by simp [decodeB,h]
 | [d]=>by simp [decodeB,h]
 |a::b::r=>by simp [decodeB,h]
theorem dec_code (v:UInt8) (l:B):decodeB (codeB v++l)=(decodeB l).map (v:: ·):=by
 show decodeB (37::greatD (v.toNat / 16)::greatD (v.toNat % 16)::l)=_;simp [decodeB,code_self]
theorem decode_encode:∀ s:B,decodeB (encodeB s)=some s
 | []=>rfl
 |c::l=>by
  have ih:=decode_encode l;simp only [encodeB,List.flatMap_cons] at ih ⊢;split
  · rename_i h
    rw [List.singleton_append,dec_cons (unres_ne c h).1,ih];rfl
  · rw [dec_code,ih];rfl
inductive Clean:B→Prop
 |nil:Clean []
 |ch {c:UInt8}{l:B}:plainB c=true∨c=47→Clean l→Clean (c::l)
 |cd {v:UInt8}{l:B}:unres v=false→¬v<32→v≠127→Clean l→Clean (codeB v++l)
theorem made_cons {c:UInt8} (h:(plainB c || [47].contains c)=true):∀ l:B,made [47] true (c::l)=made [47] true l
 | []=>by simp only [made];exact h
 | [d]=>by simp only [made];rw [h];rfl
 |a::b::r=>by simp only [made];rw [if_pos h]
theorem made_code {v:UInt8} (h:¬v<32) (h2:v≠127) (l:B):made [47] true (codeB v++l)=made [47] true l:=by
 show made [47] true (37::greatD (v.toNat / 16)::greatD (v.toNat % 16)::l)=_;rw [made,if_neg (by decide),code_self];simp only;rw [if_neg (by simp [h,h2])]
theorem meant_cons {c:UInt8} (h:c≠37):∀ l:B,meantB (c::l)=c::meantB l
 | []=>rfl
 | [d]=>rfl
 |a::b::r=>by simp only [meantB,code_none h]
theorem meant_code (v:UInt8) (l:B):meantB (codeB v++l)=(if unres v then [v] else codeB v)++meantB l:=by
 show meantB (37::greatD (v.toNat / 16)::greatD (v.toNat % 16)::l)=_;simp only [meantB,code_self]
theorem ch_in {c:UInt8} (h:plainB c=true∨c=47):(plainB c || [47].contains c)=true:=by
 rcases h with h|h
 · rw [h];rfl
 · subst h;decide
theorem ch_ne {c:UInt8} (h:plainB c=true∨c=47):c≠37:=by
 rcases h with h|h
 · exact(plain_ne c h).1
 · subst h;decide
theorem ch_out {c:UInt8} (h:(plainB c || [47].contains c)=true):plainB c=true∨c=47:=by
 rw [Bool.or_eq_true] at h;rcases h with h|h
 · exact .inl h
 · simp at h;exact .inr h
theorem clean_meant:∀ p:B,made [47] true p=true→Clean (meantB p)
 | [],_=>.nil
 | [c],h=>by
  simp only [made] at h;exact .ch (ch_out h) .nil
 | [c,d],h=>by
  simp only [made,Bool.and_eq_true] at h;exact .ch (ch_out h.1) (.ch (ch_out h.2) .nil)
 |c::a::b::r,h=>by
  rw [made] at h;split at h
  · rename_i hc
    rw [meant_cons (ch_ne (ch_out hc))];exact .ch (ch_out hc) (clean_meant (a::b::r) h)
  · cases hv:codeOf c a b with
    |none=>rw [hv] at h;cases h
    |some v=>
     rw [hv] at h;simp only at h;split at h
     · cases h
     · rename_i hs
       simp only [Bool.and_eq_true,Bool.or_eq_true,decide_eq_true_eq,beq_iff_eq,true_and,not_or] at hs;simp only [meantB,hv];cases hu:unres v with
       |true=>exact .ch (.inl (unres_plain v hu)) (clean_meant r h)
       |false=>exact .cd hu hs.1 hs.2 (clean_meant r h)
theorem clean_made {m:B} (h:Clean m):∀ l:B,made [47] true (m++l)=made [47] true l∧meantB (m++l)=m++meantB l:=by
 induction h with
 |nil=>intro l;exact⟨rfl,rfl⟩
 |ch hc _ ih=>
  intro l;rw [List.cons_append,made_cons (ch_in hc),meant_cons (ch_ne hc),(ih l).1,(ih l).2];exact⟨rfl,rfl⟩
 |cd hu h1 h2 _ ih=>
  intro l;rw [List.append_assoc,made_code h1 h2,meant_code,hu,(ih l).1,(ih l).2];simp
theorem Clean.made {m:B} (h:Clean m):Go.Proofs.YtlmlljlappjjjaaGreatDoor.made [47] true m=true:=by
 have:=(clean_made h []).1;rw [List.append_nil] at this;rw [this];rfl
theorem Clean.meant {m:B} (h:Clean m):meantB m=m:=by
 have:=(clean_made h []).2;rw [List.append_nil] at this;simpa [meantB] using this
theorem Clean.append {a b:B} (ha:Clean a) (hb:Clean b):Clean (a++b):=by
 induction ha with
 |nil=>exact hb
 |ch hc _ ih=>exact .ch hc ih
 |cd hu h1 h2 _ ih=>rw [List.append_assoc];exact .cd hu h1 h2 ih
theorem cut_ne (x:UInt8) (l:B):cutAt x l≠ []:=by
 cases l with
 |nil=>simp [cutAt]
 |cons b l=>unfold cutAt;split <;> (try split) <;> simp
theorem cut_none {x:UInt8}:∀ l:B,(∀ y∈l,y≠x)→cutAt x l= [l]
 | [],_=>rfl
 |b::l,h=>by
  rw [cutAt,if_neg (h b (by simp)),cut_none l (fun y hy=>h y (by simp [hy]))]
theorem cut_at {x:UInt8}:∀ (p l:B),(∀ y∈p,y≠x)→cutAt x (p++x::l)=p::cutAt x l
 | [],l,_=>by rw [List.nil_append,cutAt,if_pos rfl]
 |b::p,l,h=>by
  rw [List.cons_append,cutAt,if_neg (h b (by simp)),cut_at p l (fun y hy=>h y (by simp [hy]))]
theorem cut_no {x:UInt8}:∀ (l p:B),p∈cutAt x l→∀ y∈p,y≠x
 | [],p,h,y,hy=>by simp [cutAt] at h;subst h;simp at hy
 |b::l,p,h,y,hy=>by
  unfold cutAt at h;split at h
  · rcases List.mem_cons.1 h with rfl|h
    · simp at hy
    · exact cut_no l p h y hy
  · rename_i hb
    split at h
    · simp at h;subst h;simp at hy;rw [hy];exact hb
    · rename_i q r hq
      rcases List.mem_cons.1 h with rfl|h
      · rcases List.mem_cons.1 hy with rfl|hy
        · exact hb
        · exact cut_no l q (by rw [hq];simp) y hy
      · exact cut_no l p (by rw [hq];simp [h]) y hy
def Whole (l:List B):Prop:=∀ s∈l,∀ y∈s,y≠(47:UInt8)
theorem cut_join:∀ (l:List B) (a:B),(∀ y∈a,y≠(47:UInt8))→Whole l→cutAt 47 (a++joinS l)=a::l
 | [],a,ha,_=>by simp only [joinS,List.flatMap_nil,List.append_nil];exact cut_none a ha
 |s::l,a,ha,hl=>by
  have ih:=cut_join l s (hl s (by simp)) (fun t ht=>hl t (by simp [ht]));simp only [joinS,List.flatMap_cons,List.cons_append] at ih ⊢;rw [cut_at a _ ha,ih]
theorem segs_join {l:List B} (h:Whole l):segs (joinS l)=l:=by
 have:=cut_join l [] (by simp) h;rw [List.nil_append] at this;unfold segs;rw [this];rfl
theorem join_segs:∀ l:B,∃ a,cutAt 47 l=a::segs l∧l=a++joinS (segs l)
 | []=>⟨[],rfl,rfl⟩
 |b::l=>by
  obtain⟨a,h1,h2⟩:=join_segs l;by_cases hb:b=47
  · subst hb;have e:segs (47::l)=cutAt 47 l:=by unfold segs;rw [cutAt,if_pos rfl];rfl
    refine⟨[],by rw [e,cutAt,if_pos rfl],?_⟩;rw [e,h1];simp only [joinS,List.flatMap_cons,List.nil_append,List.cons_append];rw [←joinS,←h2]
  · have e:cutAt 47 (b::l)=(b::a)::segs l:=by rw [cutAt,if_neg hb,h1]
    have e2:segs (b::l)=segs l:=by
     show (cutAt 47 (b::l)).tail=segs l;rw [e];rfl
    exact⟨b::a,by rw [e2];exact e,by rw [e2,List.cons_append,←h2]⟩
theorem segs_whole (l:B):Whole (segs l):=fun s hs=>cut_no l s (List.mem_of_mem_tail hs)
theorem join_app (a b:List B):joinS (a++b)=joinS a++joinS b:=by simp [joinS]
theorem clean_split {m:B} (h:Clean m):∀ (a b:B),m=a++47::b→Clean a∧Clean b:=by
 induction h with
 |nil=>intro a b e;cases a <;> simp at e
 | @ch c l hc hl ih=>
  intro a b e;cases a with
  |nil=>
   simp only [List.nil_append,List.cons.injEq] at e;rw [←e.2];exact⟨.nil,hl⟩
  |cons d a=>
   simp only [List.cons_append,List.cons.injEq] at e;obtain⟨h1,h2⟩:=ih a b e.2;rw [←e.1];exact⟨.ch hc h1,h2⟩
 | @cd v l hu h1 h2 hl ih=>
  intro a b e;have hv:v.toNat<256:=v.toNat_lt;obtain⟨g1,g2⟩:=(great_small ⟨v.toNat / 16,by omega⟩);obtain⟨g3,g4⟩:=(great_small ⟨v.toNat % 16,by omega⟩);have e':(37:UInt8)::greatD (v.toNat / 16)::greatD (v.toNat % 16)::l=a++47::b:=e;cases a with
  |nil=>simp at e'
  |cons a0 a=>
   simp only [List.cons_append,List.cons.injEq] at e';obtain⟨rfl,e'⟩:=e';cases a with
   |nil=>simp at e';exact absurd e'.1 g2.1
   |cons a1 a=>
    simp only [List.cons_append,List.cons.injEq] at e';obtain⟨rfl,e'⟩:=e';cases a with
    |nil=>simp at e';exact absurd e'.1 g4.1
    |cons a2 a=>
     simp only [List.cons_append,List.cons.injEq] at e';obtain⟨rfl,e'⟩:=e';obtain⟨i1,i2⟩:=ih a b e';exact⟨.cd hu h1 h2 i1,i2⟩
theorem clean_join:∀ (l:List B) (a:B),Clean (a++joinS l)→Whole l→(∀ s∈l,Clean s)∧Clean a
 | [],a,h,_=>by simpa [joinS] using h
 |s::l,a,h,hw=>by
  simp only [joinS,List.flatMap_cons,List.cons_append] at h;obtain⟨h1,h2⟩:=clean_split h a _ rfl;obtain⟨h3,h4⟩:=clean_join l s h2 (fun t ht=>hw t (by simp [ht]));refine⟨fun t ht=>?_,h1⟩;rcases List.mem_cons.1 ht with rfl|ht
  · exact h4
  · exact h3 t ht
theorem join_clean:∀ l:List B,(∀ s∈l,Clean s)→Clean (joinS l)
 | [],_=>.nil
 |s::l,h=>by
  simp only [joinS,List.flatMap_cons,List.cons_append];exact .ch (.inr rfl) ((h s (by simp)).append (join_clean l fun t ht=>h t (by simp [ht])))
def NoDot (l:List B):Prop:=∀ s∈l,s≠ [46]∧s≠ [46,46]
theorem dots_none:∀ (l out:List B),NoDot l→dotsL l out=some (out++l)
 | [],out,_=>by simp [dotsL]
 |s::r,out,h=>by
  have hs:=h s (by simp);rw [dotsL,if_neg hs.1,if_neg hs.2,dots_none r _ (fun t ht=>h t (by simp [ht]))];simp
theorem dots_out (P:B→Prop) (h0:P []):∀ (l out o:List B),dotsL l out=some o→(∀ s∈l,s≠ [46]→s≠ [46,46]→P s)→(∀ s∈out,P s)→(∀ s∈o,P s)∧(l≠ []∨out≠ []→o≠ [])
  | [],out,o,h,_,ho=>by
    simp only [dotsL,Option.some.injEq] at h
    subst h
    exact⟨ho,fun q=>q.resolve_left (by simp)⟩
  |s::r,out,o,h,hl,ho=>by
    have last:∀ x:List B,(∀ s∈x,P s)→(∀ s∈x++ [[]],P s):=fun x hx s hs=>by
      rcases List.mem_append.1 hs with hs|hs
      · exact hx s hs
      · simp at hs
        rw [hs]
        exact h0
    have drop:∀ s∈out.dropLast,P s:=fun s hs=>ho s (List.dropLast_subset _ hs)
    rw [dotsL] at h
    split at h
    · split at h
      · simp only [Option.some.injEq] at h
        subst h
        exact⟨last _ ho,fun _=>by simp⟩
      · rename_i hr
        obtain⟨a1,a2⟩:=dots_out P h0 r out o h (fun t ht=>hl t (by simp [ht])) ho
        exact⟨a1,fun _=>a2 (.inl hr)⟩
    · rename_i hs1
      split at h
      · split at h
        · cases h
        · split at h
          · simp only [Option.some.injEq] at h
            subst h
            exact⟨last _ drop,fun _=>by simp⟩
          · rename_i hr
            obtain⟨a1,a2⟩:=dots_out P h0 r _ o h (fun t ht=>hl t (by simp [ht])) drop
            exact⟨a1,fun _=>a2 (.inl hr)⟩
      · rename_i hs2
        obtain⟨a1,a2⟩:=dots_out P h0 r _ o h (fun t ht=>hl t (by simp [ht])) (fun t ht=>by
          rcases List.mem_append.1 ht with ht|ht
          · exact ho t ht
          · simp at ht
            rw [ht]
            exact hl s (by simp) hs1 hs2)
        exact⟨a1,fun _=>a2 (.inr (by simp))⟩
structure Meant (s:B) (o:List B):Prop where
 eq:s=joinS o
 ne:o≠ []
 clean:∀ t∈o,Clean t
 whole:Whole o
 nodot:NoDot o
theorem normal_meant {p s:B} (h:normalB p=some s):∃ o,Meant s o:=by
 unfold normalB at h;split at h
 · rename_i hp
   cases hd:dotsL (segs (meantB p)) [] with
   |none=>rw [hd] at h;cases h
   |some o=>
    rw [hd] at h;simp only [Option.map_some,Option.some.injEq] at h;simp only [isPath,Bool.and_eq_true,decide_eq_true_eq] at hp;have hm:=clean_meant p hp.2;obtain⟨a,ha1,ha2⟩:=join_segs (meantB p);have hw:=segs_whole (meantB p);have hc:∀ t∈segs (meantB p),Clean t:=by
     have:Clean (a++joinS (segs (meantB p))):=by rw [←ha2];exact hm
     exact(clean_join _ a this hw).1
    have hne:segs (meantB p)≠ []:=by
     cases p with
     |nil=>simp at hp
     |cons c l=>
      simp only [List.head?_cons,Option.some.injEq] at hp;obtain⟨rfl,_⟩:=hp;rw [meant_cons (by decide)];show (cutAt 47 (47::meantB l)).tail≠ [];rw [cutAt,if_pos rfl];exact cut_ne 47 _
    obtain⟨h1,h2⟩:=dots_out (fun t=>Clean t∧(∀ y∈t,y≠(47:UInt8))∧t≠ [46]∧t≠ [46,46]) ⟨.nil,by simp,by simp,by simp⟩ _ _ _ hd (fun t ht e1 e2=>⟨hc t ht,hw t ht,e1,e2⟩) (by simp);exact⟨o,h.symm,h2 (.inl hne),fun t ht=>(h1 t ht).1,fun t ht=>(h1 t ht).2.1,fun t ht=>(h1 t ht).2.2⟩
 · cases h
theorem Meant.path {s:B}{o:List B} (h:Meant s o):isPath s=true:=by
 have hc:=join_clean o h.clean;rw [←h.eq] at hc;unfold isPath;rw [hc.made];obtain⟨t,r,rfl⟩:∃ t r,o=t::r:=by
  cases o with
  |nil=>exact absurd rfl h.ne
  |cons t r=>exact⟨t,r,rfl⟩
 rw [h.eq];simp [joinS]
theorem Meant.normal {s:B}{o:List B} (h:Meant s o):normalB s=some s:=by
 have hc:=join_clean o h.clean;rw [←h.eq] at hc;unfold normalB;rw [if_pos h.path,hc.meant];conv=>lhs;rw [h.eq]
 rw [segs_join h.whole,dots_none o [] h.nodot,List.nil_append,Option.map_some,←h.eq]
theorem normal_twice {p s:B} (h:normalB p=some s):normalB s=some s:=by
 obtain⟨o,ho⟩:=normal_meant h;exact ho.normal
def decP:B→B
 | []=>[]
 | [c]=>[c]
 | [c,d]=>[c,d]
 |c::a::b::r=>match codeOf c a b with
  |none=>c::decP (a::b::r)
  |some v=>v::decP r
def madeP (p q:UInt8→Bool):B→Bool
 | []=>true
 | [c]=>decide (c≠37) && p c
 | [c,d]=>decide (c≠37) && p c && (decide (d≠37) && p d)
 |c::a::b::r=>if c=37 then (match codeOf c a b with
  |none=>false
  |some v=>q v && madeP p q r) else p c && madeP p q (a::b::r)
def softC (c:UInt8):Bool:=decide (32≤c) && decide (c≠127)
def inPathC (c:UInt8):Bool:=c== 47 || plainB c
theorem inPath_eq (c:UInt8):inPathC c=(plainB c || ([47]:B).contains c):=by
 unfold inPathC;rw [Bool.or_comm];simp only [List.contains_cons,List.contains_nil,Bool.or_false]
theorem in37 (o:B) (h:o.contains 37=false):(plainB 37 || o.contains 37)=false:=by rw [h];decide
theorem made_is {p q:UInt8→Bool}{o:B}{soft:Bool} (hp:∀ c,p c=(plainB c || o.contains c)) (ho:o.contains 37=false) (hq:∀ v,q v= !(soft && (decide (v<32) || v== 127))):∀ s:B,madeP p q s=made o soft s
 | []=>rfl
 | [c]=>by
  simp only [madeP,made];rw [hp];by_cases hc:c=37
  · rw [hc,in37 o ho];simp
  · simp [hc]
 | [c,d]=>by
  simp only [madeP,made];rw [hp,hp];by_cases hc:c=37
  · rw [hc,in37 o ho];simp
  · by_cases hd:d=37
    · rw [hd,in37 o ho];simp
    · simp [hc,hd]
 |c::a::b::r=>by
  rw [madeP,made];by_cases hc:c=37
  · rw [if_pos hc,if_neg (by rw [hc,in37 o ho];simp)];cases hv:codeOf c a b with
    |none=>rfl
    |some v=>
     simp only;rw [hq,made_is hp ho hq r];cases (soft && (decide (v<32) || v== 127)) <;> rfl
  · rw [if_neg hc,hp,made_is hp ho hq (a::b::r)];by_cases h:(plainB c || o.contains c)=true
    · rw [if_pos h,h];rfl
    · rw [if_neg h,code_none hc];rw [Bool.not_eq_true] at h;rw [h];rfl
theorem path_made (s:B):madeP inPathC softC s=made [47] true s:=by
 refine made_is inPath_eq (by decide) (fun v=>?_) s;unfold softC;rw [Bool.eq_iff_iff];simp only [Bool.and_eq_true,decide_eq_true_eq,Bool.not_eq_true',Bool.true_and,Bool.or_eq_false_iff,decide_eq_false_iff_not,beq_eq_false_iff_ne,ne_eq,UInt8.not_lt]
def toCome (rest:B) (more:Bool):List B:=if more then cutAt 47 rest else []
theorem come_cut (rest:B):toCome rest true=(cutF 47 rest).1::toCome (cutF 47 rest).2.1 (cutF 47 rest).2.2:=by
 show cutAt 47 rest=_;obtain⟨h1,h2,h3⟩:=cutF_spec 47 rest;cases h:(cutF 47 rest).2.2 with
 |true=>
  rw [h] at h2;simp only [if_true] at h2;conv=>lhs;rw [h2]
  rw [cut_at _ _ h1];rfl
 |false=>
  rw [h] at h2;simp only [Bool.false_eq_true,if_false,List.append_nil] at h2;conv=>lhs;rw [h2]
  rw [cut_none _ h1];rfl
theorem come_nil (rest:B) (more:Bool):toCome rest more= []↔more=false:=by
 cases more with
 |true=>simp [toCome,cut_ne]
 |false=>simp [toCome]
end Go.Proofs.YtlmlljlappjjjaaGreatDoor
