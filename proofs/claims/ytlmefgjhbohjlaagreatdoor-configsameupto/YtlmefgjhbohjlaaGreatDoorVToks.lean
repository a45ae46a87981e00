/- The labels of a host and of a pattern, by the document. -/
import Derived.Test.YtlmefgjhbohjlaaGreatDoorSPlain
import Derived.Laws.AppendOwnNone
import Derived.Lib.Join
import Derived.Lib.Bytealg
namespace Go.Proofs.YtlmefgjhbohjlaaGreatDoor
set_option maxRecDepth 20000
set_option maxHeartbeats 8000000
open Go.RowKit
theorem row_lenH {w:World}{b n sz L c:Nat}{T:TypeId}{p:Option Addr}{xs:List Value} (h:w.ownsRow b T sz (.slice p L c) n xs):L=n:=by
 rcases h.2 with ⟨h1,h2⟩|⟨g,cap,cur,h1,_⟩
 · injection h1 with _ h3;omega
 · injection h1
def LbAt (w:World) (p:Option Addr) (l:List B):Prop:=∀ (j:Nat) (t:B),l[j]?=some t→∃ g o,p=some ⟨g,o,none⟩∧w.cell? ⟨g,o+j,none⟩=some (.string (str t))
theorem OwnS.lb {w:World}{base n c:Nat}{p:Option Addr}{l:List B} (h:OwnS w base (.slice p n c) l):LbAt w p l:=fun _ _ hj=>h.at hj
theorem LbAt.next {w w':World}{p:Option Addr}{l:List B} (h:LbAt w p l) (hb:Below w.heap.size w w'):LbAt w' p l:=by
 intro j t hj;obtain⟨g,o,e,hc⟩:=h j t hj;exact⟨g,o,e,cell_keep hb hc⟩
theorem labsH_some {wild:Bool}{s:B}{x:List B} (h:labsH wild s=some x):s≠ []∧s.length≤253∧x=(cutH s).map lowH∧x.length≤254∧x≠ []:=by
 unfold labsH at h;split at h
 · cases h
 · rename_i h1
   split at h
   · injection h with h
     subst h;have:=cutH_len s;refine⟨fun e=>h1 (.inl e),Nat.le_of_not_lt (fun e=>h1 (.inr e)),rfl,?_,?_⟩
     · rw [List.length_map];have h2:¬253<s.length:=fun e=>h1 (.inr e)
       omega
     · intro e;exact cutH_ne s (List.map_eq_nil_iff.1 e)
   · cases h
theorem star_or (S:ByteArray) {a:B} (h:str a=S):(a=starL∧S=(⟨#[42]⟩:ByteArray))∨(¬a=starL∧¬S=(⟨#[42]⟩:ByteArray)):=by
 by_cases e:a=starL
 · exact .inl ⟨e,by rw [←h,e];rfl⟩
 · exact .inr ⟨e,fun h1=>e (str_inj (by rw [h,h1];rfl))⟩
theorem star_not {S:ByteArray} (h:¬S=(⟨#[42]⟩:ByteArray)):(S.toList== [42])=false:=by
 have h:=ne_list h;rw [ByteArray.toList_eq,ByteArray.toList_eq] at h;rw [ByteArray.toList_eq];exact h
def patH (p:B):Option (List B):=if p= [] then some [] else labsH true p
theorem patH_ne {p:B} (h:p≠ []):patH p=labsH true p:=if_neg h
def markU (x:B):UInt8:=if x=starL then 49 else 48
def shapeS (l:List B):B:=l.reverse.map markU
def pickS:List B→B→List B
 |x::l,c::s=>if c=48 then x::pickS l s else pickS l s
 |_,_=>[]
def joinH (l:List B):B:=Lib.join l [46]
theorem joinH_one (x:B):joinH [x]=x:=Lib.join_one x _
theorem joinH_more (x y:B) (l:List B):joinH (x::y::l)=x++46::joinH (y::l):=by
 unfold joinH;rw [Lib.join_cons,Lib.join_cons];simp [Lib.joinTail]
theorem pick_mem:∀ {l:List B}{s:B}{x:B},x∈pickS l s→x∈l
 | [],s,x,h=>by simp [pickS] at h
 |y::l,[],x,h=>by simp [pickS] at h
 |y::l,c::s,x,h=>by
  unfold pickS at h;split at h
  · rcases List.mem_cons.1 h with h|h
    · exact List.mem_cons.2 (.inl h)
    · exact List.mem_cons.2 (.inr (pick_mem h))
  · exact List.mem_cons.2 (.inr (pick_mem h))
theorem shape_len (x:List B):(shapeS x).length=x.length:=by unfold shapeS;simp
def underS (h:List B) (sh:B):Option B:=if sh≠ []∧sh.length≠h.length then none else some (joinH (pickS h.reverse sh))
def keyS (x:List B):B×B:=(shapeS x,joinH (pickS x.reverse (shapeS x)))
theorem under_self (x:List B):underS x (shapeS x)=some (keyS x).2:=by
 unfold underS keyS;rw [if_neg (fun h=>h.2 (shape_len x))]
open Go.RowKit Go.Maps
structure Kept (F:Nat→Prop) (w w':World):Prop where
 os:w'.os=w.os
 tape:w'.tape=w.tape
 output:w'.output=w.output
 size:w.heap.size≤w'.heap.size
 block:∀ k,k<w.heap.size→¬F k→w'.heap[k]?=w.heap[k]?
theorem Kept.below {F:Nat→Prop}{a b:World}{n:Nat} (h:Kept F a b) (hn:n≤a.heap.size) (hf:∀ i,F i→n≤i):Below n a b:=
 ⟨h.os,h.tape,h.output,h.size,fun i hi=>h.block i (Nat.lt_of_lt_of_le hi hn) (fun hk=>by have:=hf i hk;omega)⟩
theorem cell_same {w w':World}{b o:Nat}{v:Value} (h:w.cell? ⟨b,o,none⟩=some v) (e:w'.heap[b]?=w.heap[b]?):w'.cell? ⟨b,o,none⟩=some v:=by
 unfold World.cell? at h ⊢;dsimp only at h ⊢;rw [e];exact h
def OwnR {α:Type} (T:TypeId) (sz:Nat) (f:α→List Value) (w:World) (base:Nat) (v:Value) (l:List α):Prop:=w.ownsRow base T sz v l.length (l.flatMap f)
theorem flat_at {α:Type}{sz:Nat}{f:α→List Value} (hf:∀ x,(f x).length=sz):∀ (l:List α) (j:Nat) (x:α),l[j]?=some x→∀ (t:Nat) (u:Value),t<sz→(f x)[t]?=some u→(l.flatMap f)[sz*j+t]?=some u
 | [],j,x,h,_,_,_,_=>by simp at h
 |y::l,0,x,h,t,u,ht,hu=>by
  simp at h;subst h;rw [List.flatMap_cons,Nat.mul_zero,Nat.zero_add,List.getElem?_append_left (by rw [hf];exact ht)];exact hu
 |y::l,j+1,x,h,t,u,ht,hu=>by
  have ih:=flat_at hf l j x (by simpa using h) t u ht hu;rw [List.flatMap_cons,List.getElem?_append_right (by rw [hf,Nat.mul_succ];omega),hf,show sz*(j+1)+t-sz=sz*j+t by rw [Nat.mul_succ];omega];exact ih
section
variable {α : Type} {T : TypeId} {sz : Nat} {f : α → List Value}
theorem OwnR.nil (w:World) (base:Nat):OwnR T sz f w base (.slice none 0 0) []:=⟨by simp,.inl ⟨rfl,rfl⟩⟩
theorem OwnR.put {w':World}{base n:Nat}{v':Value}{acc:List α}{x:α} (hn:acc.length=n) (h:w'.ownsRow base T sz v' (n+1) (acc.flatMap f++f x)):OwnR T sz f w' base v' (acc++ [x]):=by
 subst hn;unfold OwnR;rw [List.length_append,List.flatMap_append];simpa using h
theorem OwnR.below {w w':World}{base:Nat}{v:Value}{acc:List α} (h:OwnR T sz f w base v acc) (hb:base≤w.heap.size) (hg:w.grownBy w' v.ownBlock):Below base w w':=
 ⟨hg.os,hg.tape,hg.output,hg.size,fun k hk=>hg.block k (Nat.lt_of_lt_of_le hk hb) (fun e=>by have:=own_ge h e.symm;omega)⟩
theorem OwnR.keepB {w w':World}{base:Nat}{v:Value}{acc:List α} (h:OwnR T sz f w base v acc) (hb:∀ g,v.ownBlock=some g→w'.heap[g]?=w.heap[g]?):OwnR T sz f w' base v acc:=by
 refine⟨h.1,?_⟩;rcases h.2 with h1|⟨g,cap,cur,h1,h2,h3,h4⟩
 · exact .inl h1
 · exact .inr ⟨g,cap,cur,h1,h2,(hb g (by rw [h1];rfl)).trans h3,h4⟩
theorem OwnR.lt {w:World}{base g:Nat}{v:Value}{acc:List α} (h:OwnR T sz f w base v acc) (e:v.ownBlock=some g):g<w.heap.size:=by
 rcases h.2 with ⟨h1,_⟩|⟨g',cap,cur,h1,h2,h3,h4⟩
 · rw [h1] at e;cases e
 · rw [h1] at e;obtain rfl:g'=g:=by simpa [Value.ownBlock] using e
   exact lt_of_heap h3
theorem OwnR.keep {w w':World}{base:Nat}{v:Value}{acc:List α} (h:OwnR T sz f w base v acc) (hb:Below w.heap.size w w'):OwnR T sz f w' base v acc:=h.keepB fun g e=>hb.block g (h.lt e)
theorem OwnR.alloc {w:World}{base:Nat}{v:Value}{acc:List α} (h:OwnR T sz f w base v acc) (o:Obj):OwnR T sz f (w.alloc o) base v acc:=h.keep (below_new w o)
theorem OwnR.lower {w:World}{base b':Nat}{v:Value}{acc:List α} (h:OwnR T sz f w base v acc) (hb:b'≤base):OwnR T sz f w b' v acc:=by
 refine⟨h.1,?_⟩;rcases h.2 with h1|⟨g,cap,cur,h1,h2,h3⟩
 · exact .inl h1
 · exact .inr ⟨g,cap,cur,h1,Nat.le_trans hb h2,h3⟩
theorem OwnR.at {w:World}{base n c j:Nat}{p:Option Addr}{l:List α}{x:α} (hf:∀ x,(f x).length=sz) (h:OwnR T sz f w base (.slice p n c) l) (hj:l[j]?=some x):∃ g,p=some ⟨g,0,none⟩∧∀ (t:Nat) (u:Value),(f x)[t]?=some u→w.cell? ⟨g,sz*j+t,none⟩=some u:=by
 have hlt:j<l.length:=(List.getElem?_eq_some_iff.1 hj).1;rcases h.2 with ⟨h1,h2⟩|⟨g,cap,cur,h1,h2,h3,h4,_,h6,h7⟩
 · omega
 · refine⟨g,by cases h1;rfl,fun t u hu=>?_⟩;have ht:t<sz:=by rw [←hf x];exact(List.getElem?_eq_some_iff.1 hu).1
   have k1:=flat_at hf l j x hj t u ht hu;have hm:sz*j+t<l.length*sz:=by
    have:=Nat.mul_le_mul_right sz (Nat.succ_le_of_lt hlt);rw [Nat.succ_mul,Nat.mul_comm j sz] at this;omega
   rw [←h7,List.getElem?_take,if_pos hm] at k1;simp only [World.cell?,h3];simpa using k1
theorem OwnR.aside {T':TypeId}{sz' n':Nat}{xs':List Value}{w w':World}{base base':Nat}{v v':Value}{acc:List α} (h:OwnR T sz f w base v acc) (h':w.ownsRow base' T' sz' v' n' xs') (hT:T≠T') (hg:w.grownBy w' v'.ownBlock):OwnR T sz f w' base v acc:=by
 refine h.keepB fun g e=>hg.block g (h.lt e) (fun e'=>?_)
 rcases h.2 with ⟨h1,_⟩|⟨g1,cap,cur,h1,h2,h3,h4⟩
 · rw [h1] at e;cases e
 · rw [h1] at e;obtain rfl:g1=g:=by simpa [Value.ownBlock] using e
   rcases h'.2 with ⟨k1,_⟩|⟨g2,cap2,cur2,k1,k2,k3,k4⟩
   · rw [k1] at e';cases e'
   · rw [k1] at e';obtain rfl:g1=g2:=by simpa [Value.ownBlock] using e'
     rw [h3] at k3;injection k3 with k3
     injection k3 with _ k5 _
     exact hT k5
end
theorem OwnR.set {α:Type}{T:TypeId}{sz:Nat}{f:α→List Value}{w:World}{base b o:Nat}{v u:Value}{acc:List α} (h:OwnR T sz f w base v acc) (hb:v.ownBlock≠some b):OwnR T sz f (w.setCell ⟨b,o,none⟩ u) base v acc:=
 h.keepB fun g e=>RowKit.Below.heap_setCell w ⟨b,o,none⟩ u g (fun e'=>hb (by rw [e,e']))
theorem ownR_S {w:World}{b:Nat}{v:Value}{l:List B} (h:OwnR 9 1 (fun t:B=>[.string (str t)]) w b v l):OwnS w b v l:=by
 unfold OwnR at h;unfold OwnS strC;rw [show (l.flatMap fun t:B=>[Value.string (str t)])=l.map fun t:B=>Value.string (str t) by clear h;induction l <;> simp_all] at h;exact h
theorem cutT_len:∀ s:B,(cutT s).length≤s.length+1
 | []=>Nat.le_refl _
 |c::s=>by
  have ih:=cutT_len s;rw [cutT_cons];split
  · simp;omega
  · split
    · simp
    · rename_i y l e
      rw [e] at ih;simp at ih ⊢;omega
def TxAt (w:World) (p:Option Addr) (l:List B):Prop:=∀ (j:Nat) (t:B),l[j]?=some t→∃ g o,p=some ⟨g,o,none⟩∧w.cell? ⟨g,o+j,none⟩=some (.string (str t))
theorem OwnS.tx {w:World}{base n c:Nat}{p:Option Addr}{l:List B} (h:OwnS w base (.slice p n c) l):TxAt w p l:=fun _ _ hj=>h.at hj
theorem TxAt.next {w w':World}{p:Option Addr}{l:List B} (h:TxAt w p l) (hb:Below w.heap.size w w'):TxAt w' p l:=by
 intro j t hj;obtain⟨g,o,e,hc⟩:=h j t hj;exact⟨g,o,e,cell_keep hb hc⟩
theorem joinT_mem:∀ {l:List B}{x:B},x∈l→x.length≤(joinT l).length
 | [],_,h=>by cases h
 | [y],x,h=>by
  simp at h;subst h;exact Nat.le_refl _
 |y::z::l,x,h=>by
  show x.length≤(y++47::joinT (z::l)).length;simp only [List.length_append,List.length_cons];rcases List.mem_cons.1 h with h1|h1
  · subst h1;omega
  · have:=joinT_mem h1;omega
def begB (x:UInt8) (s:B):Bool:=match s with
 |c::_=>decide (c=x)
 | []=>false
theorem hasp_lite (x:UInt8) (s:B) (hs:s.length≤140737488355328) (w:World):Calls Tryz.prog 351 #[.string (str s),.string ⟨#[x]⟩] w fun e w'=>e= .returned (.bool (begB x s))∧w'=w:=by
 cases s with
 |nil=>
  show Calls Tryz.prog 351 #[.string ⟨#[]⟩,.string ⟨#[x]⟩] w _;have hz:(⟨#[x]⟩:ByteArray).size=1:=rfl;obtain⟨X,hX⟩:∃ X:ByteArray,⟨#[x]⟩=X:=⟨_,rfl⟩;rw [hX] at hz ⊢;clear hX;go_enter Tryz.func351,Tryz.ntmps351;go_wp2;go_ret;exact⟨rfl,rfl⟩
 |cons b t=>
  obtain⟨m,hm⟩:∃ m,t.length=m:=⟨_,rfl⟩;have hm2:m≤140737488355328:=by rw [←hm];simp at hs;omega
  obtain⟨S,hS⟩:∃ S,str (b::t)=S:=⟨_,rfl⟩;have hSn:S.size=m+1:=by rw [←hS,str_size,←hm];rfl
  have hx1:S.extract 0 1=str [b]:=by rw [←hS,ext_str];rfl
  obtain⟨X,hX⟩:∃ X:ByteArray,⟨#[x]⟩=X:=⟨_,rfl⟩;have hz:X.size=1:=by rw [←hX];rfl
  by_cases hc:b=x
  · have hx2:S.extract 0 1=X:=by rw [hx1,hc];exact hX
    have hv:begB x (b::t)=true:=decide_eq_true hc;rw [hv,hS,hX];clear hS hX hc hv hm hx1;go_enter Tryz.func351,Tryz.ntmps351;go_wp2;go_ret;exact⟨rfl,rfl⟩
  · have hx2:¬S.extract 0 1=X:=fun e=>hc (by
     rw [hx1,←hX] at e;have:=congrArg (fun a:ByteArray=>a.data.toList) e;simpa using this)
    have hx3:((S.extract 0 1).toList== X.toList)=false:=ne_list hx2;have hv:begB x (b::t)=false:=decide_eq_false hc;rw [hv,hS,hX];clear hS hX hc hv hm hx1;go_enter Tryz.func351,Tryz.ntmps351;go_wp2;go_ret;exact⟨rfl,rfl⟩
theorem hasp_any (x:UInt8) (s:B) (hs:s.length≤140737488355328) (w:World):Calls Tryz.prog 311 #[.string (str s),.string ⟨#[x]⟩] w fun e w'=>e= .returned (.bool (begB x s))∧w'=w:=by
 have HL:=hid (fun W:World=>hasp_lite x s hs W);obtain⟨S,hS⟩:∃ S,str s=S:=⟨_,rfl⟩;obtain⟨X,hX⟩:∃ X:ByteArray,⟨#[x]⟩=X:=⟨_,rfl⟩;rw [hS,hX] at HL ⊢;go_enter Tryz.func311,Tryz.ntmps311;go_wp2_with (go_at_call 351;(with_reducible refine(HL.out _).mono ?_);rintro e w1 ⟨rfl,hw1⟩;subst w1);go_ret;exact⟨rfl,rfl⟩
theorem begins_any (s:B) (hs:s.length≤140737488355328) (w:World):Calls Tryz.prog 271 #[.string (str s)] w fun e w'=>e= .returned (.bool (begB 47 s))∧w'=w:=by
 have HL:=hid (fun W:World=>hasp_any 47 s hs W);obtain⟨S,hS⟩:∃ S,str s=S:=⟨_,rfl⟩;rw [hS] at HL ⊢;go_enter Tryz.func271,Tryz.ntmps271;go_wp2_with (go_at_call 311;(with_reducible refine(HL.out _).mono ?_);rintro e w1 ⟨rfl,hw1⟩;subst w1);go_ret;exact⟨rfl,rfl⟩
def cutP (x:UInt8) (s:B):B:=if begB x s then s.tail else s
theorem cutp_lite (x:UInt8) (s:B) (hs:s.length≤140737488355328) (w:World):Calls Tryz.prog 352 #[.string (str s),.string ⟨#[x]⟩] w fun e w'=>e= .returned (.tuple #[.string (str (cutP x s)),.bool (begB x s)])∧w'=w:=by
 have HL:=hid (fun W:World=>hasp_lite x s hs W);obtain⟨n,hn⟩:∃ n,s.length=n:=⟨_,rfl⟩;obtain⟨S,hS⟩:∃ S,str s=S:=⟨_,rfl⟩;have hSn:S.size=n:=by rw [←hS,str_size,hn]
 obtain⟨X,hX⟩:∃ X:ByteArray,⟨#[x]⟩=X:=⟨_,rfl⟩;have hz:X.size=1:=by rw [←hX];rfl
 cases hb:begB x s with
 |false=>
  have e1:str (cutP x s)=S:=by unfold cutP;rw [hb,if_neg (by decide)];exact hS
  rw [hb] at HL;rw [e1];rw [hS,hX] at HL ⊢;clear hS hX hb e1;go_enter Tryz.func352,Tryz.ntmps352;go_wp2_with (go_at_call 351;(with_reducible refine(HL.out _).mono ?_);rintro e w1 ⟨rfl,hw1⟩;subst w1);go_ret2;exact⟨rfl,rfl⟩
 |true=>
  have h1:1≤n:=by
   rw [←hn];cases s with
   |nil=>cases hb
   |cons _ _=>simp
  have HE:=hid (show S.extract 1 n=str (cutP x s) from by rw [←hS,ext_drop s 1 n hn];unfold cutP;rw [hb,if_pos rfl,List.drop_one]);obtain⟨T,hT⟩:∃ T,str (cutP x s)=T:=⟨_,rfl⟩;have hn2:n≤140737488355328:=by omega
  rw [hT] at HE ⊢;rw [hb] at HL;rw [hS,hX] at HL ⊢;have he:=HE.out;clear hS hX hb hT hn HE;go_enter Tryz.func352,Tryz.ntmps352;go_wp2_with (go_at_call 351;(with_reducible refine(HL.out _).mono ?_);rintro e w1 ⟨rfl,hw1⟩;subst w1);go_ret2;exact⟨rfl,rfl⟩
theorem cutp_any (x:UInt8) (s:B) (hs:s.length≤140737488355328) (w:World):Calls Tryz.prog 312 #[.string (str s),.string ⟨#[x]⟩] w fun e w'=>e= .returned (.tuple #[.string (str (cutP x s)),.bool (begB x s)])∧w'=w:=by
 have HL:=hid (fun W:World=>cutp_lite x s hs W);obtain⟨S,hS⟩:∃ S,str s=S:=⟨_,rfl⟩;obtain⟨X,hX⟩:∃ X:ByteArray,⟨#[x]⟩=X:=⟨_,rfl⟩;rw [hS,hX] at HL ⊢;go_enter Tryz.func312,Tryz.ntmps312;go_wp2_with (go_at_call 352;(with_reducible refine(HL.out _).mono ?_);rintro e w1 ⟨rfl,hw1⟩;subst w1);go_ret2;exact⟨rfl,rfl⟩
def visU (c:UInt8):Bool:=visB (c.toNat:Int)
def tokT (s:B):Bool:=isTok (str s)
theorem vis_stop {s:B}{k:Nat} (h:k<s.length) (hv:visU s[k]=false):s.all visU=false:=by
 rw [List.all_eq_false];exact⟨s[k],List.getElem_mem h,by simp [hv]⟩
theorem isvis_any (s:B) (hs:s.length≤140737488355328) (w:World):Calls Tryz.prog 313 #[.string (str s)] w fun e w'=>e= .returned (.bool (s.all visU))∧w'=w:=by
 obtain⟨n,hn⟩:∃ n,s.length=n:=⟨_,rfl⟩;have HN:=hid hn;obtain⟨S,hS⟩:∃ S,str s=S:=⟨_,rfl⟩;have hSn:S.size=n:=by rw [←hS,str_size,hn]
 have HByte:=hid (show ∀ (k:Nat) (h:k<s.length) (h2:k<S.size),S[k]'h2=s[k]'h from fun k h h2=>by subst hS;rfl);have hn2:n≤140737488355328:=by omega
 rw [hS];clear hS hn hs;go_enter Tryz.func313,Tryz.ntmps313;go_wp2;go_loop [6] (fun i=>∃ k:Nat,k≤n∧i= .int .i64 k∧(s.take k).all visU=true) (fun i=>n-(intOf i).toNat)
 case atStart=>exact⟨0,Nat.zero_le _,rfl,rfl⟩
 case round=>
  obtain⟨k,hk,rfl,hall⟩:=hrel;by_cases hlt:k<n
  · have h3:k<s.length:=by rw [HN.out];exact hlt
    obtain⟨y,hy⟩:∃ y,s[k]=y:=⟨_,rfl⟩;obtain⟨Y,hY⟩:∃ Y:Nat,y.toNat=Y:=⟨_,rfl⟩;have hY256:Y<256:=by rw [←hY];exact y.toNat_lt
    have hbyte:∀ h:k<S.size,(S[k]'h).toNat=Y:=fun h=>by rw [HByte.out k h3 h,hy,hY]
    have hvy:visU y=visB (Y:Int):=by unfold visU;rw [hY]
    have HA:=hid hall;have HT:=hid (show (s.take (k+1)).all visU=(visB (Y:Int)) from by rw [List.take_succ_eq_append_getElem h3,List.all_append,hall,hy];simp [hvy]);have HF:=hid (show visB (Y:Int)=false→s.all visU=false from fun h=>vis_stop h3 (by rw [hy,hvy];exact h));clear hy hY hall hvy;cases hv:visB (Y:Int) with
    |true=>
     go_wp2_with (go_at_call 353;refine(visible_any _ _ (by omega) (by omega)).mono ?_;rintro e w' ⟨rfl,rfl⟩);go_round
     case rel=>exact⟨k+1,by omega,by go_num,by rw [HT.out,hv]⟩
     case measure=>simp [intOf];omega
    |false=>
     go_wp2_with (go_at_call 353;refine(visible_any _ _ (by omega) (by omega)).mono ?_;rintro e w' ⟨rfl,rfl⟩);go_ret;exact⟨ret_bool (HF.out hv).symm,rfl⟩
  · obtain rfl:n=k:=by omega
    have HA:=hid (show s.all visU=true from by rw [List.take_of_length_le (by rw [HN.out];exact Nat.le_refl _)] at hall;exact hall);clear hall;go_wp2;go_ret;exact⟨ret_bool HA.out.symm,rfl⟩
def segX (x:B):B:=if kindT x=0 then x else x.tail
def okS (x:B):Bool:=if kindT x=0 then x.all visU else tokT x.tail
theorem beg_colon (x:B):begB 58 x=decide (kindT x=1):=by
 unfold begB kindT;split
 · rename_i c t
   by_cases h:c=58
   · simp [h]
   · by_cases h2:c=42 <;> simp [h,h2]
 · rfl
theorem beg_star {x:B} (h1:¬kindT x=1):begB 42 x=decide (kindT x=2):=by
 unfold begB;unfold kindT at h1 ⊢;split
 · rename_i c t
   by_cases h:c=58
   · simp [h] at h1
   · by_cases h2:c=42 <;> simp [h,h2]
 · rfl
theorem seg_size:(Tryz.prog.info? 329).map (·.size)=some 2:=by kernel_rfl
theorem results_seg {fn:Func}{p u:Tmp} (h:fn.results= #[.cell p 329,.tmp u]) (tmps:Array Value) (w:World) (g:Nat) (t:TypeId) (cs:Array Value) (fr:Nat×Nat)
 (hp:tmps.getD p undef= .pointer (some ⟨g,0,none⟩)) (hg:w.heap[g]?=some (.cells cs t fr)) (hs:cs.size=2):(results fn tmps).run Tryz.prog w= .ok (.tuple #[.agg cs,tmps.getD u undef]) w:=by
 have hl:=run_loadVar_row (P:=Tryz.prog) w g t 329 cs fr _ hg Tryz.underlying329 rfl (by rw [seg_size,hs]);rw [results_cell_tmp h,hp];simp [asAddr,Result.andThen,hl]
theorem segof_any (x:B) (hx:x.length≤140737488355328) (w:World):Calls Tryz.prog 272 #[.string (str x)] w fun e w'=>e= .returned (.tuple #[.agg #[.int .i64 (kindT x:Int),.string (str (segX x))],.bool (okS x)])∧Below w.heap.size w w':=by
 have HC:=hid (fun W:World=>cutp_any 58 x hx W);have HC2:=hid (fun W:World=>cutp_any 42 x hx W);have HV:=hid (fun W:World=>isvis_any x hx W);have HT:=hid (fun W:World=>istoken_any (str x.tail) W (by rw [str_size,List.length_tail];unfold maxLen;omega));rw [beg_colon] at HC;unfold cutP at HC HC2;rw [beg_colon] at HC;have hk:=kindT_le x;by_cases h1:kindT x=1
 · have e1:segX x=x.tail:=by unfold segX;rw [if_neg (by omega)]
   have e2:okS x=isTok (str x.tail):=by unfold okS;rw [if_neg (by omega)];rfl
   rw [e1,e2,h1];rw [decide_eq_true h1,if_pos rfl] at HC;obtain⟨S,hS⟩:∃ S,str x=S:=⟨_,rfl⟩;obtain⟨T,hT⟩:∃ T,str x.tail=T:=⟨_,rfl⟩;rw [hS,hT] at HC;rw [hT] at HT;rw [hS,hT];clear hS hT HC2 HV e1 e2 h1 hk;go_enter Tryz.func272,Tryz.ntmps272;go_wp2_with (first|(go_at_call 312;(with_reducible refine(HC.out _).mono ?_);rintro e w1 ⟨rfl,hw1⟩;subst w1)|(go_at_call 218;(with_reducible refine(HT.out _).mono ?_);rintro e w1 ⟨rfl,hw1⟩;subst w1));refine bodyPost_ret (results_seg rfl _ _ _ 329 _ (0,0) rfl (heap_alloc_new w _) rfl) rfl ?_;exact⟨rfl,below_new w _⟩
 · rw [beg_star h1] at HC2;rw [decide_eq_false h1,if_neg (by decide)] at HC;by_cases h2:kindT x=2
   · have e1:segX x=x.tail:=by unfold segX;rw [if_neg (by omega)]
     have e2:okS x=isTok (str x.tail):=by unfold okS;rw [if_neg (by omega)];rfl
     rw [e1,e2,h2];rw [decide_eq_true h2,if_pos rfl] at HC2;obtain⟨S,hS⟩:∃ S,str x=S:=⟨_,rfl⟩;obtain⟨T,hT⟩:∃ T,str x.tail=T:=⟨_,rfl⟩;rw [hS] at HC;rw [hS,hT] at HC2;rw [hT] at HT;rw [hS,hT];clear hS hT HV e1 e2 h1 h2 hk;go_enter Tryz.func272,Tryz.ntmps272;go_wp2_with (first|(go_at_call 312;first|((with_reducible refine(HC.out _).mono ?_);rintro e w1 ⟨rfl,hw1⟩;subst w1)|((with_reducible refine(HC2.out _).mono ?_);rintro e w1 ⟨rfl,hw1⟩;subst w1))|(go_at_call 218;(with_reducible refine(HT.out _).mono ?_);rintro e w1 ⟨rfl,hw1⟩;subst w1));refine bodyPost_ret (results_seg rfl _ _ _ 329 _ (0,0) rfl (heap_alloc_new w _) rfl) rfl ?_;exact⟨rfl,below_new w _⟩
   · have h0:kindT x=0:=by omega
     have e1:segX x=x:=by unfold segX;rw [if_pos h0]
     have e2:okS x=x.all visU:=by unfold okS;rw [if_pos h0]
     rw [e1,e2,h0];rw [decide_eq_false h2,if_neg (by decide)] at HC2;obtain⟨S,hS⟩:∃ S,str x=S:=⟨_,rfl⟩;obtain⟨bv,hbv⟩:∃ bv,x.all visU=bv:=⟨_,rfl⟩;rw [hS] at HC HC2 HV;rw [hbv] at HV ⊢;rw [hS];clear hS hbv e1 e2 h1 h2 h0 hk HT;go_enter Tryz.func272,Tryz.ntmps272;go_wp2_with (first|(go_at_call 312;first|((with_reducible refine(HC.out _).mono ?_);rintro e w1 ⟨rfl,hw1⟩;subst w1)|((with_reducible refine(HC2.out _).mono ?_);rintro e w1 ⟨rfl,hw1⟩;subst w1))|(go_at_call 313;(with_reducible refine(HV.out _).mono ?_);rintro e w1 ⟨rfl,hw1⟩;subst w1));refine bodyPost_ret (results_seg rfl _ _ _ 329 _ (0,0) rfl (heap_alloc_new w _) rfl) rfl ?_;exact⟨rfl,below_new w _⟩
theorem index_any (l:List B) (p:Option Addr) (n c:Nat) (hn:l.length=n) (hnn:n≤140737488355328) (y:B) (w:World) (hT:TxAt w p l):Calls Tryz.prog 207 #[.slice p n c,.string (str y)] w fun e w'=>(∃ r:Int,e= .returned (.int .i64 r)∧decide (0≤r)=l.contains y)∧w'=w:=by
 have HN:=hid hn;have HT:=hid hT;obtain⟨Y,hY⟩:∃ Y,str y=Y:=⟨_,rfl⟩;have HY:=hid hY;rw [hY];clear hn hT hY;go_enter Tryz.func207,Tryz.ntmps207;go_wp2;go_loopg [8] (n+1) (fun gk s8 wr=>∃ i:Nat,i≤n∧gk=n-i+1∧s8= .int .i64 (i:Int)∧(l.take i).contains y=false∧wr=w)
 case atStart=>exact⟨0,by omega,rfl,rfl,rfl,rfl⟩
 case round=>
  obtain⟨i,hi,rfl,rfl,hno,rfl⟩:=hrel;have HNo:=hid hno;clear hno;by_cases hin:i<n
  · obtain⟨a,ha⟩:∃ a,l[i]?=some a:=⟨_,List.getElem?_eq_getElem (by rw [HN.out];exact hin)⟩;obtain⟨g,o,rfl,hc⟩:=HT.out i a ha;obtain⟨Sa,hSa⟩:∃ S,str a=S:=⟨_,rfl⟩;rw [hSa] at hc;have HA:=hid ha;by_cases hab:y=a
    · obtain rfl:Sa=Y:=by rw [←hSa,←HY.out,hab]
      have HR:=hid (show l.contains y=true from by rw [List.contains_iff_mem,hab];exact List.mem_of_getElem? ha);clear ha hSa hab;go_wp2;go_ret;exact⟨⟨_,rfl,by rw [HR.out];exact decide_eq_true (by omega)⟩,rfl⟩
    · have hS:¬Y=Sa:=fun h=>hab (str_inj (by rw [HY.out,hSa,h]))
      have hS4:(Y.toList== Sa.toList)=false:=ne_list hS;have HR:=hid (show (l.take (i+1)).contains y=false from by
       rw [List.take_add_one,ha];have h1:=HNo.out;rw [List.contains_eq_mem,decide_eq_false_iff_not] at h1 ⊢;simp;exact⟨h1,hab⟩)
      clear ha hSa hab;go_wp2;go_roundg (n-(i+1)+1)
      case measure=>omega
      case rel=>exact⟨i+1,by omega,rfl,by push_cast;go_num,HR.out,rfl⟩
  · obtain rfl:n=i:=by omega
    have HR:=hid (show l.contains y=false from by have h1:=HNo.out;rw [List.take_of_length_le (by rw [HN.out];exact Nat.le_refl _)] at h1;exact h1);go_wp2;go_ret;exact⟨⟨-1,rfl,by rw [HR.out];rfl⟩,rfl⟩
theorem contains_any (l:List B) (p:Option Addr) (n c:Nat) (hn:l.length=n) (hnn:n≤140737488355328) (y:B) (w:World) (hT:TxAt w p l):Calls Tryz.prog 227 #[.slice p n c,.string (str y)] w fun e w'=>e= .returned (.bool (l.contains y))∧w'=w:=by
 have HI:=hid (index_any l p n c hn hnn y w hT);obtain⟨Y,hY⟩:∃ Y,str y=Y:=⟨_,rfl⟩;rw [hY] at HI ⊢;obtain⟨v,hv⟩:∃ v,l.contains y=v:=⟨_,rfl⟩;rw [hv] at HI ⊢;clear hv hY hT hn;go_enter Tryz.func227,Tryz.ntmps227;go_wp2_with (go_at_call 207;(with_reducible refine HI.out.mono ?_);rintro e w1 ⟨⟨r,rfl,hr⟩,hw1⟩;subst w1);go_ret;exact⟨rfl,rfl⟩
def toksM (l:List B) (m most:Int):Bool:=decide ((l.length:Int)≤m) && l.all (tokC · most) && decide l.Nodup
theorem toksM_16 (l:List B) (most:Int):toksM l 16 most=toksC l most:=by
 unfold toksM toksC;congr 2;rw [Bool.eq_iff_iff];simp;omega
theorem toksM_0 (l:List B) (most:Int):toksM l 0 most=decide (l= []):=by
 unfold toksM;cases l with
 |nil=>rfl
 |cons x l=>
  rw [show decide (((x::l).length:Int)≤0)=false from decide_eq_false (by rw [List.length_cons];omega),show decide (x::l= [])=false from decide_eq_false (by simp)];rfl
theorem toksM_all {l:List B}{m most:Int} (h:toksTo l most l.length) (h16:(l.length:Int)≤m):toksM l m most=true:=by
 unfold toksTo at h;rw [List.take_length] at h;unfold toksM;rw [decide_eq_true h16,decide_eq_true h.2,Bool.true_and,Bool.and_true,List.all_eq_true];exact h.1
theorem toksM_long {l:List B}{m most:Int} (h:¬(l.length:Int)≤m):toksM l m most=false:=by
 unfold toksM;rw [decide_eq_false h];rfl
theorem toksM_of {l:List B}{m most:Int} (h:toksC l most=false) (hl:l.length≤16):toksM l m most=false:=by
 unfold toksC at h;rw [decide_eq_true hl,Bool.true_and] at h;unfold toksM;rw [Bool.and_assoc,h,Bool.and_false]
theorem tx_take {w:World}{p:Option Addr}{l:List B} (h:TsAt w p l) (i:Nat):TxAt w p (l.take i):=by
 intro j t hj;refine h j t ?_;rw [List.getElem?_take] at hj;split at hj
 · exact hj
 · cases hj
theorem ptoks_any (l:List B) (p:Option Addr) (n c:Nat) (hn:l.length=n) (hc:n≤c) (m most:Int) (hm:m≤16) (hz:∀ x∈l,x.length≤maxLen) (hnn:n≤9223372036854775807) (w:World) (hT:TsAt w p l):Calls Tryz.prog 164 #[.slice p n c,.int .i64 m,.int .i64 most] w fun e w'=>e= .returned (.bool (toksM l m most))∧w'=w:=by
 have HN:=hid hn;have HZ:=hid hz;have HT:=hid hT;clear hn hz hT;by_cases h16:(n:Int)≤m
 case neg=>
  have HV:=hid (show toksM l m most=false from toksM_long (by rw [HN.out];exact h16));rw [HV.out];go_enter Tryz.func164,Tryz.ntmps164;go_wp2;go_ret;exact⟨rfl,rfl⟩
 have hn16:n≤16:=by omega
 go_enter Tryz.func164,Tryz.ntmps164;go_wp2;go_loopg [15] (n+1) (fun gk s5 wr=>∃ i:Nat,i≤n∧gk=n-i+1∧s5= .int .i64 (i:Int)∧toksTo l most i∧wr=w)
 case atStart=>exact⟨0,by omega,rfl,rfl,toksTo.zero _ _,rfl⟩
 case round=>
  obtain⟨i,hi,rfl,rfl,hE,hb⟩:=hrel;subst hb;have HE:=hid hE;clear hE;by_cases hin:i<n
  · have h1:i<l.length:=by rw [HN.out];exact hin
    obtain⟨x,hx⟩:∃ x,l[i]?=some x:=⟨_,List.getElem?_eq_getElem h1⟩;have HX:=hid hx;obtain⟨g1,o1,rfl,q1⟩:=HT.out i x hx;have HTk:=hid (fun W:World=>ptoken_any x most (HZ.out x (List.mem_of_getElem? hx)) W);have HCt:=hid (contains_any (l.take i) (some ⟨g1,o1,none⟩) i c (by rw [List.length_take];omega) (by omega) x wr (tx_take HT.out i));clear h1 hx;obtain⟨b,hb⟩:∃ b,tokC x most=b:=⟨_,rfl⟩;have HBt:=hid hb;rw [hb] at HTk;clear hb;obtain⟨b2,hb2⟩:∃ b,(l.take i).contains x=b:=⟨_,rfl⟩;have HB2:=hid hb2;rw [hb2] at HCt;clear hb2;obtain⟨Sx,hSx⟩:∃ S,str x=S:=⟨_,rfl⟩;rw [hSx] at q1 HTk HCt;clear hSx;cases b with
    |false=>
     have HV:=hid (show toksM l m most=false from toksM_of (toksC_bad HX.out HBt.out) (by rw [HN.out];exact hn16));go_wp2_with (go_at_call 153;(with_reducible refine(HTk.out _).mono ?_);rintro e w1 ⟨rfl,hw1⟩;subst w1);go_ret;exact⟨ret_bool HV.out.symm,rfl⟩
    |true=>
     cases b2 with
     |true=>
      have HV:=hid (show toksM l m most=false from by
       have hm:=HB2.out;rw [List.contains_iff_mem] at hm;obtain⟨j,hj⟩:=List.mem_iff_getElem?.1 hm;rw [List.getElem?_take] at hj;split at hj
       · exact toksM_of (toksC_twice ‹_› HX.out hj) (by rw [HN.out];exact hn16)
       · cases hj)
      go_wp2_with (first|(go_at_call 153;(with_reducible refine(HTk.out _).mono ?_);rintro e w1 ⟨rfl,hw1⟩;subst w1)|(go_at_call 227;(with_reducible refine HCt.out.mono ?_);rintro e w1 ⟨rfl,hw1⟩;subst w1));go_ret;exact⟨ret_bool HV.out.symm,rfl⟩
     |false=>
      have HNx:=hid (show x∉l.take i from by have h:=HB2.out;intro hm;rw [←List.contains_iff_mem,h] at hm;cases hm);go_wp2_with (first|(go_at_call 153;(with_reducible refine(HTk.out _).mono ?_);rintro e w1 ⟨rfl,hw1⟩;subst w1)|(go_at_call 227;(with_reducible refine HCt.out.mono ?_);rintro e w1 ⟨rfl,hw1⟩;subst w1));go_roundg (n-(i+1)+1)
      case measure=>omega
      case rel=>exact⟨i+1,by omega,by omega,by go_num,HE.out.next HX.out HBt.out HNx.out,rfl⟩
  · have hiN:i=n:=by omega
    subst hiN;have HV:=hid (show toksM l m most=true from toksM_all (by rw [HN.out];exact HE.out) (by rw [HN.out];exact h16));go_wp2;go_ret;exact⟨ret_bool HV.out.symm,rfl⟩
end Go.Proofs.YtlmefgjhbohjlaaGreatDoor
