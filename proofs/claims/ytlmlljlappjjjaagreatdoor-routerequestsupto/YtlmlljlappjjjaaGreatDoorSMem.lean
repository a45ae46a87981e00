/- Shapes of patterns and their order, plain: which pattern of a shape can fit, what a table finds. -/
import Derived.Test.YtlmlljlappjjjaaGreatDoorSOrd
import Derived.Lib.Join
import Derived.Lib.Bytealg
namespace Go.Proofs.YtlmlljlappjjjaaGreatDoor
open Go.RowKit
def markU (x:B):UInt8:=if x=starL then 49 else 48
def shapeS (l:List B):B:=l.reverse.map markU
def pickS:List B→B→List B
 |x::l,c::s=>if c=48 then x::pickS l s else pickS l s
 |_,_=>[]
def joinH (l:List B):B:=Lib.join l [46]
def noDot (l:List B):Prop:=∀ x∈l,(46:UInt8)∉x
theorem joinH_one (x:B):joinH [x]=x:=Lib.join_one x _
theorem joinH_more (x y:B) (l:List B):joinH (x::y::l)=x++46::joinH (y::l):=by
 unfold joinH;rw [Lib.join_cons,Lib.join_cons];simp [Lib.joinTail]
theorem joinH_cut:∀ (l:List B),l≠ []→noDot l→cutH (joinH l)=l
 | [],h,_=>absurd rfl h
 | [x],_,h=>by
  rw [joinH_one];exact cutH_only x (h x (by simp))
 |x::y::l,_,h=>by
  rw [joinH_more,cutH_app x _ (h x (by simp)),joinH_cut (y::l) (by simp) (fun z hz=>h z (by simp at hz ⊢;exact .inr hz))]
theorem joinH_inj {l r:List B} (hl:l.length=r.length) (h1:noDot l) (h2:noDot r) (h:joinH l=joinH r):l=r:=by
 by_cases e:l= []
 · subst e;simp at hl;exact(List.eq_nil_of_length_eq_zero hl.symm).symm
 · have e2:r≠ []:=fun e2=>e (by subst e2;simpa using hl)
   rw [←joinH_cut l e h1,h,joinH_cut r e2 h2]
theorem cutH_join:∀ s:B,joinH (cutH s)=s
 | []=>rfl
 |c::s=>by
  have ih:=cutH_join s;rw [cutH_cons];split
  · rename_i hc
    subst hc;obtain⟨y,l,e⟩:∃ y l,cutH s=y::l:=by
     cases e:cutH s with
     |nil=>exact absurd e (cutH_ne s)
     |cons y l=>exact⟨y,l,rfl⟩
    rw [e,joinH_more,←e,ih];rfl
  · cases e:cutH s with
    |nil=>exact absurd e (cutH_ne s)
    |cons y l=>
     rw [e] at ih;cases l with
     |nil=>rw [joinH_one] at ih;subst ih;exact joinH_one _
     |cons z l=>rw [joinH_more] at ih;subst ih;exact joinH_more _ _ _
theorem pick_len:∀ (l:List B) (s:B),l.length=s.length→(pickS l s).length=s.countP (· == 48)
 | [],[],_=>rfl
 | [],_::_,h=>by simp at h
 |_::_,[],h=>by simp at h
 |x::l,c::s,h=>by
  have ih:=pick_len l s (by simpa using h);unfold pickS;split
  · rename_i hc
    simp [hc,ih]
  · rename_i hc
    rw [List.countP_cons_of_neg (by simpa using hc)];exact ih
theorem pick_mem:∀ {l:List B}{s:B}{x:B},x∈pickS l s→x∈l
 | [],s,x,h=>by simp [pickS] at h
 |y::l,[],x,h=>by simp [pickS] at h
 |y::l,c::s,x,h=>by
  unfold pickS at h;split at h
  · rcases List.mem_cons.1 h with h|h
    · exact List.mem_cons.2 (.inl h)
    · exact List.mem_cons.2 (.inr (pick_mem h))
  · exact List.mem_cons.2 (.inr (pick_mem h))
theorem pick_nodot {l:List B}{s:B} (h:noDot l):noDot (pickS l s):=fun x hx=>h x (pick_mem hx)
theorem pick_fits:∀ {x y:List B},x.length=y.length→(pickS x (x.map markU)=pickS y (x.map markU)↔fitsL x y=true)
 | [],[],_=>by simp [pickS,fitsL]
 | [],_::_,h=>by simp at h
 |_::_,[],h=>by simp at h
 |a::x,b::y,h=>by
  have ih:=@pick_fits x y (by simpa using h);rw [List.map_cons];unfold pickS fitsL;by_cases e:a=starL
  · have:markU a=49:=if_pos e;rw [this,if_neg (by decide),if_neg (by decide),ih,decide_eq_true e];simp
  · have:markU a=48:=if_neg e;rw [this,if_pos rfl,if_pos rfl,decide_eq_false e];simp [ih]
theorem markU_eq {a b:B} (h:markU a=markU b):(a=starL)=(b=starL):=by
 unfold markU at h;by_cases h1:a=starL <;> by_cases h2:b=starL <;> simp [h1,h2] at h ⊢
theorem pick_inj:∀ {x y:List B},x.map markU=y.map markU→pickS x (x.map markU)=pickS y (x.map markU)→x=y
 | [],[],_,_=>rfl
 | [],_::_,h,_=>by simp at h
 |_::_,[],h,_=>by simp at h
 |a::x,b::y,h,g=>by
  rw [List.map_cons,List.map_cons] at h;injection h with h1 h2
  rw [List.map_cons] at g;unfold pickS at g;have hm:=markU_eq h1;by_cases e:a=starL
  · have:markU a=49:=if_pos e;rw [this,if_neg (by decide),if_neg (by decide)] at g;rw [pick_inj h2 g,e,hm.mp e]
  · have:markU a=48:=if_neg e;rw [this,if_pos rfl,if_pos rfl] at g;injection g with g1 g2
    rw [pick_inj h2 g2,g1]
theorem shape_len (x:List B):(shapeS x).length=x.length:=by unfold shapeS;simp
theorem shape_nil {x:List B}:shapeS x= []↔x= []:=by
 rw [←List.length_eq_zero_iff,shape_len,List.length_eq_zero_iff]
def underS (h:List B) (sh:B):Option B:=if sh≠ []∧sh.length≠h.length then none else some (joinH (pickS h.reverse sh))
def keyS (x:List B):B×B:=(shapeS x,joinH (pickS x.reverse (shapeS x)))
theorem under_self (x:List B):underS x (shapeS x)=some (keyS x).2:=by
 unfold underS keyS;rw [if_neg (fun h=>h.2 (shape_len x))]
theorem fitsL_revI {x y:List B}:fitsL x.reverse y.reverse=true↔fitsL x y=true:=by
 constructor
 · intro h;have:=fitsL_rev h
   rwa [List.reverse_reverse,List.reverse_reverse] at this
 · exact fitsL_rev
theorem nodot_rev {x:List B} (h:noDot x):noDot x.reverse:=fun a ha=>h a (List.mem_reverse.1 ha)
theorem under_fits {x y:List B} (hx:noDot x) (hy:noDot y):underS y (shapeS x)=some (keyS x).2↔fitsS x y=true:=by
 unfold underS fitsS;by_cases e:x= []
 · subst e;simp [shapeS,keyS,pickS]
 · have hs:shapeS x≠ []:=fun h=>e (shape_nil.1 h)
   rw [decide_eq_false e,Bool.false_or];by_cases hl:x.length=y.length
   · rw [if_neg (fun h=>h.2 (by rw [shape_len,hl]))];have hp:=@pick_fits x.reverse y.reverse (by simp [hl]);rw [fitsL_revI] at hp;rw [←hp];have e9:shapeS x=x.reverse.map markU:=rfl;unfold keyS;rw [e9];constructor
     · intro h;have h:=Option.some.inj h;refine joinH_inj ?_ (pick_nodot (nodot_rev hx)) (pick_nodot (nodot_rev hy)) h.symm;rw [pick_len _ _ (by simp),pick_len _ _ (by simp [hl])]
     · intro h;rw [h]
   · rw [if_pos ⟨hs,by rw [shape_len];exact hl⟩];constructor
     · intro h;cases h
     · intro h;exact absurd (fitsL_len h) hl
theorem key_inj {x y:List B} (hx:noDot x) (hy:noDot y) (h:keyS x=keyS y):x=y:=by
 unfold keyS at h;injection h with h1 h2
 rw [←h1] at h2;have hl:x.length=y.length:=by rw [←shape_len x,h1,shape_len]
 have e9:shapeS x=x.reverse.map markU:=rfl;have hj:=joinH_inj (by rw [pick_len _ _ (by simp [shape_len]),pick_len _ _ (by simp [shape_len,hl])]) (pick_nodot (nodot_rev hx)) (pick_nodot (nodot_rev hy)) h2;have h1':x.reverse.map markU=y.reverse.map markU:=h1;rw [e9] at hj;exact List.reverse_inj.1 (pick_inj h1' hj)
theorem fit_same {x y h:List B} (hs:shapeS x=shapeS y) (hx:noDot x) (hy:noDot y) (hh:noDot h) (fx:fitsS x h=true) (fy:fitsS y h=true):x=y:=by
 have a:=(under_fits hx hh).2 fx;have b:=(under_fits hy hh).2 fy;rw [hs,b] at a;refine key_inj hx hy (Prod.ext hs ?_);exact(Option.some.inj a).symm
def ordO (a b:B):Int:=if a= []∨b= [] then (b.length:Int)-(a.length:Int) else Lib.compareBytes a b
theorem cmp_self:∀ a:B,Lib.compareBytes a a=0
 | []=>rfl
 |c::a=>by
  unfold Lib.compareBytes;have:¬c<c:=by exact fun h=>absurd (UInt8.lt_iff_toNat_lt.1 h) (Nat.lt_irrefl _)
  rw [if_neg this,if_neg this];exact cmp_self a
theorem cmp_zero:∀ {a b:B},Lib.compareBytes a b=0→a=b
 | [],[],_=>rfl
 | [],_::_,h=>by simp [Lib.compareBytes] at h
 |_::_,[],h=>by simp [Lib.compareBytes] at h
 |c::a,d::b,h=>by
  unfold Lib.compareBytes at h;split at h
  · simp at h
  · rename_i h1
    split at h
    · simp at h
    · rename_i h2
      have:c=d:=by
       apply UInt8.toNat_inj.1;rw [UInt8.lt_iff_toNat_lt] at h1 h2;omega
      rw [this,cmp_zero h]
theorem cmp_trans:∀ {a b c:B},Lib.compareBytes a b<0→Lib.compareBytes b c<0→Lib.compareBytes a c<0
 | [],[],_,h,_=>by simp [Lib.compareBytes] at h
 |_,_::_,[],_,h=>by simp [Lib.compareBytes] at h
 | [],_::_,_::_,_,_=>by simp [Lib.compareBytes]
 |_::_,[],_,h,_=>by simp [Lib.compareBytes] at h
 |x::a,y::b,z::c,h1,h2=>by
  unfold Lib.compareBytes at h1 h2 ⊢;simp only [UInt8.lt_iff_toNat_lt] at h1 h2 ⊢;by_cases e1:x.toNat<y.toNat
  · by_cases e2:y.toNat<z.toNat
    · rw [if_pos (by omega)];decide
    · rw [if_neg e2] at h2;by_cases e3:z.toNat<y.toNat
      · rw [if_pos e3] at h2;exact absurd h2 (by decide)
      · rw [if_pos (by omega)];decide
  · rw [if_neg e1] at h1;by_cases e4:y.toNat<x.toNat
    · rw [if_pos e4] at h1;exact absurd h1 (by decide)
    · rw [if_neg e4] at h1;by_cases e2:y.toNat<z.toNat
      · rw [if_pos (by omega)];decide
      · rw [if_neg e2] at h2;by_cases e3:z.toNat<y.toNat
        · rw [if_pos e3] at h2;exact absurd h2 (by decide)
        · rw [if_neg e3] at h2;rw [if_neg (by omega),if_neg (by omega)];exact cmp_trans h1 h2
theorem cmp_flip:∀ (a b:B),Lib.compareBytes b a= - Lib.compareBytes a b
 | [],[]=>rfl
 | [],_::_=>rfl
 |_::_,[]=>rfl
 |x::a,y::b=>by
  unfold Lib.compareBytes;simp only [UInt8.lt_iff_toNat_lt];by_cases e1:x.toNat<y.toNat
  · rw [if_neg (by omega),if_pos e1,if_pos e1];rfl
  · by_cases e2:y.toNat<x.toNat
    · rw [if_pos e2,if_neg e1,if_pos e2]
    · rw [if_neg e2,if_neg e1,if_neg e1,if_neg e2];exact cmp_flip a b
theorem ord_self (a:B):ordO a a=0:=by
 unfold ordO;split
 · omega
 · exact cmp_self a
theorem ord_zero {a b:B} (h:ordO a b=0):a=b:=by
 unfold ordO at h;split at h
 · rename_i hn
   rcases hn with e|e
   · subst e;exact(List.eq_nil_of_length_eq_zero (by simpa using h)).symm
   · subst e;exact List.eq_nil_of_length_eq_zero (by simpa using h)
 · exact cmp_zero h
theorem ord_flip (a b:B):ordO b a= - ordO a b:=by
 unfold ordO;by_cases e:a= []∨b= []
 · rw [if_pos e,if_pos e.symm];omega
 · rw [if_neg e,if_neg (fun h=>e h.symm)];exact cmp_flip a b
theorem ord_trans {a b c:B} (h1:ordO a b<0) (h2:ordO b c<0):ordO a c<0:=by
 unfold ordO at h1 h2 ⊢;by_cases ea:a= []
 · subst ea;simp at h1;have:(0:Int)≤b.length:=Int.natCast_nonneg _;omega
 · by_cases eb:b= []
   · subst eb;simp at h2;have:(0:Int)≤c.length:=Int.natCast_nonneg _;omega
   · by_cases ec:c= []
     · subst ec;rw [if_pos (.inr rfl)];have:0<a.length:=List.length_pos_iff.2 ea;simp;omega
     · simp only [ea,eb,ec,or_self,if_false] at h1 h2 ⊢;exact cmp_trans h1 h2
theorem ahead_cmp:∀ {x y:List B},x.length=y.length→aheadL x y=decide (Lib.compareBytes (x.map markU) (y.map markU)<0)
 | [],[],_=>rfl
 | [],_::_,h=>by simp at h
 |_::_,[],h=>by simp at h
 |a::x,b::y,h=>by
  have ih:=@ahead_cmp x y (by simpa using h);rw [List.map_cons,List.map_cons];unfold aheadL Lib.compareBytes;by_cases e1:a=starL <;> by_cases e2:b=starL
  · have m1:markU a=49:=if_pos e1;have m2:markU b=49:=if_pos e2;rw [m1,m2,if_pos (by simp [e1,e2]),if_neg (by decide),if_neg (by decide),ih]
  · have m1:markU a=49:=if_pos e1;have m2:markU b=48:=if_neg e2;rw [m1,m2,if_neg (by simp [e1,e2]),if_neg (by decide),if_pos (by decide),decide_eq_false e2];rfl
  · have m1:markU a=48:=if_neg e1;have m2:markU b=49:=if_pos e2;rw [m1,m2,if_neg (by simp [e1,e2]),if_pos (by decide),decide_eq_true e2];rfl
  · have m1:markU a=48:=if_neg e1;have m2:markU b=48:=if_neg e2;rw [m1,m2,if_pos (by simp [e1,e2]),if_neg (by decide),if_neg (by decide),ih]
theorem ahead_ord {x y h:List B} (fx:fitsS x h=true) (fy:fitsS y h=true):aheadP x y=decide (ordO (shapeS x) (shapeS y)<0):=by
 unfold aheadP aheadS ordO;have ex:x.reverse= []↔x= []:=by simp
 have ey:y.reverse= []↔y= []:=by simp
 by_cases e:x= []∨y= []
 · rw [if_pos (by rw [ex,ey];exact e),if_pos (by rw [shape_nil,shape_nil];exact e),shape_len,shape_len];rw [Bool.eq_iff_iff];simp;by_cases a:x= [] <;> by_cases b:y= [] <;> simp [a,b] at e ⊢
   exact List.length_pos_iff.2 a
 · rw [if_neg (by rw [ex,ey];exact e),if_neg (by rw [shape_nil,shape_nil];exact e)];have nx:¬x= []:=fun h=>e (.inl h)
   have ny:¬y= []:=fun h=>e (.inr h)
   unfold fitsS at fx fy;rw [decide_eq_false nx,Bool.false_or] at fx;rw [decide_eq_false ny,Bool.false_or] at fy;exact ahead_cmp (by rw [List.length_reverse,List.length_reverse,fitsL_len fx,fitsL_len fy])
def SrtO (l:List B):Prop:=l.Pairwise (fun a b=>ordO a b<0)
def belowO (s:B) (l:List B):Nat:=l.countP (fun x=>decide (ordO x s<0))
theorem below_cons (s x:B) (l:List B):belowO s (x::l)=belowO s l+if ordO x s<0 then 1 else 0:=by
 unfold belowO;rw [List.countP_cons];by_cases h:ordO x s<0 <;> simp [h]
theorem below_none {s x:B}{l:List B} (h:SrtO (x::l)) (hx:¬ordO x s<0):belowO s l=0:=by
 unfold belowO;rw [List.countP_eq_zero];intro y hy;have:=(List.pairwise_cons.1 h).1 y hy;simp;have f:=ord_flip x s;rcases Int.lt_trichotomy (ordO y s) 0 with h1|h1|h1
 · exact absurd (ord_trans this h1) hx
 · omega
 · omega
theorem below_at:∀ {l:List B}{s:B},SrtO l→belowO s l≤l.length∧(∀ x∈l.take (belowO s l),ordO x s<0)∧(∀ x∈l.drop (belowO s l),¬ordO x s<0)
 | [],s,_=>by simp [belowO]
 |x::l,s,h=>by
  by_cases hx:ordO x s<0
  · obtain⟨h1,h2,h3⟩:=@below_at l s (List.pairwise_cons.1 h).2;rw [below_cons,if_pos hx];refine⟨by simp;exact h1,fun y hy=>?_,fun y hy=>h3 y (by simpa using hy)⟩;rw [List.take_succ_cons] at hy;rcases List.mem_cons.1 hy with e|e
    · rw [e];exact hx
    · exact h2 y e
  · rw [below_cons,if_neg hx,below_none h hx];refine⟨Nat.zero_le _,fun y hy=>by simp at hy,fun y hy=>?_⟩;rcases List.mem_cons.1 (by simpa using hy) with e|e
    · rw [e];exact hx
    · intro h9;exact hx (ord_trans ((List.pairwise_cons.1 h).1 y e) h9)
theorem srt_mono {l:List B}{s:B} (h:SrtO l) {a b:Nat}{x y:B} (hab:a≤b) (hx:l[a]?=some x) (hy:l[b]?=some y) (hlt:ordO y s<0):ordO x s<0:=by
 by_cases e:a=b
 · subst e;rw [hx] at hy;exact(Option.some.inj hy) ▸ hlt
 · obtain⟨ha,e1⟩:=List.getElem?_eq_some_iff.1 hx;obtain⟨hb,e2⟩:=List.getElem?_eq_some_iff.1 hy;have:=(List.pairwise_iff_getElem.1 h) a b ha hb (by omega);rw [e1,e2] at this;exact ord_trans this hlt
theorem has_mem {l:List B}{s:B} (h:SrtO l):(∃ x,l[belowO s l]?=some x∧ordO x s=0)↔s∈l:=by
 constructor
 · rintro ⟨x,hx,h0⟩;exact(ord_zero h0) ▸ List.mem_of_getElem? hx
 · intro hs;obtain⟨h1,h2,h3⟩:=@below_at l s h;have hm:s∈l.drop (belowO s l):=by
    rw [←List.take_append_drop (belowO s l) l] at hs;rcases List.mem_append.1 hs with e|e
    · have:=h2 s e;rw [ord_self] at this;exact absurd this (by decide)
    · exact e
   cases hd:l.drop (belowO s l) with
   |nil=>rw [hd] at hm;simp at hm
   |cons y r=>
    have hy:l[belowO s l]?=some y:=by
     have:(l.drop (belowO s l))[0]?=some y:=by rw [hd];rfl
     rwa [List.getElem?_drop,Nat.add_zero] at this
    refine⟨y,hy,?_⟩;rw [hd] at hm h3;have hsd:SrtO (y::r):=by rw [←hd];exact h.sublist (List.drop_sublist _ _)
    rcases List.mem_cons.1 hm with e|e
    · rw [←e,ord_self]
    · exact absurd ((List.pairwise_cons.1 hsd).1 s e) (h3 y (by simp))
def insO (s:B) (l:List B):List B:=l.take (belowO s l)++s::l.drop (belowO s l)
theorem ins_mem {s x:B}{l:List B}:x∈insO s l↔x=s∨x∈l:=by
 unfold insO;rw [List.mem_append,List.mem_cons];conv=>rhs;rw [←List.take_append_drop (belowO s l) l,List.mem_append]
 constructor
 · rintro (h|h|h)
   · exact .inr (.inl h)
   · exact .inl h
   · exact .inr (.inr h)
 · rintro (h|h|h)
   · exact .inr (.inl h)
   · exact .inl h
   · exact .inr (.inr h)
theorem ins_srt {s:B}{l:List B} (h:SrtO l) (hs:s∉l):SrtO (insO s l):=by
 obtain⟨h1,h2,h3⟩:=@below_at l s h;unfold insO SrtO;have hc:=h;unfold SrtO at hc;rw [←List.take_append_drop (belowO s l) l,List.pairwise_append] at hc;rw [List.pairwise_append];refine⟨hc.1,List.pairwise_cons.2 ⟨fun y hy=>?_,hc.2.1⟩,fun x hx y hy=>?_⟩
 · have hn:=h3 y hy;have hne:ordO y s≠0:=fun e=>hs ((ord_zero e) ▸ List.mem_of_mem_drop hy)
   rw [ord_flip y s];omega
 · rcases List.mem_cons.1 hy with e|e
   · rw [e];exact h2 x hx
   · exact hc.2.2 x hx y e
theorem ins_len (s:B) (l:List B) (h:SrtO l):(insO s l).length=l.length+1:=by
 have:=(@below_at l s h).1;unfold insO;simp;omega
def findO (ids:B×B→Option Int) (h:List B):List B→Option Int
 | []=>none
 |s::l=>match underS h s with
  |none=>findO ids h l
  |some p=>match ids (s,p) with
   |some i=>some i
   |none=>findO ids h l
theorem find_spec {α:Type}{ids:B×B→Option Int}{h:List B}{P:List α}{lab:α→List B}{num:α→Int} (hh:noDot h)
  (hd:∀ p∈P,noDot (lab p)) (hap:∀ p∈P,∀ q∈P,lab p=lab q→p=q)
  (hid:∀ k i,ids k=some i↔∃ p∈P,keyS (lab p)=k∧num p=i):∀ {l:List B},SrtO l→
  (findO ids h l=none∧∀ p∈P,shapeS (lab p)∈l→fitsS (lab p) h=false)∨
  (∃ p∈P,findO ids h l=some (num p)∧fitsS (lab p) h=true∧∀ q∈P,shapeS (lab q)∈l→fitsS (lab q) h=true→q=p∨aheadP (lab p) (lab q)=true)
 | [],_=>.inl ⟨rfl,fun p _ hm=>by simp at hm⟩
 |s::l,hs=>by
  have ih:=find_spec hh hd hap hid (List.pairwise_cons.1 hs).2;have skip:(∀ p∈P,shapeS (lab p)=s→fitsS (lab p) h=false)→findO ids h (s::l)=findO ids h l→
   (findO ids h (s::l)=none∧∀ p∈P,shapeS (lab p)∈s::l→fitsS (lab p) h=false)∨
   (∃ p∈P,findO ids h (s::l)=some (num p)∧fitsS (lab p) h=true∧∀ q∈P,shapeS (lab q)∈s::l→fitsS (lab q) h=true→q=p∨aheadP (lab p) (lab q)=true):=by
   intro hno he;rw [he];rcases ih with ⟨h1,h2⟩|⟨p,hp,h1,h2,h3⟩
   · refine .inl ⟨h1,fun p hp hm=>?_⟩;rcases List.mem_cons.1 hm with e|e
     · exact hno p hp e
     · exact h2 p hp e
   · refine .inr ⟨p,hp,h1,h2,fun q hq hm fq=>?_⟩;rcases List.mem_cons.1 hm with e|e
     · rw [hno q hq e] at fq;cases fq
     · exact h3 q hq e fq
  cases hu:underS h s with
  |none=>
   refine skip (fun p hp e=>?_) (by rw [findO,hu]);cases hf:fitsS (lab p) h with
   |false=>rfl
   |true=>
    have:=(under_fits (hd p hp) hh).2 hf;rw [e,hu] at this;cases this
  |some pl=>
   cases hi:ids (s,pl) with
   |none=>
    refine skip (fun p hp e=>?_) (by rw [findO,hu];simp [hi]);cases hf:fitsS (lab p) h with
    |false=>rfl
    |true=>
     have:=(under_fits (hd p hp) hh).2 hf;rw [e,hu] at this;have hk:ids (keyS (lab p))=some (num p):=(hid _ _).2 ⟨p,hp,rfl,rfl⟩;have e2:keyS (lab p)=(s,pl):=Prod.ext e (Option.some.inj this).symm;rw [e2,hi] at hk;cases hk
   |some i=>
    obtain⟨p,hp,hk,hn⟩:=(hid _ _).1 hi;have hsh:shapeS (lab p)=s:=congrArg Prod.fst hk;have hpl:(keyS (lab p)).2=pl:=congrArg Prod.snd hk;have hf:fitsS (lab p) h=true:=(under_fits (hd p hp) hh).1 (by rw [hsh,hpl];exact hu);refine .inr ⟨p,hp,by rw [findO,hu];simp [hi,hn],hf,fun q hq hm fq=>?_⟩;rcases List.mem_cons.1 hm with e|e
    · exact .inl (hap q hq p hp (fit_same (e.trans hsh.symm) (hd q hq) (hd p hp) hh fq hf))
    · right;rw [ahead_ord hf fq,hsh];exact decide_eq_true ((List.pairwise_cons.1 hs).1 _ e)
open Go.RowKit Go.Maps
structure Kept (F:Nat→Prop) (w w':World):Prop where
 os:w'.os=w.os
 tape:w'.tape=w.tape
 output:w'.output=w.output
 size:w.heap.size≤w'.heap.size
 block:∀ k,k<w.heap.size→¬F k→w'.heap[k]?=w.heap[k]?
theorem Kept.refl (F:Nat→Prop) (w:World):Kept F w w:=⟨rfl,rfl,rfl,Nat.le_refl _,fun _ _ _=>rfl⟩
theorem Kept.trans {F G:Nat→Prop}{a b c:World} (h:Kept F a b) (k:Kept G b c) (hg:∀ i,i<a.heap.size→G i→F i):Kept F a c:=
 ⟨k.os.trans h.os,k.tape.trans h.tape,k.output.trans h.output,Nat.le_trans h.size k.size,fun i hi hf=>(k.block i (Nat.lt_of_lt_of_le hi h.size) (fun hk=>hf (hg i hi hk))).trans (h.block i hi hf)⟩
theorem Kept.mono {F G:Nat→Prop}{a b:World} (h:Kept F a b) (hg:∀ i,i<a.heap.size→F i→G i):Kept G a b:=
 ⟨h.os,h.tape,h.output,h.size,fun i hi hf=>h.block i hi (fun hk=>hf (hg i hi hk))⟩
theorem Kept.below {F:Nat→Prop}{a b:World}{n:Nat} (h:Kept F a b) (hn:n≤a.heap.size) (hf:∀ i,F i→n≤i):Below n a b:=
 ⟨h.os,h.tape,h.output,h.size,fun i hi=>h.block i (Nat.lt_of_lt_of_le hi hn) (fun hk=>by have:=hf i hk;omega)⟩
theorem Below.kept {F:Nat→Prop}{a b:World} (h:Below a.heap.size a b):Kept F a b:=⟨h.os,h.tape,h.output,h.size,fun i hi _=>h.block i hi⟩
theorem kept_grown {w w':World}{o:Option Nat} (h:w.grownBy w' o):Kept (fun i=>o=some i) w w':=
 ⟨h.os,h.tape,h.output,h.size,fun i hi hf=>h.block i hi (fun e=>hf e.symm)⟩
theorem kept_set (w:World) (b o:Nat) (v:Value):Kept (fun i=>i=b) w (w.setCell ⟨b,o,none⟩ v):=
 ⟨((Below.refl 0 w).setCell (Nat.zero_le _) v).os,((Below.refl 0 w).setCell (Nat.zero_le _) v).tape,((Below.refl 0 w).setCell (Nat.zero_le _) v).output,((Below.refl 0 w).setCell (Nat.zero_le _) v).size,fun i _ hf=>RowKit.Below.heap_setCell w ⟨b,o,none⟩ v i hf⟩
theorem cell_same {w w':World}{b o:Nat}{v:Value} (h:w.cell? ⟨b,o,none⟩=some v) (e:w'.heap[b]?=w.heap[b]?):w'.cell? ⟨b,o,none⟩=some v:=by
 unfold World.cell? at h ⊢;dsimp only at h ⊢;rw [e];exact h
theorem bk_set {w:World}{b o:Nat}{v:Value} (h:∃ cs T,w.heap[b]?=some (.cells cs T (0,0))):∃ cs T,(w.setCell ⟨b,o,none⟩ v).heap[b]?=some (.cells cs T (0,0)):=by
 obtain⟨cs,T,h⟩:=h;exact⟨_,T,heap_setCell_same w b o cs T v h⟩
theorem cell_set_same {w:World}{b o:Nat}{u v:Value} (h:w.cell? ⟨b,o,none⟩=some u):(w.setCell ⟨b,o,none⟩ v).cell? ⟨b,o,none⟩=some v:=World.cell?_setCell_same _ _ _ h
theorem cell_set_off {w:World}{b o o':Nat}{u v:Value} (h:w.cell? ⟨b,o',none⟩=some u) (hne:o≠o'):(w.setCell ⟨b,o,none⟩ v).cell? ⟨b,o',none⟩=some u:=by
 rw [World.cell?_setCell_other _ _ _ _ (fun e=>hne (by injection e))];exact h
def OwnR {α:Type} (T:TypeId) (sz:Nat) (f:α→List Value) (w:World) (base:Nat) (v:Value) (l:List α):Prop:=w.ownsRow base T sz v l.length (l.flatMap f)
theorem flat_at {α:Type}{sz:Nat}{f:α→List Value} (hf:∀ x,(f x).length=sz):∀ (l:List α) (j:Nat) (x:α),l[j]?=some x→∀ (t:Nat) (u:Value),t<sz→(f x)[t]?=some u→(l.flatMap f)[sz*j+t]?=some u
 | [],j,x,h,_,_,_,_=>by simp at h
 |y::l,0,x,h,t,u,ht,hu=>by
  simp at h;subst h;rw [List.flatMap_cons,Nat.mul_zero,Nat.zero_add,List.getElem?_append_left (by rw [hf];exact ht)];exact hu
 |y::l,j+1,x,h,t,u,ht,hu=>by
  have ih:=flat_at hf l j x (by simpa using h) t u ht hu;rw [List.flatMap_cons,List.getElem?_append_right (by rw [hf,Nat.mul_succ];omega),hf,show sz*(j+1)+t-sz=sz*j+t by rw [Nat.mul_succ];omega];exact ih
section
variable {α : Type} {T : TypeId} {sz : Nat} {f : α → List Value}
theorem OwnR.nil (w:World) (base:Nat):OwnR T sz f w base (.slice none 0 0) []:=⟨by simp,.inl ⟨rfl,rfl⟩⟩
theorem OwnR.put {w':World}{base n:Nat}{v':Value}{acc:List α}{x:α} (hn:acc.length=n) (h:w'.ownsRow base T sz v' (n+1) (acc.flatMap f++f x)):OwnR T sz f w' base v' (acc++ [x]):=by
 subst hn;unfold OwnR;rw [List.length_append,List.flatMap_append];simpa using h
theorem OwnR.below {w w':World}{base:Nat}{v:Value}{acc:List α} (h:OwnR T sz f w base v acc) (hb:base≤w.heap.size) (hg:w.grownBy w' v.ownBlock):Below base w w':=
 ⟨hg.os,hg.tape,hg.output,hg.size,fun k hk=>hg.block k (Nat.lt_of_lt_of_le hk hb) (fun e=>by have:=own_ge h e.symm;omega)⟩
theorem OwnR.keepB {w w':World}{base:Nat}{v:Value}{acc:List α} (h:OwnR T sz f w base v acc) (hb:∀ g,v.ownBlock=some g→w'.heap[g]?=w.heap[g]?):OwnR T sz f w' base v acc:=by
 refine⟨h.1,?_⟩;rcases h.2 with h1|⟨g,cap,cur,h1,h2,h3,h4⟩
 · exact .inl h1
 · exact .inr ⟨g,cap,cur,h1,h2,(hb g (by rw [h1];rfl)).trans h3,h4⟩
theorem OwnR.lt {w:World}{base g:Nat}{v:Value}{acc:List α} (h:OwnR T sz f w base v acc) (e:v.ownBlock=some g):g<w.heap.size:=by
 rcases h.2 with ⟨h1,_⟩|⟨g',cap,cur,h1,h2,h3,h4⟩
 · rw [h1] at e;cases e
 · rw [h1] at e;obtain rfl:g'=g:=by simpa [Value.ownBlock] using e
   exact lt_of_heap h3
theorem OwnR.keep {w w':World}{base:Nat}{v:Value}{acc:List α} (h:OwnR T sz f w base v acc) (hb:Below w.heap.size w w'):OwnR T sz f w' base v acc:=h.keepB fun g e=>hb.block g (h.lt e)
theorem OwnR.alloc {w:World}{base:Nat}{v:Value}{acc:List α} (h:OwnR T sz f w base v acc) (o:Obj):OwnR T sz f (w.alloc o) base v acc:=h.keep (below_new w o)
theorem OwnR.lower {w:World}{base b':Nat}{v:Value}{acc:List α} (h:OwnR T sz f w base v acc) (hb:b'≤base):OwnR T sz f w b' v acc:=by
 refine⟨h.1,?_⟩;rcases h.2 with h1|⟨g,cap,cur,h1,h2,h3⟩
 · exact .inl h1
 · exact .inr ⟨g,cap,cur,h1,Nat.le_trans hb h2,h3⟩
theorem OwnR.at {w:World}{base n c j:Nat}{p:Option Addr}{l:List α}{x:α} (hf:∀ x,(f x).length=sz) (h:OwnR T sz f w base (.slice p n c) l) (hj:l[j]?=some x):∃ g,p=some ⟨g,0,none⟩∧∀ (t:Nat) (u:Value),(f x)[t]?=some u→w.cell? ⟨g,sz*j+t,none⟩=some u:=by
 have hlt:j<l.length:=(List.getElem?_eq_some_iff.1 hj).1;rcases h.2 with ⟨h1,h2⟩|⟨g,cap,cur,h1,h2,h3,h4,_,h6,h7⟩
 · omega
 · refine⟨g,by cases h1;rfl,fun t u hu=>?_⟩;have ht:t<sz:=by rw [←hf x];exact(List.getElem?_eq_some_iff.1 hu).1
   have k1:=flat_at hf l j x hj t u ht hu;have hm:sz*j+t<l.length*sz:=by
    have:=Nat.mul_le_mul_right sz (Nat.succ_le_of_lt hlt);rw [Nat.succ_mul,Nat.mul_comm j sz] at this;omega
   rw [←h7,List.getElem?_take,if_pos hm] at k1;simp only [World.cell?,h3];simpa using k1
theorem OwnR.aside {T':TypeId}{sz' n':Nat}{xs':List Value}{w w':World}{base base':Nat}{v v':Value}{acc:List α} (h:OwnR T sz f w base v acc) (h':w.ownsRow base' T' sz' v' n' xs') (hT:T≠T') (hg:w.grownBy w' v'.ownBlock):OwnR T sz f w' base v acc:=by
 refine h.keepB fun g e=>hg.block g (h.lt e) (fun e'=>?_)
 rcases h.2 with ⟨h1,_⟩|⟨g1,cap,cur,h1,h2,h3,h4⟩
 · rw [h1] at e;cases e
 · rw [h1] at e;obtain rfl:g1=g:=by simpa [Value.ownBlock] using e
   rcases h'.2 with ⟨k1,_⟩|⟨g2,cap2,cur2,k1,k2,k3,k4⟩
   · rw [k1] at e';cases e'
   · rw [k1] at e';obtain rfl:g1=g2:=by simpa [Value.ownBlock] using e'
     rw [h3] at k3;injection k3 with k3
     injection k3 with _ k5 _
     exact hT k5
end
theorem OwnR.set {α:Type}{T:TypeId}{sz:Nat}{f:α→List Value}{w:World}{base b o:Nat}{v u:Value}{acc:List α} (h:OwnR T sz f w base v acc) (hb:v.ownBlock≠some b):OwnR T sz f (w.setCell ⟨b,o,none⟩ u) base v acc:=
 h.keepB fun g e=>RowKit.Below.heap_setCell w ⟨b,o,none⟩ u g (fun e'=>hb (by rw [e,e']))
theorem ownS_R {w:World}{b:Nat}{v:Value}{l:List B} (h:OwnS w b v l):OwnR 9 1 (fun t:B=>[.string (str t)]) w b v l:=by
 unfold OwnR;unfold OwnS strC at h;rw [show (l.flatMap fun t:B=>[Value.string (str t)])=l.map fun t:B=>Value.string (str t) by clear h;induction l <;> simp_all];exact h
theorem ownR_S {w:World}{b:Nat}{v:Value}{l:List B} (h:OwnR 9 1 (fun t:B=>[.string (str t)]) w b v l):OwnS w b v l:=by
 unfold OwnR at h;unfold OwnS strC;rw [show (l.flatMap fun t:B=>[Value.string (str t)])=l.map fun t:B=>Value.string (str t) by clear h;induction l <;> simp_all] at h;exact h
theorem OwnR.news {α:Type}{T:TypeId}{sz:Nat}{f:α→List Value}{w:World}{base n c:Nat}{ad:Addr}{l:List α} (h:OwnR T sz f w base (.slice (some ad) n c) l):∀ j u,(l.flatMap f)[j]?=some u→w.cell? (ad.add j)=some u:=by
 intro j u hj;rcases h.2 with ⟨h1,_⟩|⟨g,cap,cur,h1,h2,h3,h4,_,h6,h7⟩
 · cases h1
 · injection h1 with e1
   injection e1 with e1
   subst e1;rw [add_off];rw [←h7,List.getElem?_take] at hj;split at hj
   · simp only [World.cell?,h3];simpa using hj
   · cases hj
end Go.Proofs.YtlmlljlappjjjaaGreatDoor
