/- Hosts and their patterns, plain: labels, which may be, fitting, going ahead. -/
import Derived.Test.YtlmlljlappjjjaaGreatDoorCLow
namespace Go.Proofs.YtlmlljlappjjjaaGreatDoor
open Go.RowKit
def cutH:B→List B
 | []=>[[]]
 |c::s=>if c=46 then []::cutH s else match cutH s with
  | []=>[[c]]
  |x::l=>(c::x)::l
theorem cutH_ne (s:B):cutH s≠ []:=by
 cases s with
 |nil=>simp [cutH]
 |cons c s=>
  unfold cutH;split
  · simp
  · split <;> simp
theorem cutH_nodot:∀ (s:B) (x:B),x∈cutH s→(46:UInt8)∉x
 | [],x,h=>by
  simp [cutH] at h;subst h;simp
 |c::s,x,h=>by
  have ih:=cutH_nodot s;unfold cutH at h;split at h
  · rcases List.mem_cons.1 h with h1|h1
    · subst h1;simp
    · exact ih x h1
  · rename_i hc
    split at h
    · simp at h;subst h;simp;exact fun e=>hc e.symm
    · rename_i y l e
      rcases List.mem_cons.1 h with h1|h1
      · subst h1;have:=ih y (by rw [e];simp);simp;exact⟨fun e=>hc e.symm,this⟩
      · exact ih x (by rw [e];simp [h1])
theorem cutH_cons (c:UInt8) (s:B):cutH (c::s)=if c=46 then []::cutH s else match cutH s with
 | []=>[[c]]
 |x::l=>(c::x)::l:=rfl
theorem cutH_app:∀ (x s:B),(46:UInt8)∉x→cutH (x++46::s)=x::cutH s
 | [],s,_=>by
  show cutH (46::s)=_;rw [cutH_cons,if_pos rfl]
 |c::x,s,h=>by
  simp at h;have ih:=cutH_app x s h.2;show cutH (c::(x++46::s))=_;rw [cutH_cons,if_neg (fun e=>h.1 e.symm),ih]
theorem cutH_only:∀ (x:B),(46:UInt8)∉x→cutH x= [x]
 | [],_=>rfl
 |c::x,h=>by
  simp at h;have ih:=cutH_only x h.2;rw [cutH_cons,if_neg (fun e=>h.1 e.symm),ih]
theorem cutH_at {l:B}{m:Nat} (h:∀ y∈l.take m,y≠46) (he:l[m]?=some 46):cutH l=l.take m::cutH (l.drop (m+1)):=by
 have hm:m<l.length:=(List.getElem?_eq_some_iff.1 he).1;have e:l=l.take m++46::l.drop (m+1):=by
  conv=>lhs;rw [←List.take_append_drop m l,List.drop_eq_getElem_cons hm,(List.getElem?_eq_some_iff.1 he).2]
 conv=>lhs;rw [e]
 exact cutH_app _ _ (fun h1=>h 46 h1 rfl)
theorem cutH_end {l:B}{m:Nat} (h:∀ y∈l.take m,y≠46) (he:l.length≤m):cutH l= [l.take m]:=by
 rw [List.take_of_length_le he] at h ⊢;exact cutH_only _ (fun h1=>h 46 h1 rfl)
theorem cutH_len:∀ s:B,(cutH s).length≤s.length+1
 | []=>Nat.le_refl _
 |c::s=>by
  have ih:=cutH_len s;rw [cutH_cons];split
  · simp;omega
  · split
    · simp
    · rename_i y l e
      rw [e] at ih;simp at ih ⊢;omega
def lowH (b:B):B:=b.map smallU
theorem lowS_strH (b:B):lowS (str b)=str (lowH b):=by
 unfold lowS lowL lowH str;simp
def hostI (c:Int):Bool:=(decide (97≤c) && decide (c≤122)) || (decide (65≤c) && decide (c≤90)) || digB c || decide (c=45) || decide (c=95)
def hostU (c:UInt8):Bool:=hostI (c.toNat:Int)
def okLab (wild:Bool) (l:B):Bool:=decide (1≤l.length) && decide (l.length≤63) && ((wild && decide (l= [42])) || l.all hostU)
def labsH (wild:Bool) (s:B):Option (List B):=if s= []∨253<s.length then none else if (cutH s).all (okLab wild) then some ((cutH s).map lowH) else none
theorem host_stop {l:B}{k:Nat} (h:k<l.length) (hv:hostU l[k]=false):l.all hostU=false:=by
 rw [List.all_eq_false];exact⟨l[k],List.getElem_mem h,by simp [hv]⟩
def starL:B:=[42]
def fitsL:List B→List B→Bool
 | [],[]=>true
 |x::l,y::r=>(decide (x=starL) || decide (x=y)) && fitsL l r
 |_,_=>false
def aheadL:List B→List B→Bool
 |x::l,y::r=>if (x=starL)=(y=starL) then aheadL l r else decide (y=starL)
 |_,_=>false
def fitsS (p h:List B):Bool:=decide (p= []) || fitsL p h
def aheadS (a b:List B):Bool:=if a= []∨b= [] then decide (a≠ []) && decide (b= []) else aheadL a b
theorem aheadL_irrefl:∀ a:List B,aheadL a a=false
 | []=>rfl
 |x::l=>by
  unfold aheadL;rw [if_pos rfl];exact aheadL_irrefl l
theorem aheadL_trans:∀ {a b c:List B},aheadL a b=true→aheadL b c=true→aheadL a c=true
 | [],_,_,h,_=>by simp [aheadL] at h
 |_::_,[],_,h,_=>by simp [aheadL] at h
 |_::_,_::_,[],_,h=>by simp [aheadL] at h
 |x::a,y::b,z::c,h1,h2=>by
  unfold aheadL at h1 h2 ⊢;by_cases e1:(x=starL)=(y=starL)
  · rw [if_pos e1] at h1;by_cases e2:(y=starL)=(z=starL)
    · rw [if_pos e2] at h2;rw [if_pos (e1.trans e2)];exact aheadL_trans h1 h2
    · rw [if_neg e2] at h2;rw [if_neg (by rw [e1];exact e2)];exact h2
  · rw [if_neg e1] at h1;by_cases e2:(y=starL)=(z=starL)
    · rw [if_neg (by rw [←e2];exact e1)];have h9:=of_decide_eq_true h1;rw [e2] at h9;exact decide_eq_true h9
    · rw [if_neg e2] at h2;exfalso;have a1:=of_decide_eq_true h1;have a2:=of_decide_eq_true h2;exact e2 (propext ⟨fun _=>a2,fun _=>a1⟩)
theorem aheadL_total:∀ (a b h:List B),fitsL a h=true→fitsL b h=true→a=b∨aheadL a b=true∨aheadL b a=true
 | [],b,h,ha,hb=>by
  cases h with
  |nil=>
   cases b with
   |nil=>exact .inl rfl
   |cons z m=>simp [fitsL] at hb
  |cons y r=>simp [fitsL] at ha
 |x::l,b,[],ha,_=>by simp [fitsL] at ha
 |x::l,[],y::r,_,hb=>by simp [fitsL] at hb
 |x::l,z::m,y::r,ha,hb=>by
  simp [fitsL] at ha hb;by_cases e:(x=starL)=(z=starL)
  · have hs:aheadL (x::l) (z::m)=aheadL l m:=by
     rw [aheadL,if_pos e]
    have hs':aheadL (z::m) (x::l)=aheadL m l:=by
     rw [aheadL,if_pos e.symm]
    rw [hs,hs'];rcases aheadL_total l m r ha.2 hb.2 with h|h
    · left;subst h;by_cases e1:x=starL
      · have e2:z=starL:=by rw [←e];exact e1
        rw [e1,e2]
      · have e2:¬z=starL:=by rw [←e];exact e1
        have h1:=ha.1.resolve_left e1;have h2:=hb.1.resolve_left e2;rw [h1,h2]
    · exact .inr h
  · right;rw [aheadL,if_neg e,aheadL,if_neg (fun e'=>e e'.symm)];by_cases e1:x=starL
    · exact .inr (decide_eq_true e1)
    · refine .inl (decide_eq_true ?_);by_cases e2:z=starL
      · exact e2
      · exact absurd (propext ⟨fun h=>absurd h e1,fun h=>absurd h e2⟩) e
theorem aheadS_irrefl (a:List B):aheadS a a=false:=by
 unfold aheadS;split
 · cases a <;> rfl
 · exact aheadL_irrefl a
theorem aheadS_trans {a b c:List B} (h1:aheadS a b=true) (h2:aheadS b c=true):aheadS a c=true:=by
 unfold aheadS at h1 h2 ⊢;by_cases ea:a= [] <;> by_cases eb:b= [] <;> by_cases ec:c= [] <;> simp [ea,eb,ec] at h1 h2 ⊢
 exact aheadL_trans h1 h2
theorem aheadS_asymm {a b:List B} (h:aheadS a b=true):aheadS b a=false:=by
 cases e:aheadS b a with
 |false=>rfl
 |true=>
  have:=aheadS_trans h e;rw [aheadS_irrefl] at this;cases this
theorem aheadS_total (a b h:List B) (ha:fitsS a h=true) (hb:fitsS b h=true):a=b∨aheadS a b=true∨aheadS b a=true:=by
 unfold fitsS at ha hb;unfold aheadS;by_cases ea:a= [] <;> by_cases eb:b= [] <;> simp [ea,eb] at ha hb ⊢
 rcases aheadL_total a b h ha hb with h|h
 · exact .inl h
 · exact .inr h
end Go.Proofs.YtlmlljlappjjjaaGreatDoor
