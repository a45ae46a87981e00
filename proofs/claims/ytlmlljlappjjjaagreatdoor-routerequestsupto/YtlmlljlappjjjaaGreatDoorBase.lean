/- A region that draws its order, some of whose operations yield the same in every world that meets a condition: they may be taken first; the condition is asked only behind operations that do not wait for them. -/
import Derived.StillTail
import Derived.Test.YtlmlljlappjjjaaGreatDoorProg
import Derived.WalkSpells
import Derived.WalkLawsBesides
import Derived.Lib.Strings
import Derived.BigQuiet
import Derived.Deep.LoopGhost
import Derived.Deep.RegionHeld3
import Derived.Shelf.RegionOpenPlain
namespace Go.Proofs.YtlmlljlappjjjaaGreatDoor
section
variable {P : Program} {ops : Array Oper} {Q : Exit → Act → World → Prop} {md : Region.Mode} {S : World → Prop} {D : Nat → Bool}
def wpAnyD (P:Program) (md:Region.Mode) (ops:Array Oper) (Q:Exit→Act→World→Prop) (S:World→Prop) (D:Nat→Bool):Nat→Array Bool→Act→World→Prop
 |0,listed,a,w=>Region.ready md ops listed= []∧Q .normal a w
 |fuel+1,listed,a,w=>
  (Region.ready md ops listed= []→Q .normal a w)∧
  ∀ i∈Region.ready md ops listed,wpOp P ops Q i (fun a' w'=>(D i=false→S w')∧wpAnyD P md ops Q S D fuel (listed.setIfInBounds i true) a' w') a w
theorem wpAny_of_D:∀ (fuel:Nat) (listed:Array Bool) (a:Act) (w:World),wpAnyD P md ops Q S D fuel listed a w→wpAny P md ops Q fuel listed a w
 |0,_,_,_,h=>h
 |fuel+1,_,_,_,h=>⟨h.1,fun i hi=>wpOp_mono (fun a' w' h'=>wpAny_of_D fuel _ a' w' h'.2) (h.2 i hi)⟩
theorem wpAnyD_first {i:Nat}{oi:Oper}{v:Value} (hi:ops[i]?=some oi) (hsel:∀ (j:Nat) (o:Oper) cs b,ops[j]?=some o→o.op≠ .select cs b)
  (hQ:∀ c a w,Q (.panic c) (a.put oi.dst v) w→Q (.panic c) a w)
  (hD:∀ j oj,ops[j]?=some oj→D j=true→∃ e∈oj.after,Region.binds md e=true∧(e.on=i∨D e.on=true)):
  ∀ (fuel:Nat) (listed:Array Bool) (a:Act) (w:World),
   (∀ j,D j=true→listed.getD j false=false)→
   (∀ j oj,ops[j]?=some oj→j≠i→listed.getD j true=false→(∀ e∈oj.after,Region.binds md e=true→e.on≠i)→oi.apart ops oj=true)→
   i∈Region.ready md ops listed→YieldsIf P ops S oi v a→S w→
   wpAnyD P md ops Q S D fuel (listed.setIfInBounds i true) (a.put oi.dst v) w→wpAnyD P md ops Q S D (fuel+1) listed a w:=by
 intro fuel
 induction fuel with
 |zero=>
  intro listed a w _ _ hr hy hS H;refine⟨fun h=>(by rw [h] at hr;cases hr),fun j hj=>?_⟩;by_cases hji:j=i
  · subst hji;exact hy.wpOp hi hS ⟨fun _=>hS,H⟩
  · have:=ready_mono hj hji;rw [H.1] at this;cases this
 |succ fuel ih=>
  intro listed a w hDl hfree hr hy hS H;refine⟨fun h=>(by rw [h] at hr;cases hr),fun j hj=>?_⟩;by_cases hji:j=i
  · subst hji;exact hy.wpOp hi hS ⟨fun _=>hS,H⟩
  · have h1:=H.2 j (ready_mono hj hji);obtain⟨hjun,oj,hoj,hall⟩:=mem_ready.1 hj;have hiun:listed.getD i false=false:=by
     have h0:=(mem_ready.1 hr).1;exact getD_both h0
    have hnot:∀ e∈oj.after,Region.binds md e=true→e.on≠i:=fun e he hb heq=>by
     have h1:=hall e he hb;rw [heq,hiun] at h1;cases h1
    have hDj:D j=false:=by
     cases hd:D j with
     |false=>rfl
     |true=>
      obtain⟨e,he,hb,h3⟩:=hD j oj hoj hd;have h4:=hall e he hb;rcases h3 with h3|h3
      · rw [h3,hiun] at h4;cases h4
      · rw [hDl _ h3] at h4;cases h4
    have h2:=wpOp_putIf hoj (hfree j oj hoj hji hjun hnot) (fun cs b=>hsel i oi cs b hi) (fun cs b=>hsel j oj cs b hoj) hQ hy h1;have hfree':∀ k ok,ops[k]?=some ok→k≠i→(listed.setIfInBounds j true).getD k true=false→
      (∀ e∈ok.after,Region.binds md e=true→e.on≠i)→oi.apart ops ok=true:=fun k ok hk hki hun hno=>by
     refine hfree k ok hk hki ?_ hno;by_cases hjk:j=k
     · subst hjk;exact hjun
     · rw [getD_set_ne true hjk] at hun;exact hun
    have hDl':∀ k,D k=true→(listed.setIfInBounds j true).getD k false=false:=fun k hk=>by
     have hne:j≠k:=fun e=>by rw [e,hk] at hDj;cases hDj
     rw [getD_set_ne false hne];exact hDl k hk
    refine wpOp_mono (fun a' w' h3=>⟨h3.2.1,ih (listed.setIfInBounds j true) a' w' hDl' hfree' (ready_mono hr (Ne.symm hji)) h3.1 (h3.2.1 hDj) ?_⟩) h2;rw [Array.setIfInBounds_comm _ _ hji];exact h3.2.2
def lateB (md:Region.Mode) (ops:Array Oper) (D:Nat→Bool) (i:Nat):Bool:=
 (List.range ops.size).all fun j=>!D j || match ops[j]? with|some o=>o.after.toList.any fun e=>Region.binds md e && (e.on== i || D e.on)|none=>true
theorem lateB_spec {i:Nat} (h:lateB md ops D i=true):∀ j oj,ops[j]?=some oj→D j=true→∃ e∈oj.after,Region.binds md e=true∧(e.on=i∨D e.on=true):=by
 intro j oj hj hd;have hlt:j<ops.size:=(Array.getElem?_eq_some_iff.1 hj).1;have h1:=List.all_eq_true.1 h j (List.mem_range.2 hlt);simp only [hd,Bool.not_true,Bool.false_or,hj] at h1;obtain⟨e,he,h2⟩:=List.any_eq_true.1 h1;simp only [Bool.and_eq_true,Bool.or_eq_true,beq_iff_eq] at h2;exact⟨e,by simpa using he,h2.1,h2.2⟩
def noneLateB (D:Nat→Bool) (listed:Array Bool):Bool:=(List.range listed.size).all fun j=>!D j || !listed.getD j false
theorem noneLateB_spec {listed:Array Bool} (h:noneLateB D listed=true):∀ j,D j=true→listed.getD j false=false:=by
 intro j hd;rcases Nat.lt_or_ge j listed.size with hlt|hge
 · have h1:=List.all_eq_true.1 h j (List.mem_range.2 hlt);simpa [hd] using h1
 · simp [Array.getElem?_eq_none hge]
theorem wpAnyD_take {i:Nat}{oi:Oper}{v:Value}{fuel:Nat}{listed:Array Bool}{a:Act}{w:World} (hi:ops[i]?=some oi)
  (hs:Region.noSelect ops=true) (hf:Region.free md ops listed i=true) (hr:(Region.ready md ops listed).contains i=true) (hD:lateB md ops D i=true) (hn:noneLateB D listed=true)
  (hQ:∀ c a w,Q (.panic c) (a.put oi.dst v) w→Q (.panic c) a w) (hy:YieldsIf P ops S oi v a) (hS:S w)
  (h:wpAnyD P md ops Q S D fuel (listed.setIfInBounds i true) (a.put oi.dst v) w):wpAnyD P md ops Q S D (fuel+1) listed a w:=
 wpAnyD_first hi (Region.noSelect_spec hs) hQ (lateB_spec hD) fuel listed a w (noneLateB_spec hn) (Region.free_spec hi hf) (by simpa using hr) hy hS h
theorem wpAnyD_one {i:Nat}{o:Oper}{fuel:Nat}{listed:Array Bool}{a:Act}{w:World} (hr:Region.ready md ops listed= [i]) (ho:ops[i]?=some o)
  (h:∀ K':Act→World→Prop,(∀ a w,((D i=false→S w)∧wpAnyD P md ops Q S D fuel (listed.setIfInBounds i true) a w)→K' a w)→if Region.wanted o (yielded ops a.tmps)=true then Oper.wp P o a w K' Q else K' (a.put o.dst undef) w):
  wpAnyD P md ops Q S D (fuel+1) listed a w:=by
 refine⟨fun h0=>(by rw [hr] at h0;cases h0),fun j hj=>?_⟩;rw [hr] at hj;obtain rfl:j=i:=by simpa using hj
 exact wpOp_step ho h
def seqLateB (md:Region.Mode) (ops:Array Oper) (D:Nat→Bool):Nat→Nat→Array Bool→Bool
 |0,_,listed=>(Region.ready md ops listed).isEmpty
 |g+1,k,listed=>decide (Region.ready md ops listed= [k]) && D k && seqLateB md ops D g (k+1) (listed.setIfInBounds k true)
theorem wpAnyD_of_seq:∀ (l:List Oper) (k:Nat) (listed:Array Bool) (a:Act) (w:World),(∀ j,l[j]?=ops[k+j]?)→
  seqLateB md ops D l.length k listed=true→wpList P ops Q l a w→wpAnyD P md ops Q S D l.length listed a w
 | [],_,_,_,_,_,hB,h=>⟨by simpa [seqLateB] using hB,h⟩
 |o::l,k,listed,a,w,hl,hB,h=>by
  have h0:ops[k]?=some o:=by simpa using (hl 0).symm
  simp only [List.length_cons,seqLateB,Bool.and_eq_true,decide_eq_true_eq] at hB;obtain⟨⟨hB1,hB2⟩,hB3⟩:=hB;refine⟨fun h1=>(by rw [hB1] at h1;cases h1),fun i hi=>?_⟩;rw [hB1] at hi;have hik:i=k:=by simpa using hi
  subst hik;have hw:wpOp P ops Q i (wpList P ops Q l) a w:=by unfold wpOp;simp only [h0];exact h
  exact wpOp_mono (fun a' w' h'=>⟨fun hd=>(by rw [hB2] at hd;cases hd),wpAnyD_of_seq l (i+1) _ a' w' (fun j=>by have:=hl (j+1);simpa [Nat.add_assoc,Nat.add_comm 1 j] using this) hB3 h'⟩) hw
theorem wpAnyD_tail {L:List Oper} (k:Nat) {fuel:Nat}{listed:Array Bool}{a:Act}{w:World} (hf:fuel=(L.drop k).length) (hB:seqLateB md L.toArray D fuel k listed=true) (h:wpList P L.toArray Q (L.drop k) a w):wpAnyD P md L.toArray Q S D fuel listed a w:=by
 subst hf;exact wpAnyD_of_seq (L.drop k) k listed a w (fun j=>by simp [List.getElem?_drop]) hB h
theorem wp_region_D (S:World→Prop) (D:Nat→Bool) {id:Nat}{a:Act}{w:World} (hm:P.follows .mixedOrders=true)
  (h:wpAnyD P .any ops Q S D ops.size (Array.replicate ops.size false) a w.drew):(Code.region id ops true).wp P Q a w:=
 wp_region_any hm (wpAny_of_D _ _ _ _ h)
theorem any_begin (n:Nat) {id:Nat}{a:Act}{w:World} (hm:P.follows .mixedOrders=true) (hn:ops.size=n)
  (h:wpAny P .any ops Q n (Array.replicate n false) a w.drew):(Code.region id ops true).wp P Q a w:=by
 subst hn;exact wp_region_any hm h
theorem any_take {i:Nat}{oi:Oper}{v:Value}{fuel:Nat}{listed:Array Bool}{a:Act}{w:World} (d:Option Tmp) (hi:ops[i]?=some oi) (hd:oi.dst=d)
  (hs:Region.noSelect ops=true) (hf:Region.free md ops listed i=true) (hr:(Region.ready md ops listed).contains i=true)
  (hQ:∀ c a w,Q (.panic c) (a.put d v) w→Q (.panic c) a w) (hw:Region.wanted oi (yielded ops a.tmps)=true) (hy:∀ w,(execOp a.eval oi).run P w= .ok (.value v) w)
  (h:wpAny P md ops Q fuel (listed.setIfInBounds i true) (a.put d v) w):wpAny P md ops Q (fuel+1) listed a w:=by
 subst hd;exact wpAny_take hi hs hf hr hQ (Or.inl ⟨hw,hy⟩) h
theorem late_begin (S:World→Prop) (D:Nat→Bool) {fuel:Nat}{listed:Array Bool}{a:Act}{w:World} (hS:S w) (h:S w→wpAnyD P md ops Q S D fuel listed a w):wpAny P md ops Q fuel listed a w:=wpAny_of_D _ _ _ _ (h hS)
theorem late_take {i:Nat}{oi:Oper}{v:Value}{fuel:Nat}{listed:Array Bool}{a:Act}{w:World} (d:Option Tmp) (hi:ops[i]?=some oi) (hd:oi.dst=d)
  (hs:Region.noSelect ops=true) (hf:Region.free md ops listed i=true) (hr:(Region.ready md ops listed).contains i=true) (hD:lateB md ops D i=true) (hn:noneLateB D listed=true)
  (hQ:∀ c a w,Q (.panic c) (a.put d v) w→Q (.panic c) a w) (hw:Region.wanted oi (yielded ops a.tmps)=true) (hy:∀ w,S w→(execOp a.eval oi).run P w= .ok (.value v) w) (hS:S w)
  (h:wpAnyD P md ops Q S D fuel (listed.setIfInBounds i true) (a.put d v) w):wpAnyD P md ops Q S D (fuel+1) listed a w:=by
 subst hd;exact wpAnyD_take hi hs hf hr hD hn hQ (Or.inl ⟨hw,hy⟩) hS h
def moveB (o:Oper):Bool:=match o.op with| .move _=>true| .assign _=>true|_=>false
theorem move_yields {o:Oper}{rest:List Oper}{a:Act}{w:World} (hm:moveB o=true) (h:wpList P ops Q (o::rest) a w):∃ v,Yields P ops o v a∧wpList P ops Q rest (a.put o.dst v) w:=by
 have key:∃ x,∀ w,(execOp a.eval o).run P w= .ok (.value (a.eval x)) w∧¬o.asks P a w:=by
  unfold moveB at hm;split at hm
  · rename_i x hx
    refine⟨x,fun w=>?_⟩;have e:execOp a.eval o=pure (.value (a.eval x)):=by unfold execOp;rw [hx]
    refine⟨by rw [e];rfl,?_⟩;unfold Oper.asks;rw [e];intro hc;have h1:=hc.1;change noRoomEvent∈(#[]:Array _) at h1;simp at h1
  · rename_i x hx
    refine⟨x,fun w=>?_⟩;have e:execOp a.eval o=pure (.value (a.eval x)):=by unfold execOp;rw [hx]
    refine⟨by rw [e];rfl,?_⟩;unfold Oper.asks;rw [e];intro hc;have h1:=hc.1;change noRoomEvent∈(#[]:Array _) at h1;simp at h1
  · cases hm
 obtain⟨x,hx⟩:=key;simp only [wpList] at h;split at h
 · rename_i hw
   refine⟨a.eval x,Or.inl ⟨hw,fun w=>(hx w).1⟩,?_⟩;rcases h with h|h
   · unfold Oper.wp at h;rw [(hx w).1] at h;exact h
   · exact absurd h.1 (hx w).2
 · rename_i hw
   exact⟨undef,Or.inr ⟨by simpa using hw,rfl⟩,h⟩
def lexB (md:Region.Mode) (ops:Array Oper):Nat→Nat→Array Bool→Bool
 |0,_,listed=>(Region.ready md ops listed).isEmpty
 |g+1,k,listed=>(decide (Region.ready md ops listed= [k]) || ((Region.ready md ops listed).contains k && (match ops[k]? with|some o=>moveB o|none=>false) && Region.free md ops listed k)) && lexB md ops g (k+1) (listed.setIfInBounds k true)
theorem wpAny_of_lex (hs:Region.noSelect ops=true) (hQ:∀ c a d v w,Q (.panic c) (Act.put a d v) w→Q (.panic c) a w):∀ (l:List Oper) (k:Nat) (listed:Array Bool) (a:Act) (w:World),(∀ j,l[j]?=ops[k+j]?)→
  lexB md ops l.length k listed=true→wpList P ops Q l a w→wpAny P md ops Q l.length listed a w
 | [],_,_,_,_,_,hB,h=>⟨by simpa [lexB] using hB,h⟩
 |o::l,k,listed,a,w,hl,hB,h=>by
  have h0:ops[k]?=some o:=by simpa using (hl 0).symm
  simp only [List.length_cons,lexB,Bool.and_eq_true,Bool.or_eq_true,decide_eq_true_eq,h0] at hB;obtain⟨hB1,hB3⟩:=hB;have hl':∀ j,l[j]?=ops[k+1+j]?:=fun j=>by have:=hl (j+1);simpa [Nat.add_assoc,Nat.add_comm 1 j] using this
  rcases hB1 with hB1|⟨⟨hr,hmv⟩,hf⟩
  · refine⟨fun h1=>(by rw [hB1] at h1;cases h1),fun i hi=>?_⟩;rw [hB1] at hi;have hik:i=k:=by simpa using hi
    subst hik;have hw:wpOp P ops Q i (wpList P ops Q l) a w:=by unfold wpOp;simp only [h0];exact h
    exact wpOp_mono (fun a' w' h'=>wpAny_of_lex hs hQ l (i+1) _ a' w' hl' hB3 h') hw
  · obtain⟨v,hy,h2⟩:=move_yields hmv h;exact wpAny_take h0 hs hf hr (fun c a w=>hQ c a o.dst v w) hy (wpAny_of_lex hs hQ l (k+1) _ _ w hl' hB3 h2)
def restLateB (ops:Array Oper) (D:Nat→Bool) (listed:Array Bool):Bool:=(List.range ops.size).all fun j=>D j || listed.getD j false
theorem wpAnyD_of_any:∀ (fuel:Nat) (listed:Array Bool) (a:Act) (w:World),restLateB ops D listed=true→wpAny P md ops Q fuel listed a w→wpAnyD P md ops Q S D fuel listed a w
 |0,_,_,_,_,h=>h
 |fuel+1,listed,_,_,hB,h=>by
  refine⟨h.1,fun i hi=>?_⟩;obtain⟨hun,oi,hoi,_⟩:=mem_ready.1 hi;have hlt:i<ops.size:=(Array.getElem?_eq_some_iff.1 hoi).1;have hDi:D i=true:=by
   have:=List.all_eq_true.1 hB i (List.mem_range.2 hlt);rw [getD_both hun,Bool.or_false] at this;exact this
  have hB':restLateB ops D (listed.setIfInBounds i true)=true:=by
   refine List.all_eq_true.2 fun j hj=>?_
   have:=List.all_eq_true.1 hB j hj;rcases Bool.or_eq_true _ _ ▸ this with h1|h1
   · simp [h1]
   · rw [getD_set_true h1];simp
  exact wpOp_mono (fun a' w' h'=>⟨fun hd=>(by rw [hDi] at hd;cases hd),wpAnyD_of_any fuel _ a' w' hB' h'⟩) (h.2 i hi)
theorem late_tail {L:List Oper} (k:Nat) {fuel:Nat}{listed:Array Bool}{a:Act}{w:World} (hs:Region.noSelect L.toArray=true) (hQ:∀ c a d v w,Q (.panic c) (Act.put a d v) w→Q (.panic c) a w) (hf:(L.drop k).length=fuel) (hB:lexB md L.toArray fuel k listed=true) (hR:restLateB L.toArray D listed=true)
  (h:wpList P L.toArray Q (L.drop k) a w):wpAnyD P md L.toArray Q S D fuel listed a w:=by
 subst hf;exact wpAnyD_of_any _ _ _ _ hR (wpAny_of_lex hs hQ (L.drop k) k listed a w (fun j=>by simp [List.getElem?_drop]) hB h)
theorem any_tail {L:List Oper} (k:Nat) {fuel:Nat}{listed:Array Bool}{a:Act}{w:World} (hs:Region.noSelect L.toArray=true) (hQ:∀ c a d v w,Q (.panic c) (Act.put a d v) w→Q (.panic c) a w) (hf:(L.drop k).length=fuel) (hB:lexB md L.toArray fuel k listed=true)
  (h:wpList P L.toArray Q (L.drop k) a w):wpAny P md L.toArray Q fuel listed a w:=by
 subst hf;exact wpAny_of_lex hs hQ (L.drop k) k listed a w (fun j=>by simp [List.getElem?_drop]) hB h
theorem late_done {listed:Array Bool}{a:Act}{w:World} (hr:Region.ready md ops listed= []) (h:Q .normal a w):∀ fuel,wpAnyD P md ops Q S D fuel listed a w
 |0=>⟨hr,h⟩
 |_+1=>⟨fun _=>h,by rw [hr];simp⟩
theorem late_over {fuel:Nat}{listed:Array Bool}{a:Act}{w:World} (hR:restLateB ops D listed=true) (h:wpAny P md ops Q fuel listed a w):wpAnyD P md ops Q S D fuel listed a w:=wpAnyD_of_any _ _ _ _ hR h
theorem any_one {i:Nat}{o:Oper}{fuel:Nat}{listed:Array Bool}{a:Act}{w:World} (hr:Region.ready md ops listed= [i]) (ho:ops[i]?=some o)
  (h:∀ K':Act→World→Prop,(∀ a w,wpAny P md ops Q fuel (listed.setIfInBounds i true) a w→K' a w)→if Region.wanted o (yielded ops a.tmps)=true then Oper.wp P o a w K' Q else K' (a.put o.dst undef) w):
  wpAny P md ops Q (fuel+1) listed a w:=by
 refine⟨fun h0=>(by rw [hr] at h0;cases h0),fun j hj=>?_⟩;rw [hr] at hj;obtain rfl:j=i:=by simpa using hj
 exact wpOp_step ho h
theorem any_done {listed:Array Bool}{a:Act}{w:World} (hr:Region.ready md ops listed= []) (h:Q .normal a w):∀ fuel,wpAny P md ops Q fuel listed a w
 |0=>⟨hr,h⟩
 |_+1=>⟨fun _=>h,by rw [hr];simp⟩
theorem ltk {i:Nat}{oi:Oper}{v:Value}{fuel:Nat}{listed:Array Bool}{a:Act}{w:World} (d:Option Tmp) (hi:ops[i]?=some oi) (hd:oi.dst=d) (hy:∀ w,S w→(execOp a.eval oi).run P w= .ok (.value v) w) (hS:S w) (h:wpAnyD P md ops Q S D fuel (listed.setIfInBounds i true) (a.put d v) w)
 (hs:Region.noSelect ops=true:=by kernel_rfl) (hf:Region.free md ops listed i=true:=by kernel_rfl) (hr:(Region.ready md ops listed).contains i=true:=by kernel_rfl) (hD:lateB md ops D i=true:=by kernel_rfl) (hn:noneLateB D listed=true:=by kernel_rfl) (hQ:∀ c a w,Q (.panic c) (a.put d v) w→Q (.panic c) a w:=by exact fun _ _ _ h=>h) (hw:Region.wanted oi (yielded ops a.tmps)=true:=by rfl):wpAnyD P md ops Q S D (fuel+1) listed a w:=late_take d hi hd hs hf hr hD hn hQ hw hy hS h
theorem atk {i:Nat}{oi:Oper}{v:Value}{fuel:Nat}{listed:Array Bool}{a:Act}{w:World} (d:Option Tmp) (hi:ops[i]?=some oi) (hd:oi.dst=d) (hy:∀ w,(execOp a.eval oi).run P w= .ok (.value v) w) (h:wpAny P md ops Q fuel (listed.setIfInBounds i true) (a.put d v) w)
 (hs:Region.noSelect ops=true:=by kernel_rfl) (hf:Region.free md ops listed i=true:=by kernel_rfl) (hr:(Region.ready md ops listed).contains i=true:=by kernel_rfl) (hQ:∀ c a w,Q (.panic c) (a.put d v) w→Q (.panic c) a w:=by exact fun _ _ _ h=>h) (hw:Region.wanted oi (yielded ops a.tmps)=true:=by rfl):wpAny P md ops Q (fuel+1) listed a w:=any_take d hi hd hs hf hr hQ hw hy h
end
theorem sA {α:Type} (l:List α) (i:Nat) (a:α):l.toArray.setIfInBounds i a=(l.set i a).toArray:=List.setIfInBounds_toArray _ _ _
theorem sB {α:Type} (x:α) (xs:List α) (a:α):(x::xs).set 0 a=a::xs:=rfl
theorem sC {α:Type} (x:α) (xs:List α) (n:Nat) (a:α):(x::xs).set (n+1) a=x::xs.set n a:=rfl
open Go.RowKit
abbrev B:=List UInt8
theorem all256 {P:UInt8→Prop} (h:∀ n:Fin 256,P (UInt8.ofNat n.1)) (c:UInt8):P c:=by
 have:=h ⟨c.toNat,c.toNat_lt⟩
 rwa [show UInt8.ofNat c.toNat=c from UInt8.ofNat_toNat] at this
def cutF (x:UInt8):B→B×B×Bool
 | []=>([],[],false)
 |c::l=>if c=x then ([],l,true) else (c::(cutF x l).1,(cutF x l).2.1,(cutF x l).2.2)
theorem cutF_no {x:UInt8}:∀ p:B,(∀ y∈p,y≠x)→cutF x p=(p,[],false)
 | [],_=>rfl
 |c::l,h=>by rw [cutF,if_neg (h c (by simp)),cutF_no l (fun y hy=>h y (by simp [hy]))]
theorem cutF_at {x:UInt8}:∀ (p q:B),(∀ y∈p,y≠x)→cutF x (p++x::q)=(p,q,true)
 | [],q,_=>by rw [List.nil_append,cutF,if_pos rfl]
 |c::l,q,h=>by rw [List.cons_append,cutF,if_neg (h c (by simp)),cutF_at l q (fun y hy=>h y (by simp [hy]))]
theorem cutF_spec (x:UInt8):∀ s:B,(∀ y∈(cutF x s).1,y≠x)∧s=(cutF x s).1++(if (cutF x s).2.2 then x::(cutF x s).2.1 else [])∧((cutF x s).2.2=false→(cutF x s).2.1= [])
 | []=>by simp [cutF]
 |c::l=>by
  obtain⟨h1,h2,h3⟩:=cutF_spec x l;by_cases hc:c=x
  · rw [cutF,if_pos hc,hc];simp
  · rw [cutF,if_neg hc];refine⟨fun y hy=>?_,?_,h3⟩
    · rcases List.mem_cons.1 hy with rfl|hy
      · exact hc
      · exact h1 y hy
    · simp only [List.cons_append];rw [←h2]
theorem cutF_lens (x:UInt8) (s:B):(cutF x s).1.length+(cutF x s).2.1.length≤s.length:=by
 obtain⟨h1,h2,h3⟩:=cutF_spec x s;have:=congrArg List.length h2;rw [List.length_append] at this;cases h:(cutF x s).2.2 with
 |true=>rw [h] at this;simp at this;omega
 |false=>rw [h3 h];rw [h] at this;simp at this;simp;omega
theorem cutF_len (x:UInt8):∀ s:B,(cutF x s).1.length≤s.length∧(cutF x s).2.1.length≤s.length
 | []=>⟨Nat.le_refl _,Nat.le_refl _⟩
 |c::l=>by
  have:=cutF_len x l;unfold cutF;split
  · simp
  · simp;omega
theorem hid {p:Prop} (h:p):Hid p:=h
abbrev str (t:B):ByteArray:=⟨t.toArray⟩
theorem str_size (t:B):(str t).size=t.length:=by simp [ByteArray.size]
abbrev byteV (c:UInt8):Value:=.int .u8 (c.toNat:Int)
theorem ret_bool {a b:Bool} (h:a=b):Ending.returned (.bool a)= .returned (.bool b):=by rw [h]
theorem arr_inj {a b:ByteArray} (h:a.data.toList=b.data.toList):a=b:=by
 apply ByteArray.ext;exact Array.toList_inj.1 h
theorem str_inj {a b:B} (h:str a=str b):a=b:=by
 have:=congrArg (fun x:ByteArray=>x.data.toList) h;simpa using this
theorem ne_list {A C:ByteArray} (h:¬A=C):(A.toList== C.toList)=false:=by
 rw [ByteArray.toList_eq,ByteArray.toList_eq,beq_eq_false_iff_ne];exact fun e=>h (arr_inj e)
theorem ne_empty {A:ByteArray} (h:¬A=⟨#[]⟩):A.toList.isEmpty=false:=by
 rw [ByteArray.toList_eq];cases e:A.data.toList with
 |nil=>exact absurd (arr_inj (b:=⟨#[]⟩) e) h
 |cons _ _=>rfl
theorem str_ne {a b:B} (h:a≠b):str a≠str b:=fun e=>h (str_inj e)
theorem ext_str (p:B) (f k:Nat):(str p).extract f k=str ((p.drop f).take (k-f)):=by
 apply arr_inj;simp [List.extract]
theorem below_out {w W w':World} (h1:Below w.heap.size w W) (h2:Below W.heap.size W w'):Below w.heap.size w w':=h1.trans (h2.mono h1.size)
theorem below_drew {Bd:Nat}{a w:World} (h:Below Bd a w):∀ q,Below Bd a (w.drewN q):=fun _=>⟨h.os,h.tape,h.output,h.size,h.block⟩
theorem lt_of_heap {w:World}{k:Nat}{o:Obj} (h:w.heap[k]?=some o):k<w.heap.size:=(Array.getElem?_eq_some_iff.1 h).1
theorem kB {w w':World}{k:Nat}{o:Obj} (hb:Below w.heap.size w w') (h:w.heap[k]?=some o):w'.heap[k]?=some o:=(hb.block k (lt_of_heap h)).trans h
theorem below_new (w:World) (o:Obj):Below w.heap.size w (w.alloc o):=(Below.refl _ _).alloc (Nat.le_refl _) _
theorem own_slice {w:World}{base n m:Nat}{e:TypeId}{u:Value}{ys:List Value} (h:w.ownsRow base e m u n ys):∃ p c,u= .slice p n c:=by
 rcases h.2 with ⟨h1,h2⟩|⟨g,cap,cur,h1,_⟩
 · exact⟨none,0,by rw [h1,h2]⟩
 · exact⟨_,_,h1⟩
theorem own_slice3 {w:World}{base n m:Nat}{e:TypeId}{u:Value}{ys:List Value} (h:w.ownsRow base e m u n ys):∃ p L c,u= .slice p L c:=by
 obtain⟨p,c,e⟩:=own_slice h;exact⟨p,n,c,e⟩
theorem own_ge {w:World}{base n m k:Nat}{e:TypeId}{u:Value}{ys:List Value} (h:w.ownsRow base e m u n ys) (hk:u.ownBlock=some k):base≤k:=by
 rcases h.2 with ⟨rfl,_⟩|⟨g,cap,cur,rfl,h1,_⟩
 · simp [Value.ownBlock] at hk
 · simp [Value.ownBlock] at hk;subst hk;exact h1
theorem own_ne {w:World}{base n m v:Nat}{e:TypeId}{u:Value}{ys:List Value} (h:w.ownsRow base e m u n ys) (hv:v<base) (hk:u.ownBlock=some v):False:=by
 have:=own_ge h hk;omega
def Own (w:World) (base:Nat) (v:Value) (acc:B):Prop:=w.ownsRow base 5 1 v acc.length (Lib.byteCells acc)
theorem cells_app (a b:B):Lib.byteCells (a++b)=Lib.byteCells a++Lib.byteCells b:=by simp [Lib.byteCells]
theorem Own.nil (w:World) (base:Nat):Own w base (.slice none 0 0) []:=⟨rfl,.inl ⟨rfl,rfl⟩⟩
theorem Own.put {w':World}{base k:Nat}{v':Value}{acc bs:B}{news:List Value} (h:w'.ownsRow base 5 1 v' (acc.length+k) (Lib.byteCells acc++news)) (e:Lib.byteCells bs=news) (hk:bs.length=k):Own w' base v' (acc++bs):=by
 unfold Own;rw [cells_app,e,List.length_append,hk];exact h
theorem Own.below {w w':World}{base:Nat}{v:Value}{acc:B} (h:Own w base v acc) (hb:base≤w.heap.size) (hg:w.grownBy w' v.ownBlock):Below base w w':=
 ⟨hg.os,hg.tape,hg.output,hg.size,fun k hk=>hg.block k (by omega) (fun e=>own_ne h hk e.symm)⟩
theorem Own.keep {w w':World}{base:Nat}{v:Value}{acc:B} (h:Own w base v acc) (hb:Below w.heap.size w w'):Own w' base v acc:=by
 refine⟨h.1,?_⟩;rcases h.2 with h1|⟨g,cap,cur,h1,h2,h3,h4⟩
 · exact .inl h1
 · exact .inr ⟨g,cap,cur,h1,h2,(hb.block g (lt_of_heap h3)).trans h3,h4⟩
theorem Own.alloc {w:World}{base:Nat}{v:Value}{acc:B} (h:Own w base v acc) (o:Obj):Own (w.alloc o) base v acc:=h.keep (below_new w o)
theorem add_off (g j:Nat):(⟨g,0,none⟩:Addr).add j=⟨g,j,none⟩:=by unfold Addr.add;split <;> simp_all
theorem cells_new (w:World) (news:List Value) (T:TypeId):∀ j u,news[j]?=some u→(w.alloc (.cells news.toArray T (0,0))).cell? ((⟨w.heap.size,0,none⟩:Addr).add j)=some u:=by
 intro j u hj;rw [add_off];have:=heap_alloc_new w (.cells news.toArray T (0,0));simp only [World.cell?,this];simpa using hj
theorem infoB:(Tryz.prog.info? 5).map (fun i=>(i.zero,i.size,i.bytes))=some (some (.int .u8 0),1,1):=by kernel_rfl
theorem str_cells (acc:B):strOfNums (acc.map fun c=>(c.toNat:Int))=str acc:=by
 unfold strOfNums;congr 2;rw [List.map_map];conv=>rhs;rw [←List.map_id acc]
 apply List.map_congr_left;intro c _;simp
theorem conv_own {w:World}{B0:Nat}{v:Value}{acc:B} (h:Own w B0 v acc):(convert 138 9 v).run Tryz.prog w= .ok (.string (str acc)) w:=by
 have h:=World.ownsRowF_of h;rcases h.2 with ⟨rfl,h0⟩|⟨g,cap,cur,fz,rfl,h1,h2,h3,h4,h5,h6,h7⟩
 · obtain rfl:acc= []:=List.eq_nil_of_length_eq_zero h0;exact run_convert_bytes_nil w 138 5 (by kernel_rfl) (by kernel_rfl) 0 0 9 (by kernel_rfl)
 · rw [←str_cells];refine run_convert_bytes_arg w 138 5 (by kernel_rfl) (by kernel_rfl) g 0 acc.length cap _ (by simp) ?_ 9 (by kernel_rfl);intro i hi;have:=h.cells (g:=g) rfl i (.int .u8 ((acc[i].toNat:Nat):Int)) (by simp [Lib.byteCells,hi]);have hadd:(⟨g,0,none⟩:Addr).add i=⟨g,0+i,none⟩:=by unfold Addr.add;split <;> simp_all
   rw [hadd] at this;rw [this];simp [List.getD,hi]
theorem wp_append_own_at {P:Program}{w:World}{o:Oper}{a:Act}{K:Act→World→Prop}{Q:Exit→Act→World→Prop} (s x:Operand) (t:TypeId)
  (ho:o.op= .call {callee:=.builtin .append,args:=#[s,x],argTypes:=#[t,t]})
  (base:Nat) (e:TypeId) (i:TypeInfo) (z:Value) (size bytes:Nat) (ht:P.underlying t=some (.slice e)) (hi:P.info? e=some i) (hz:i.zero=some z)
  (hsize:i.size=size) (hby:i.bytes=bytes) (hzs:z.cells.size=size) (hsz:0<size)
  (v:Value) (n:Nat) (xs:List Value) (hs:a.eval s=v) (hown:w.ownsRow base e size v n xs)
  (ad:Addr) (m c:Nat) (news:List Value) (hx:a.eval x= .slice (some ad) m c) (hl:news.length=m*size) (hnews:∀ j u,news[j]?=some u→w.cell? (ad.add j)=some u) (h1:∀ u∈news,u.oneCell'=true)
  (h63:n+m≤maxLen) (hbytes:(n+m)*bytes≤140737488355328) (hbase:base≤w.heap.size)
  (h:∀ v' w',w'.ownsRow base e size v' (n+m) (xs++news)→w.grownBy w' v.ownBlock→(v'.ownBlock=v.ownBlock∨v'.ownBlock=some w.heap.size)→K (a.put o.dst v') w'):o.wp P a w K Q:=by
 obtain⟨v',w',hr,h2,h3,_,h5⟩:=run_append_own_at (P:=P) w base t o.type e i z size bytes ht hi hz hsize hby hzs hsz v n xs hown ad m c news hl hnews h1 h63 hbytes hbase;unfold Oper.wp execOp;simp only [ho,resolve,invoke,builtin,Sem.run_bind,Sem.run_pure,Result.andThen_ok,List.map_toArray,List.map_cons,List.map_nil,hs,hx,hr];exact h v' w' h2 h3 h5
theorem one_cell (c:UInt8):Lib.byteCells [c]= [.int .u8 (c.toNat:Int)]:=rfl
def strC (ns:List B):List Value:=ns.map fun t=>.string (str t)
def OwnS (w:World) (base:Nat) (v:Value) (ns:List B):Prop:=w.ownsRow base 9 1 v ns.length (strC ns)
theorem OwnS.nil (w:World) (base:Nat):OwnS w base (.slice none 0 0) []:=⟨rfl,.inl ⟨rfl,rfl⟩⟩
theorem OwnS.put {w':World}{base:Nat}{v':Value}{acc:List B}{t:B} (h:w'.ownsRow base 9 1 v' (acc.length+1) (strC acc++ [.string (str t)])):OwnS w' base v' (acc++ [t]):=by
 unfold OwnS;rw [List.length_append,show strC (acc++ [t])=strC acc++ [.string (str t)] from by simp [strC]];exact h
theorem OwnS.below {w w':World}{base:Nat}{v:Value}{acc:List B} (h:OwnS w base v acc) (hb:base≤w.heap.size) (hg:w.grownBy w' v.ownBlock):Below base w w':=
 ⟨hg.os,hg.tape,hg.output,hg.size,fun k hk=>hg.block k (by omega) (fun e=>own_ne h hk e.symm)⟩
theorem OwnS.keep {w w':World}{base:Nat}{v:Value}{acc:List B} (h:OwnS w base v acc) (hb:Below w.heap.size w w'):OwnS w' base v acc:=by
 refine⟨h.1,?_⟩;rcases h.2 with h1|⟨g,cap,cur,h1,h2,h3,h4⟩
 · exact .inl h1
 · exact .inr ⟨g,cap,cur,h1,h2,(hb.block g (lt_of_heap h3)).trans h3,h4⟩
theorem OwnS.alloc {w:World}{base:Nat}{v:Value}{acc:List B} (h:OwnS w base v acc) (o:Obj):OwnS (w.alloc o) base v acc:=h.keep (below_new w o)
theorem infoS:(Tryz.prog.info? 9).map (fun i=>(i.zero,i.size,i.bytes))=some (some (.string ⟨#[]⟩),1,16):=by kernel_rfl
theorem strCells_str (s:B):Lib.strCells (str s)=Lib.byteCells s:=by
 simp [Lib.strCells,Lib.byteCells]
theorem OwnS.cap {w:World}{base n c:Nat}{p:Option Addr}{ns:List B} (h:OwnS w base (.slice p n c) ns):n≤c:=by
 rcases h.2 with ⟨h1,h2⟩|⟨g,cap,cur,h1,h2,h3,h4,_⟩
 · cases h1;exact Nat.le_refl _
 · cases h1;exact h4
theorem OwnS.at {w:World}{base n c j:Nat}{p:Option Addr}{ns:List B}{t:B} (h:OwnS w base (.slice p n c) ns) (hj:ns[j]?=some t):∃ g o,p=some ⟨g,o,none⟩∧w.cell? ⟨g,o+j,none⟩=some (.string (str t)):=by
 have hlt:j<ns.length:=(List.getElem?_eq_some_iff.1 hj).1;rcases h.2 with ⟨h1,h2⟩|⟨g,cap,cur,h1,h2,h3,h4,_,h6,h7⟩
 · omega
 · refine⟨g,0,by cases h1;rfl,?_⟩;have e:(cur.toList.take (ns.length*1))[j]?=some (.string (str t)):=by
    rw [h7];simp [strC,hj]
   rw [List.getElem?_take,if_pos (by omega)] at e;simp only [Nat.zero_add];simp only [World.cell?,h3];simpa using e
theorem OwnS.less {w:World}{base k c:Nat}{p:Option Addr}{ns:List B}{t:B} (h:OwnS w base (.slice p (k+1) c) (ns++ [t])) (hk:ns.length=k):OwnS w base (.slice p k c) ns:=by
 rcases h.2 with ⟨h1,h2⟩|⟨g,cap,cur,h1,h2,h3,h4,h5,h6,h7⟩
 · simp at h2
 · simp only [Value.slice.injEq] at h1;obtain⟨rfl,_,rfl⟩:=h1;refine⟨by simp [strC],.inr ⟨g,c,cur,by rw [hk],h2,h3,by simp at h4;omega,h5,h6,?_⟩⟩;have e:(cur.toList.take ((ns++ [t]).length*1)).take (ns.length*1)=strC ns:=by
    rw [h7];simp [strC]
   rw [List.take_take] at e;rw [←e];congr 1;simp
theorem OwnS.base {w:World}{b b':Nat}{v:Value}{acc:List B} (h:OwnS w b v acc) (hb:b'≤b):OwnS w b' v acc:=by
 refine⟨h.1,?_⟩;rcases h.2 with h1|⟨g,cap,cur,h1,h2,h3⟩
 · exact .inl h1
 · exact .inr ⟨g,cap,cur,h1,Nat.le_trans hb h2,h3⟩
theorem below_grown {w w':World} (h:w.grownBy w' none):Below w.heap.size w w':=⟨h.os,h.tape,h.output,h.size,fun k hk=>h.block k hk (by simp)⟩
theorem ext_drop (s:B) (i n:Nat) (h:s.length=n):(str s).extract i n=str (s.drop i):=by
 rw [ext_str,List.take_of_length_le (by rw [List.length_drop];omega)]
theorem lt_of_cell {w:World}{k o:Nat}{v:Value} (h:w.cell? ⟨k,o,none⟩=some v):k<w.heap.size:=by
 unfold World.cell? at h;cases e:w.heap[k]? with
 |none=>simp [e] at h
 |some o=>exact lt_of_heap e
theorem cell_keep {w w':World} (hb:Below w.heap.size w w') {k o:Nat}{v:Value} (h:w.cell? ⟨k,o,none⟩=some v):w'.cell? ⟨k,o,none⟩=some v:=(hb.cell (p:=⟨k,o,none⟩) (lt_of_cell h)).trans h
def errOf (k:Nat):Value:=if k=0 then .nilIface else .iface 74 (.int .i64 (k:Int))
theorem errOf_zero:errOf 0= .nilIface:=rfl
theorem errOf_pos {k:Nat} (h:k≠0):errOf k= .iface 74 (.int .i64 (k:Int)):=by unfold errOf;rw [if_neg h]
theorem Own.cap {w:World}{base n c:Nat}{p:Option Addr}{acc:B} (h:Own w base (.slice p n c) acc):n≤c:=by
 rcases h.2 with ⟨h1,h2⟩|⟨g,cap,cur,h1,h2,h3,h4,_⟩
 · cases h1;exact Nat.le_refl _
 · cases h1;exact h4
theorem Own.less {w:World}{base n c:Nat}{p:Option Addr}{a b:B} (h:Own w base (.slice p n c) (a++b)):Own w base (.slice p a.length c) a:=by
 rcases h.2 with ⟨h1,h2⟩|⟨g,cap,cur,h1,h2,h3,h4,h5,h6,h7⟩
 · cases h1;have ha:a= []:=List.eq_nil_of_length_eq_zero (by rw [List.length_append] at h2;omega);subst ha;exact Own.nil w base
 · simp only [Value.slice.injEq] at h1;obtain⟨rfl,_,rfl⟩:=h1;refine⟨by simp [Lib.byteCells],.inr ⟨g,c,cur,rfl,h2,h3,by rw [List.length_append] at h4;omega,h5,h6,?_⟩⟩;have e:(cur.toList.take ((a++b).length*1)).take (a.length*1)=Lib.byteCells a:=by
    rw [h7];simp [Lib.byteCells]
   rw [List.take_take] at e;rw [←e];congr 1;simp
theorem Own.at {w:World}{base n c j:Nat}{p:Option Addr}{acc:B}{y:UInt8} (h:Own w base (.slice p n c) acc) (hj:acc[j]?=some y):∃ g o,p=some ⟨g,o,none⟩∧w.cell? ⟨g,o+j,none⟩=some (.int .u8 (y.toNat:Int)):=by
 have hlt:j<acc.length:=(List.getElem?_eq_some_iff.1 hj).1;rcases h.2 with ⟨h1,h2⟩|⟨g,cap,cur,h1,h2,h3,h4,_,h6,h7⟩
 · omega
 · refine⟨g,0,by cases h1;rfl,?_⟩;have e:(cur.toList.take (acc.length*1))[j]?=some (.int .u8 (y.toNat:Int)):=by
    rw [h7];simp [Lib.byteCells,hj]
   rw [List.getElem?_take,if_pos (by omega)] at e;simp only [Nat.zero_add];simp only [World.cell?,h3];simpa using e
theorem take_ext (s:B) (k:Nat):(str s).extract 0 k=str (s.take k):=by rw [ext_str];simp
theorem str_app (a b:B):str a++str b=str (a++b):=by
 apply ByteArray.ext;simp [ByteArray.data_append]
def fldC (fs:List (B×B)):List Value:=fs.flatMap fun f=>[.string (str f.1),.string (str f.2)]
theorem fldC_app (a b:List (B×B)):fldC (a++b)=fldC a++fldC b:=by simp [fldC]
def OwnF (w:World) (base:Nat) (v:Value) (fs:List (B×B)):Prop:=w.ownsRow base 73 2 v fs.length (fldC fs)
theorem OwnF.nil (w:World) (base:Nat):OwnF w base (.slice none 0 0) []:=⟨rfl,.inl ⟨rfl,rfl⟩⟩
theorem OwnF.put {w':World}{base:Nat}{v':Value}{acc:List (B×B)}{f:B×B} (h:w'.ownsRow base 73 2 v' (acc.length+1) (fldC acc++ [.string (str f.1),.string (str f.2)])):OwnF w' base v' (acc++ [f]):=by
 unfold OwnF;rw [List.length_append,fldC_app];exact h
theorem OwnF.below {w w':World}{base:Nat}{v:Value}{acc:List (B×B)} (h:OwnF w base v acc) (hb:base≤w.heap.size) (hg:w.grownBy w' v.ownBlock):Below base w w':=
 ⟨hg.os,hg.tape,hg.output,hg.size,fun k hk=>hg.block k (Nat.lt_of_lt_of_le hk hb) (fun e=>by have:=own_ge h e.symm;omega)⟩
theorem OwnF.keep {w w':World}{base:Nat}{v:Value}{acc:List (B×B)} (h:OwnF w base v acc) (hb:Below w.heap.size w w'):OwnF w' base v acc:=by
 refine⟨h.1,?_⟩;rcases h.2 with h1|⟨g,cap,cur,h1,h2,h3,h4⟩
 · exact .inl h1
 · exact .inr ⟨g,cap,cur,h1,h2,(hb.block g (lt_of_heap h3)).trans h3,h4⟩
theorem OwnF.alloc {w:World}{base:Nat}{v:Value}{acc:List (B×B)} (h:OwnF w base v acc) (o:Obj):OwnF (w.alloc o) base v acc:=h.keep (below_new w o)
theorem infoF:(Tryz.prog.info? 73).map (fun i=>(i.zero,i.size,i.bytes))=some (some (.agg #[.string ⟨#[]⟩,.string ⟨#[]⟩]),2,32):=by kernel_rfl
theorem fldC_at:∀ (fs:List (B×B)) (j:Nat) (f:B×B),fs[j]?=some f→(fldC fs)[2*j]?=some (.string (str f.1))∧(fldC fs)[2*j+1]?=some (.string (str f.2))
 | [],j,f,h=>by simp at h
 |x::l,0,f,h=>by
  simp at h;subst h;simp [fldC]
 |x::l,j+1,f,h=>by
  obtain⟨h1,h2⟩:=fldC_at l j f (by simpa using h);have e:fldC (x::l)= .string (str x.1):: .string (str x.2)::fldC l:=rfl;rw [e,show 2*(j+1)=2*j+1+1 by omega];simp only [List.getElem?_cons_succ];exact⟨h1,h2⟩
theorem OwnF.at {w:World}{base n c j:Nat}{p:Option Addr}{fs:List (B×B)}{f:B×B} (h:OwnF w base (.slice p n c) fs) (hj:fs[j]?=some f):∃ g o,p=some ⟨g,o,none⟩∧w.cell? ⟨g,o+2*j,none⟩=some (.string (str f.1))∧w.cell? ⟨g,o+2*j+1,none⟩=some (.string (str f.2)):=by
 have hlt:j<fs.length:=(List.getElem?_eq_some_iff.1 hj).1;obtain⟨k1,k2⟩:=fldC_at fs j f hj;rcases h.2 with ⟨h1,h2⟩|⟨g,cap,cur,h1,h2,h3,h4,_,h6,h7⟩
 · omega
 · refine⟨g,0,by cases h1;rfl,?_,?_⟩
   · rw [←h7,List.getElem?_take,if_pos (by omega)] at k1;simp only [Nat.zero_add];simp only [World.cell?,h3];simpa using k1
   · rw [←h7,List.getElem?_take,if_pos (by omega)] at k2;simp only [Nat.zero_add];simp only [World.cell?,h3];simpa using k2
end Go.Proofs.YtlmlljlappjjjaaGreatDoor
