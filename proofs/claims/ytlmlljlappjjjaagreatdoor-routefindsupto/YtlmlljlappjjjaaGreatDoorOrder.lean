/- A region that draws its order, some of whose operations yield the same in every world that meets a condition: they may be taken first; the condition is asked only behind operations that do not wait for them. -/
import Derived.OrdersHeld
import Derived.StillTail
import Derived.RegionTactic
namespace Go.Proofs.YtlmlljlappjjjaaGreatDoor
section
variable {P : Program} {ops : Array Oper} {Q : Exit → Act → World → Prop} {md : Region.Mode} {S : World → Prop} {D : Nat → Bool}
def wpAnyD (P:Program) (md:Region.Mode) (ops:Array Oper) (Q:Exit→Act→World→Prop) (S:World→Prop) (D:Nat→Bool):Nat→Array Bool→Act→World→Prop
 |0,listed,a,w=>Region.ready md ops listed= []∧Q .normal a w
 |fuel+1,listed,a,w=>
  (Region.ready md ops listed= []→Q .normal a w)∧
  ∀ i∈Region.ready md ops listed,wpOp P ops Q i (fun a' w'=>(D i=false→S w')∧wpAnyD P md ops Q S D fuel (listed.setIfInBounds i true) a' w') a w
theorem wpAny_of_D:∀ (fuel:Nat) (listed:Array Bool) (a:Act) (w:World),wpAnyD P md ops Q S D fuel listed a w→wpAny P md ops Q fuel listed a w
 |0,_,_,_,h=>h
 |fuel+1,_,_,_,h=>⟨h.1,fun i hi=>wpOp_mono (fun a' w' h'=>wpAny_of_D fuel _ a' w' h'.2) (h.2 i hi)⟩
theorem wpAnyD_first {i:Nat}{oi:Oper}{v:Value} (hi:ops[i]?=some oi) (hsel:∀ (j:Nat) (o:Oper) cs b,ops[j]?=some o→o.op≠ .select cs b)
  (hQ:∀ c a w,Q (.panic c) (a.put oi.dst v) w→Q (.panic c) a w)
  (hD:∀ j oj,ops[j]?=some oj→D j=true→∃ e∈oj.after,Region.binds md e=true∧(e.on=i∨D e.on=true)):
  ∀ (fuel:Nat) (listed:Array Bool) (a:Act) (w:World),
   (∀ j,D j=true→listed.getD j false=false)→
   (∀ j oj,ops[j]?=some oj→j≠i→listed.getD j true=false→(∀ e∈oj.after,Region.binds md e=true→e.on≠i)→oi.apart ops oj=true)→
   i∈Region.ready md ops listed→YieldsIf P ops S oi v a→S w→
   wpAnyD P md ops Q S D fuel (listed.setIfInBounds i true) (a.put oi.dst v) w→wpAnyD P md ops Q S D (fuel+1) listed a w:=by
 intro fuel
 induction fuel with
 |zero=>
  intro listed a w _ _ hr hy hS H;refine⟨fun h=>(by rw [h] at hr;cases hr),fun j hj=>?_⟩;by_cases hji:j=i
  · subst hji;exact hy.wpOp hi hS ⟨fun _=>hS,H⟩
  · have:=ready_mono hj hji;rw [H.1] at this;cases this
 |succ fuel ih=>
  intro listed a w hDl hfree hr hy hS H;refine⟨fun h=>(by rw [h] at hr;cases hr),fun j hj=>?_⟩;by_cases hji:j=i
  · subst hji;exact hy.wpOp hi hS ⟨fun _=>hS,H⟩
  · have h1:=H.2 j (ready_mono hj hji);obtain⟨hjun,oj,hoj,hall⟩:=mem_ready.1 hj;have hiun:listed.getD i false=false:=by
     have h0:=(mem_ready.1 hr).1;exact getD_both h0
    have hnot:∀ e∈oj.after,Region.binds md e=true→e.on≠i:=fun e he hb heq=>by
     have h1:=hall e he hb;rw [heq,hiun] at h1;cases h1
    have hDj:D j=false:=by
     cases hd:D j with
     |false=>rfl
     |true=>
      obtain⟨e,he,hb,h3⟩:=hD j oj hoj hd;have h4:=hall e he hb;rcases h3 with h3|h3
      · rw [h3,hiun] at h4;cases h4
      · rw [hDl _ h3] at h4;cases h4
    have h2:=wpOp_putIf hoj (hfree j oj hoj hji hjun hnot) (fun cs b=>hsel i oi cs b hi) (fun cs b=>hsel j oj cs b hoj) hQ hy h1;have hfree':∀ k ok,ops[k]?=some ok→k≠i→(listed.setIfInBounds j true).getD k true=false→
      (∀ e∈ok.after,Region.binds md e=true→e.on≠i)→oi.apart ops ok=true:=fun k ok hk hki hun hno=>by
     refine hfree k ok hk hki ?_ hno;by_cases hjk:j=k
     · subst hjk;exact hjun
     · rw [getD_set_ne true hjk] at hun;exact hun
    have hDl':∀ k,D k=true→(listed.setIfInBounds j true).getD k false=false:=fun k hk=>by
     have hne:j≠k:=fun e=>by rw [e,hk] at hDj;cases hDj
     rw [getD_set_ne false hne];exact hDl k hk
    refine wpOp_mono (fun a' w' h3=>⟨h3.2.1,ih (listed.setIfInBounds j true) a' w' hDl' hfree' (ready_mono hr (Ne.symm hji)) h3.1 (h3.2.1 hDj) ?_⟩) h2;rw [Array.setIfInBounds_comm _ _ hji];exact h3.2.2
def lateB (md:Region.Mode) (ops:Array Oper) (D:Nat→Bool) (i:Nat):Bool:=
 (List.range ops.size).all fun j=>!D j || match ops[j]? with|some o=>o.after.toList.any fun e=>Region.binds md e && (e.on== i || D e.on)|none=>true
theorem lateB_spec {i:Nat} (h:lateB md ops D i=true):∀ j oj,ops[j]?=some oj→D j=true→∃ e∈oj.after,Region.binds md e=true∧(e.on=i∨D e.on=true):=by
 intro j oj hj hd;have hlt:j<ops.size:=(Array.getElem?_eq_some_iff.1 hj).1;have h1:=List.all_eq_true.1 h j (List.mem_range.2 hlt);simp only [hd,Bool.not_true,Bool.false_or,hj] at h1;obtain⟨e,he,h2⟩:=List.any_eq_true.1 h1;simp only [Bool.and_eq_true,Bool.or_eq_true,beq_iff_eq] at h2;exact⟨e,by simpa using he,h2.1,h2.2⟩
def noneLateB (D:Nat→Bool) (listed:Array Bool):Bool:=(List.range listed.size).all fun j=>!D j || !listed.getD j false
theorem noneLateB_spec {listed:Array Bool} (h:noneLateB D listed=true):∀ j,D j=true→listed.getD j false=false:=by
 intro j hd;rcases Nat.lt_or_ge j listed.size with hlt|hge
 · have h1:=List.all_eq_true.1 h j (List.mem_range.2 hlt);simpa [hd] using h1
 · simp [Array.getElem?_eq_none hge]
theorem wpAnyD_take {i:Nat}{oi:Oper}{v:Value}{fuel:Nat}{listed:Array Bool}{a:Act}{w:World} (hi:ops[i]?=some oi)
  (hs:Region.noSelect ops=true) (hf:Region.free md ops listed i=true) (hr:(Region.ready md ops listed).contains i=true) (hD:lateB md ops D i=true) (hn:noneLateB D listed=true)
  (hQ:∀ c a w,Q (.panic c) (a.put oi.dst v) w→Q (.panic c) a w) (hy:YieldsIf P ops S oi v a) (hS:S w)
  (h:wpAnyD P md ops Q S D fuel (listed.setIfInBounds i true) (a.put oi.dst v) w):wpAnyD P md ops Q S D (fuel+1) listed a w:=
 wpAnyD_first hi (Region.noSelect_spec hs) hQ (lateB_spec hD) fuel listed a w (noneLateB_spec hn) (Region.free_spec hi hf) (by simpa using hr) hy hS h
theorem wpAnyD_one {i:Nat}{o:Oper}{fuel:Nat}{listed:Array Bool}{a:Act}{w:World} (hr:Region.ready md ops listed= [i]) (ho:ops[i]?=some o)
  (h:∀ K':Act→World→Prop,(∀ a w,((D i=false→S w)∧wpAnyD P md ops Q S D fuel (listed.setIfInBounds i true) a w)→K' a w)→if Region.wanted o (yielded ops a.tmps)=true then Oper.wp P o a w K' Q else K' (a.put o.dst undef) w):
  wpAnyD P md ops Q S D (fuel+1) listed a w:=by
 refine⟨fun h0=>(by rw [hr] at h0;cases h0),fun j hj=>?_⟩;rw [hr] at hj;obtain rfl:j=i:=by simpa using hj
 exact wpOp_step ho h
def seqLateB (md:Region.Mode) (ops:Array Oper) (D:Nat→Bool):Nat→Nat→Array Bool→Bool
 |0,_,listed=>(Region.ready md ops listed).isEmpty
 |g+1,k,listed=>decide (Region.ready md ops listed= [k]) && D k && seqLateB md ops D g (k+1) (listed.setIfInBounds k true)
theorem wpAnyD_of_seq:∀ (l:List Oper) (k:Nat) (listed:Array Bool) (a:Act) (w:World),(∀ j,l[j]?=ops[k+j]?)→
  seqLateB md ops D l.length k listed=true→wpList P ops Q l a w→wpAnyD P md ops Q S D l.length listed a w
 | [],_,_,_,_,_,hB,h=>⟨by simpa [seqLateB] using hB,h⟩
 |o::l,k,listed,a,w,hl,hB,h=>by
  have h0:ops[k]?=some o:=by simpa using (hl 0).symm
  simp only [List.length_cons,seqLateB,Bool.and_eq_true,decide_eq_true_eq] at hB;obtain⟨⟨hB1,hB2⟩,hB3⟩:=hB;refine⟨fun h1=>(by rw [hB1] at h1;cases h1),fun i hi=>?_⟩;rw [hB1] at hi;have hik:i=k:=by simpa using hi
  subst hik;have hw:wpOp P ops Q i (wpList P ops Q l) a w:=by unfold wpOp;simp only [h0];exact h
  exact wpOp_mono (fun a' w' h'=>⟨fun hd=>(by rw [hB2] at hd;cases hd),wpAnyD_of_seq l (i+1) _ a' w' (fun j=>by have:=hl (j+1);simpa [Nat.add_assoc,Nat.add_comm 1 j] using this) hB3 h'⟩) hw
theorem wpAnyD_tail {L:List Oper} (k:Nat) {fuel:Nat}{listed:Array Bool}{a:Act}{w:World} (hf:fuel=(L.drop k).length) (hB:seqLateB md L.toArray D fuel k listed=true) (h:wpList P L.toArray Q (L.drop k) a w):wpAnyD P md L.toArray Q S D fuel listed a w:=by
 subst hf;exact wpAnyD_of_seq (L.drop k) k listed a w (fun j=>by simp [List.getElem?_drop]) hB h
theorem wp_region_D (S:World→Prop) (D:Nat→Bool) {id:Nat}{a:Act}{w:World} (hm:P.follows .mixedOrders=true)
  (h:wpAnyD P .any ops Q S D ops.size (Array.replicate ops.size false) a w.drew):(Code.region id ops true).wp P Q a w:=
 wp_region_any hm (wpAny_of_D _ _ _ _ h)
theorem any_begin (n:Nat) {id:Nat}{a:Act}{w:World} (hm:P.follows .mixedOrders=true) (hn:ops.size=n)
  (h:wpAny P .any ops Q n (Array.replicate n false) a w.drew):(Code.region id ops true).wp P Q a w:=by
 subst hn;exact wp_region_any hm h
theorem any_take {i:Nat}{oi:Oper}{v:Value}{fuel:Nat}{listed:Array Bool}{a:Act}{w:World} (d:Option Tmp) (hi:ops[i]?=some oi) (hd:oi.dst=d)
  (hs:Region.noSelect ops=true) (hf:Region.free md ops listed i=true) (hr:(Region.ready md ops listed).contains i=true)
  (hQ:∀ c a w,Q (.panic c) (a.put d v) w→Q (.panic c) a w) (hw:Region.wanted oi (yielded ops a.tmps)=true) (hy:∀ w,(execOp a.eval oi).run P w= .ok (.value v) w)
  (h:wpAny P md ops Q fuel (listed.setIfInBounds i true) (a.put d v) w):wpAny P md ops Q (fuel+1) listed a w:=by
 subst hd;exact wpAny_take hi hs hf hr hQ (Or.inl ⟨hw,hy⟩) h
theorem late_begin (S:World→Prop) (D:Nat→Bool) {fuel:Nat}{listed:Array Bool}{a:Act}{w:World} (hS:S w) (h:S w→wpAnyD P md ops Q S D fuel listed a w):wpAny P md ops Q fuel listed a w:=wpAny_of_D _ _ _ _ (h hS)
theorem late_take {i:Nat}{oi:Oper}{v:Value}{fuel:Nat}{listed:Array Bool}{a:Act}{w:World} (d:Option Tmp) (hi:ops[i]?=some oi) (hd:oi.dst=d)
  (hs:Region.noSelect ops=true) (hf:Region.free md ops listed i=true) (hr:(Region.ready md ops listed).contains i=true) (hD:lateB md ops D i=true) (hn:noneLateB D listed=true)
  (hQ:∀ c a w,Q (.panic c) (a.put d v) w→Q (.panic c) a w) (hw:Region.wanted oi (yielded ops a.tmps)=true) (hy:∀ w,S w→(execOp a.eval oi).run P w= .ok (.value v) w) (hS:S w)
  (h:wpAnyD P md ops Q S D fuel (listed.setIfInBounds i true) (a.put d v) w):wpAnyD P md ops Q S D (fuel+1) listed a w:=by
 subst hd;exact wpAnyD_take hi hs hf hr hD hn hQ (Or.inl ⟨hw,hy⟩) hS h
def moveB (o:Oper):Bool:=match o.op with| .move _=>true| .assign _=>true|_=>false
theorem move_yields {o:Oper}{rest:List Oper}{a:Act}{w:World} (hm:moveB o=true) (h:wpList P ops Q (o::rest) a w):∃ v,Yields P ops o v a∧wpList P ops Q rest (a.put o.dst v) w:=by
 have key:∃ x,∀ w,(execOp a.eval o).run P w= .ok (.value (a.eval x)) w∧¬o.asks P a w:=by
  unfold moveB at hm;split at hm
  · rename_i x hx
    refine⟨x,fun w=>?_⟩;have e:execOp a.eval o=pure (.value (a.eval x)):=by unfold execOp;rw [hx]
    refine⟨by rw [e];rfl,?_⟩;unfold Oper.asks;rw [e];intro hc;have h1:=hc.1;change noRoomEvent∈(#[]:Array _) at h1;simp at h1
  · rename_i x hx
    refine⟨x,fun w=>?_⟩;have e:execOp a.eval o=pure (.value (a.eval x)):=by unfold execOp;rw [hx]
    refine⟨by rw [e];rfl,?_⟩;unfold Oper.asks;rw [e];intro hc;have h1:=hc.1;change noRoomEvent∈(#[]:Array _) at h1;simp at h1
  · cases hm
 obtain⟨x,hx⟩:=key;simp only [wpList] at h;split at h
 · rename_i hw
   refine⟨a.eval x,Or.inl ⟨hw,fun w=>(hx w).1⟩,?_⟩;rcases h with h|h
   · unfold Oper.wp at h;rw [(hx w).1] at h;exact h
   · exact absurd h.1 (hx w).2
 · rename_i hw
   exact⟨undef,Or.inr ⟨by simpa using hw,rfl⟩,h⟩
def lexB (md:Region.Mode) (ops:Array Oper):Nat→Nat→Array Bool→Bool
 |0,_,listed=>(Region.ready md ops listed).isEmpty
 |g+1,k,listed=>(decide (Region.ready md ops listed= [k]) || ((Region.ready md ops listed).contains k && (match ops[k]? with|some o=>moveB o|none=>false) && Region.free md ops listed k)) && lexB md ops g (k+1) (listed.setIfInBounds k true)
theorem wpAny_of_lex (hs:Region.noSelect ops=true) (hQ:∀ c a d v w,Q (.panic c) (Act.put a d v) w→Q (.panic c) a w):∀ (l:List Oper) (k:Nat) (listed:Array Bool) (a:Act) (w:World),(∀ j,l[j]?=ops[k+j]?)→
  lexB md ops l.length k listed=true→wpList P ops Q l a w→wpAny P md ops Q l.length listed a w
 | [],_,_,_,_,_,hB,h=>⟨by simpa [lexB] using hB,h⟩
 |o::l,k,listed,a,w,hl,hB,h=>by
  have h0:ops[k]?=some o:=by simpa using (hl 0).symm
  simp only [List.length_cons,lexB,Bool.and_eq_true,Bool.or_eq_true,decide_eq_true_eq,h0] at hB;obtain⟨hB1,hB3⟩:=hB;have hl':∀ j,l[j]?=ops[k+1+j]?:=fun j=>by have:=hl (j+1);simpa [Nat.add_assoc,Nat.add_comm 1 j] using this
  rcases hB1 with hB1|⟨⟨hr,hmv⟩,hf⟩
  · refine⟨fun h1=>(by rw [hB1] at h1;cases h1),fun i hi=>?_⟩;rw [hB1] at hi;have hik:i=k:=by simpa using hi
    subst hik;have hw:wpOp P ops Q i (wpList P ops Q l) a w:=by unfold wpOp;simp only [h0];exact h
    exact wpOp_mono (fun a' w' h'=>wpAny_of_lex hs hQ l (i+1) _ a' w' hl' hB3 h') hw
  · obtain⟨v,hy,h2⟩:=move_yields hmv h;exact wpAny_take h0 hs hf hr (fun c a w=>hQ c a o.dst v w) hy (wpAny_of_lex hs hQ l (k+1) _ _ w hl' hB3 h2)
def restLateB (ops:Array Oper) (D:Nat→Bool) (listed:Array Bool):Bool:=(List.range ops.size).all fun j=>D j || listed.getD j false
theorem wpAnyD_of_any:∀ (fuel:Nat) (listed:Array Bool) (a:Act) (w:World),restLateB ops D listed=true→wpAny P md ops Q fuel listed a w→wpAnyD P md ops Q S D fuel listed a w
 |0,_,_,_,_,h=>h
 |fuel+1,listed,_,_,hB,h=>by
  refine⟨h.1,fun i hi=>?_⟩;obtain⟨hun,oi,hoi,_⟩:=mem_ready.1 hi;have hlt:i<ops.size:=(Array.getElem?_eq_some_iff.1 hoi).1;have hDi:D i=true:=by
   have:=List.all_eq_true.1 hB i (List.mem_range.2 hlt);rw [getD_both hun,Bool.or_false] at this;exact this
  have hB':restLateB ops D (listed.setIfInBounds i true)=true:=by
   refine List.all_eq_true.2 fun j hj=>?_
   have:=List.all_eq_true.1 hB j hj;rcases Bool.or_eq_true _ _ ▸ this with h1|h1
   · simp [h1]
   · rw [getD_set_true h1];simp
  exact wpOp_mono (fun a' w' h'=>⟨fun hd=>(by rw [hDi] at hd;cases hd),wpAnyD_of_any fuel _ a' w' hB' h'⟩) (h.2 i hi)
theorem late_tail {L:List Oper} (k:Nat) {fuel:Nat}{listed:Array Bool}{a:Act}{w:World} (hs:Region.noSelect L.toArray=true) (hQ:∀ c a d v w,Q (.panic c) (Act.put a d v) w→Q (.panic c) a w) (hf:(L.drop k).length=fuel) (hB:lexB md L.toArray fuel k listed=true) (hR:restLateB L.toArray D listed=true)
  (h:wpList P L.toArray Q (L.drop k) a w):wpAnyD P md L.toArray Q S D fuel listed a w:=by
 subst hf;exact wpAnyD_of_any _ _ _ _ hR (wpAny_of_lex hs hQ (L.drop k) k listed a w (fun j=>by simp [List.getElem?_drop]) hB h)
theorem any_tail {L:List Oper} (k:Nat) {fuel:Nat}{listed:Array Bool}{a:Act}{w:World} (hs:Region.noSelect L.toArray=true) (hQ:∀ c a d v w,Q (.panic c) (Act.put a d v) w→Q (.panic c) a w) (hf:(L.drop k).length=fuel) (hB:lexB md L.toArray fuel k listed=true)
  (h:wpList P L.toArray Q (L.drop k) a w):wpAny P md L.toArray Q fuel listed a w:=by
 subst hf;exact wpAny_of_lex hs hQ (L.drop k) k listed a w (fun j=>by simp [List.getElem?_drop]) hB h
theorem late_done {listed:Array Bool}{a:Act}{w:World} (hr:Region.ready md ops listed= []) (h:Q .normal a w):∀ fuel,wpAnyD P md ops Q S D fuel listed a w
 |0=>⟨hr,h⟩
 |_+1=>⟨fun _=>h,by rw [hr];simp⟩
theorem late_over {fuel:Nat}{listed:Array Bool}{a:Act}{w:World} (hR:restLateB ops D listed=true) (h:wpAny P md ops Q fuel listed a w):wpAnyD P md ops Q S D fuel listed a w:=wpAnyD_of_any _ _ _ _ hR h
theorem any_one {i:Nat}{o:Oper}{fuel:Nat}{listed:Array Bool}{a:Act}{w:World} (hr:Region.ready md ops listed= [i]) (ho:ops[i]?=some o)
  (h:∀ K':Act→World→Prop,(∀ a w,wpAny P md ops Q fuel (listed.setIfInBounds i true) a w→K' a w)→if Region.wanted o (yielded ops a.tmps)=true then Oper.wp P o a w K' Q else K' (a.put o.dst undef) w):
  wpAny P md ops Q (fuel+1) listed a w:=by
 refine⟨fun h0=>(by rw [hr] at h0;cases h0),fun j hj=>?_⟩;rw [hr] at hj;obtain rfl:j=i:=by simpa using hj
 exact wpOp_step ho h
theorem any_done {listed:Array Bool}{a:Act}{w:World} (hr:Region.ready md ops listed= []) (h:Q .normal a w):∀ fuel,wpAny P md ops Q fuel listed a w
 |0=>⟨hr,h⟩
 |_+1=>⟨fun _=>h,by rw [hr];simp⟩
theorem ltk {i:Nat}{oi:Oper}{v:Value}{fuel:Nat}{listed:Array Bool}{a:Act}{w:World} (d:Option Tmp) (hi:ops[i]?=some oi) (hd:oi.dst=d) (hy:∀ w,S w→(execOp a.eval oi).run P w= .ok (.value v) w) (hS:S w) (h:wpAnyD P md ops Q S D fuel (listed.setIfInBounds i true) (a.put d v) w)
 (hs:Region.noSelect ops=true:=by kernel_rfl) (hf:Region.free md ops listed i=true:=by kernel_rfl) (hr:(Region.ready md ops listed).contains i=true:=by kernel_rfl) (hD:lateB md ops D i=true:=by kernel_rfl) (hn:noneLateB D listed=true:=by kernel_rfl) (hQ:∀ c a w,Q (.panic c) (a.put d v) w→Q (.panic c) a w:=by exact fun _ _ _ h=>h) (hw:Region.wanted oi (yielded ops a.tmps)=true:=by rfl):wpAnyD P md ops Q S D (fuel+1) listed a w:=late_take d hi hd hs hf hr hD hn hQ hw hy hS h
theorem atk {i:Nat}{oi:Oper}{v:Value}{fuel:Nat}{listed:Array Bool}{a:Act}{w:World} (d:Option Tmp) (hi:ops[i]?=some oi) (hd:oi.dst=d) (hy:∀ w,(execOp a.eval oi).run P w= .ok (.value v) w) (h:wpAny P md ops Q fuel (listed.setIfInBounds i true) (a.put d v) w)
 (hs:Region.noSelect ops=true:=by kernel_rfl) (hf:Region.free md ops listed i=true:=by kernel_rfl) (hr:(Region.ready md ops listed).contains i=true:=by kernel_rfl) (hQ:∀ c a w,Q (.panic c) (a.put d v) w→Q (.panic c) a w:=by exact fun _ _ _ h=>h) (hw:Region.wanted oi (yielded ops a.tmps)=true:=by rfl):wpAny P md ops Q (fuel+1) listed a w:=any_take d hi hd hs hf hr hQ hw hy h
end
theorem sA {α:Type} (l:List α) (i:Nat) (a:α):l.toArray.setIfInBounds i a=(l.set i a).toArray:=List.setIfInBounds_toArray _ _ _
theorem sB {α:Type} (x:α) (xs:List α) (a:α):(x::xs).set 0 a=a::xs:=rfl
theorem sC {α:Type} (x:α) (xs:List α) (n:Nat) (a:α):(x::xs).set (n+1) a=x::xs.set n a:=rfl
end Go.Proofs.YtlmlljlappjjjaaGreatDoor
