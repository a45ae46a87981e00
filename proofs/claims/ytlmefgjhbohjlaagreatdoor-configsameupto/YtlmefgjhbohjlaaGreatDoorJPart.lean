/- A value that is being put together: its parts and its names. -/
import Derived.Test.YtlmefgjhbohjlaaGreatDoorJName
namespace Go.Proofs.YtlmefgjhbohjlaaGreatDoor
open Go.RowKit
def Rows (w:World) (F:Nat→Prop) (ls:List JV) (xs:List Value):Prop:=xs.length=7*ls.length∧∀ i t,ls[i]?=some t→ValIs w F t ((xs.drop (7*i)).take 7)
structure VObj (w:World) (v base:Nat) (k:Int) (ls:List JV) (ns:List B) (lv nv:Value) (xs:List Value) (F:Nat→Prop):Prop where
 row:w.heap[v]?=some (.cells #[.int .i64 k,.bool false,.string ⟨#[]⟩,.int .i64 0,.bool false,lv,nv] 57 (0,0))
 list:w.ownsRow base 57 7 lv ls.length xs
 names:w.ownsRow base 9 1 nv ns.length (ns.map fun t=>.string (str t))
 vals:Rows w F ls xs
 foot:∀ j,F j→base≤j∧j<w.heap.size∧lv.ownBlock≠some j∧nv.ownBlock≠some j
 lt:v<base
 le:base≤w.heap.size
theorem VObj.keep {w w':World}{v base:Nat}{k:Int}{ls:List JV}{ns:List B}{lv nv:Value}{xs:List Value}{F:Nat→Prop}{o:Option Nat} (h:VObj w v base k ls ns lv nv xs F) (hg:w.grownBy w' o)
 (hv:some v≠o) (hl:lv.ownBlock=none∨lv.ownBlock≠o) (hn:nv.ownBlock=none∨nv.ownBlock≠o) (hf:∀ j,F j→some j≠o):VObj w' v base k ls ns lv nv xs F:=by
 have hvlt:v<w.heap.size:=Nat.lt_of_lt_of_le h.lt h.le;refine⟨(hg.block v hvlt hv).trans h.row,h.list.kept hg hl,h.names.kept hg hn,⟨h.vals.1,fun i t hi=>?_⟩,fun j hj=>?_,h.lt,Nat.le_trans h.le hg.size⟩
 · exact ValIs.keep (fun j hj=>hg.block j (h.foot j hj).2.1 (hf j hj)) (fun _ x=>x) t _ (h.vals.2 i t hi)
 · obtain⟨a,b,c,d⟩:=h.foot j hj;exact⟨a,Nat.lt_of_lt_of_le b hg.size,c,d⟩
theorem VObj.turn {w w':World}{v base b:Nat}{k:Int}{ls:List JV}{ns:List B}{lv nv:Value}{xs:List Value}{F:Nat→Prop} (h:VObj w v base k ls ns lv nv xs F) (ht:Turn b w w') (hb:b<base) (hne:b≠v):VObj w' v base k ls ns lv nv xs F:=by
 have key:∀ (u:Value) (n m:Nat) (e:TypeId) (ys:List Value),w.ownsRow base e m u n ys→u.ownBlock=none∨u.ownBlock≠some b:=by
  intro u n m e ys hu;rcases ho:u.ownBlock with _|g
  · exact .inl rfl
  · right;rcases hu.2 with ⟨rfl,_⟩|⟨g',cap,cur,rfl,hg',_⟩
    · simp [Value.ownBlock] at ho
    · simp [Value.ownBlock] at ho;subst ho;simp;omega
 exact h.keep ht.toGrown (by simpa using hne.symm) (key _ _ _ _ _ h.list) (key _ _ _ _ _ h.names) (fun j hj=>by have:=(h.foot j hj).1;simp;omega)
def zero7:List Value:=[.int .i64 0,.bool false,.string ⟨#[]⟩,.int .i64 0,.bool false,.slice none 0 0,.slice none 0 0]
theorem set7 {L xs r:List Value} (hL:L=xs++(zero7++r)) (c0 c1 c2 c3 c4 c5 c6:Value):
 ((((((L.set xs.length c0).set (xs.length+1) c1).set (xs.length+2) c2).set (xs.length+3) c3).set (xs.length+4) c4).set (xs.length+5) c5).set (xs.length+6) c6=xs++([c0,c1,c2,c3,c4,c5,c6]++r):=by
 subst hL;simp [zero7,List.set_append_right]
def put7 (cur:Array Value) (o:Nat) (c0 c1 c2 c3 c4 c5 c6:Value):Array Value:=
 ((((((cur.setIfInBounds o c0).setIfInBounds (o+1) c1).setIfInBounds (o+2) c2).setIfInBounds (o+3) c3).setIfInBounds (o+4) c4).setIfInBounds (o+5) c5).setIfInBounds (o+6) c6
theorem put7_size (cur:Array Value) (o:Nat) (c0 c1 c2 c3 c4 c5 c6:Value):(put7 cur o c0 c1 c2 c3 c4 c5 c6).size=cur.size:=by simp [put7]
theorem put7_take {cur:Array Value}{n:Nat}{xs:List Value} (hx:xs.length=n*7) (h:cur.toList.take ((n+1)*7)=xs++zero7) (c0 c1 c2 c3 c4 c5 c6:Value):
 (put7 cur (n*7) c0 c1 c2 c3 c4 c5 c6).toList.take ((n+1)*7)=xs++ [c0,c1,c2,c3,c4,c5,c6]:=by
 have hL:cur.toList=xs++(zero7++cur.toList.drop ((n+1)*7)):=by
  rw [←List.append_assoc,←h,List.take_append_drop]
 have:=set7 hL c0 c1 c2 c3 c4 c5 c6;unfold put7;simp only [Array.toList_setIfInBounds];rw [←hx,this,←List.append_assoc];apply List.take_left';simp [hx];omega
structure Put (U Wf:World) (g v:Nat) (cur':Array Value) (kd:Int) (lv' nv:Value):Prop where
 hv:Wf.heap[v]?=some (.cells #[.int .i64 kd,.bool false,.string ⟨#[]⟩,.int .i64 0,.bool false,lv',nv] 57 (0,0))
 hg:Wf.heap[g]?=some (.cells cur' 57 (0,0))
 other:∀ k,k≠v→k≠g→Wf.heap[k]?=U.heap[k]?
 size:Wf.heap.size=U.heap.size
 os:Wf.os=U.os
 tape:Wf.tape=U.tape
 output:Wf.output=U.output
theorem os_set (w:World) (a:Addr) (c:Value):(w.setCell a c).os=w.os:=rfl
theorem tape_set (w:World) (a:Addr) (c:Value):(w.setCell a c).tape=w.tape:=rfl
theorem output_set (w:World) (a:Addr) (c:Value):(w.setCell a c).output=w.output:=rfl
theorem size_set_j (w:World) (a:Addr) (c:Value):(w.setCell a c).heap.size=w.heap.size:=by simp [World.setCell]
theorem heap7 {U:World}{g o:Nat}{cur:Array Value}{T:TypeId}{fr:Nat×Nat} (h:U.heap[g]?=some (.cells cur T fr)) (c0 c1 c2 c3 c4 c5 c6:Value):
 (((((((U.setCell ⟨g,o,none⟩ c0).setCell ⟨g,o+1,none⟩ c1).setCell ⟨g,o+2,none⟩ c2).setCell ⟨g,o+3,none⟩ c3).setCell ⟨g,o+4,none⟩ c4).setCell ⟨g,o+5,none⟩ c5).setCell ⟨g,o+6,none⟩ c6).heap[g]?=some (.cells (put7 cur o c0 c1 c2 c3 c4 c5 c6) T fr):=by
 simp [World.setCell,Array.getElem?_modify,h,put7]
theorem other7 {U:World}{g o k:Nat} (hk:k≠g) (c0 c1 c2 c3 c4 c5 c6:Value):(((((((U.setCell ⟨g,o,none⟩ c0).setCell ⟨g,o+1,none⟩ c1).setCell ⟨g,o+2,none⟩ c2).setCell ⟨g,o+3,none⟩ c3).setCell ⟨g,o+4,none⟩ c4).setCell ⟨g,o+5,none⟩ c5).setCell ⟨g,o+6,none⟩ c6).heap[k]?=U.heap[k]?:=by
 iterate 7 rw [Below.heap_setCell _ _ _ _ (by exact hk)]
theorem heap5 {U:World}{v:Nat}{a0 a1 a2 a3 a4 a5 a6:Value}{T:TypeId}{fr:Nat×Nat} (h:U.heap[v]?=some (.cells #[a0,a1,a2,a3,a4,a5,a6] T fr)) (c:Value):(U.setCell ⟨v,5,none⟩ c).heap[v]?=some (.cells #[a0,a1,a2,a3,a4,c,a6] T fr):=by
 simp [World.setCell,Array.getElem?_modify,h]
theorem put_A {U:World}{g v o:Nat}{cur:Array Value}{kd:Int}{lv lv' nv:Value} (hg:U.heap[g]?=some (.cells cur 57 (0,0))) (hv:U.heap[v]?=some (.cells #[.int .i64 kd,.bool false,.string ⟨#[]⟩,.int .i64 0,.bool false,lv,nv] 57 (0,0))) (hne:v≠g) (c0 c1 c2 c3 c4 c5 c6:Value):
 Put U ((((((((U.setCell ⟨g,o,none⟩ c0).setCell ⟨g,o+1,none⟩ c1).setCell ⟨g,o+2,none⟩ c2).setCell ⟨g,o+3,none⟩ c3).setCell ⟨g,o+4,none⟩ c4).setCell ⟨g,o+5,none⟩ c5).setCell ⟨g,o+6,none⟩ c6).setCell ⟨v,5,none⟩ lv') g v (put7 cur o c0 c1 c2 c3 c4 c5 c6) kd lv' nv:=by
 refine⟨heap5 ((other7 hne _ _ _ _ _ _ _).trans hv) _,?_,fun k h1 h2=>?_,by simp only [size_set_j],by simp only [os_set],by simp only [tape_set],by simp only [output_set]⟩
 · rw [Below.heap_setCell _ _ _ _ (by exact hne.symm)];exact heap7 hg _ _ _ _ _ _ _
 · rw [Below.heap_setCell _ _ _ _ (by exact h1)];exact other7 h2 _ _ _ _ _ _ _
theorem put_B {U:World}{g v o:Nat}{cur:Array Value}{kd:Int}{lv lv' nv:Value} (hg:U.heap[g]?=some (.cells cur 57 (0,0))) (hv:U.heap[v]?=some (.cells #[.int .i64 kd,.bool false,.string ⟨#[]⟩,.int .i64 0,.bool false,lv,nv] 57 (0,0))) (hne:v≠g) (c0 c1 c2 c3 c4 c5 c6:Value):
 Put U ((((((((U.setCell ⟨v,5,none⟩ lv').setCell ⟨g,o,none⟩ c0).setCell ⟨g,o+1,none⟩ c1).setCell ⟨g,o+2,none⟩ c2).setCell ⟨g,o+3,none⟩ c3).setCell ⟨g,o+4,none⟩ c4).setCell ⟨g,o+5,none⟩ c5).setCell ⟨g,o+6,none⟩ c6) g v (put7 cur o c0 c1 c2 c3 c4 c5 c6) kd lv' nv:=by
 refine⟨(other7 hne _ _ _ _ _ _ _).trans (heap5 hv _),heap7 ((Below.heap_setCell _ _ _ _ (by exact hne.symm)).trans hg) _ _ _ _ _ _ _,fun k h1 h2=>?_,by simp only [size_set_j],by simp only [os_set],by simp only [tape_set],by simp only [output_set]⟩;rw [other7 h2];exact Below.heap_setCell _ _ _ _ (by exact h1)
theorem VObj.push {V U Wf:World}{v base g n cap:Nat}{kd:Int}{ls:List JV}{ns:List B}{p5:Option Addr}{c5:Nat}{nv:Value}{xs cs:List Value}{F F1:Nat→Prop}{t:JV}{cur cur':Array Value}
 (hO:VObj V v base kd ls ns (.slice p5 n c5) nv xs F) (hn:ls.length=n) (hg:V.grownBy U (Value.slice p5 n c5).ownBlock) (hloc:some g=(Value.slice p5 n c5).ownBlock∨g=V.heap.size)
 (hbg:base≤g) (hcap:n+1≤cap) (hmax:cap≤maxLen) (hsz:cur.size=cap*7) (hc':cur'.size=cur.size) (htake:cur'.toList.take ((n+1)*7)=xs++cs) (hcs:cs.length=7)
 (ht:ValIs V F1 t cs) (hF1:∀ k,F1 k→base≤k∧k<V.heap.size∧(Value.slice p5 n c5).ownBlock≠some k∧nv.ownBlock≠some k) (hP:Put U Wf g v cur' kd (.slice (some ⟨g,0,none⟩) (n+1) cap) nv):
 VObj Wf v base kd (ls++ [t]) ns (.slice (some ⟨g,0,none⟩) (n+1) cap) nv (xs++cs) (fun k=>F k∨F1 k):=by
 have hxs:xs.length=n*7:=by rw [hO.list.1,hn]
 have hlt:=hO.lt;have foot:∀ j,(F j∨F1 j)→base≤j∧j<V.heap.size∧(Value.slice p5 n c5).ownBlock≠some j∧nv.ownBlock≠some j:=by
  rintro j (hj|hj)
  · exact hO.foot j hj
  · exact hF1 j hj
 have key:∀ j,base≤j→j<V.heap.size→(Value.slice p5 n c5).ownBlock≠some j→j≠g∧Wf.heap[j]?=V.heap[j]?:=by
  intro j h1 h2 h3;have hjg:j≠g:=by
   rintro rfl;rcases hloc with h|h
   · exact h3 h.symm
   · omega
  exact⟨hjg,(hP.other j (by omega) hjg).trans (hg.block j h2 (fun e=>h3 e.symm))⟩
 refine⟨hP.hv,?_,?_,⟨by simp [hxs,hcs,hn];omega,?_⟩,?_,hlt,?_⟩
 · rw [List.length_append,hn];refine⟨by simp [hxs,hcs];omega,.inr ⟨g,cap,cur',rfl,hbg,hP.hg,hcap,hmax,by rw [hc',hsz],htake⟩⟩
 · refine⟨hO.names.1,?_⟩;rcases hO.names.2 with ⟨h1,h2⟩|⟨g2,cap2,cur2,rfl,h1,h2,h3,h4,h5,h6⟩
   · exact .inl ⟨h1,h2⟩
   · right;refine⟨g2,cap2,cur2,rfl,h1,?_,h3,h4,h5,h6⟩;refine(key g2 h1 (lt_of_heap h2) ?_).2.trans h2;intro e;rcases hO.list.2 with ⟨h7,_⟩|⟨g3,cap3,cur3,h7,_,h8,_⟩
     · rw [h7] at e;simp [Value.ownBlock] at e
     · rw [h7] at e;simp [Value.ownBlock] at e;subst e;rw [h8] at h2;simp at h2
 · intro i x hi;have keep:=fun (y:JV) (zs:List Value) (G:Nat→Prop) (hG:∀ k,G k→F k∨F1 k) (hy:ValIs V G y zs)=>ValIs.keep (w':=Wf) (F':=fun k=>F k∨F1 k) (fun j hj=>(key j (foot j (hG j hj)).1 (foot j (hG j hj)).2.1 (foot j (hG j hj)).2.2.1).2) hG y zs hy
   rcases Nat.lt_or_ge i ls.length with hlt2|hge
   · rw [List.getElem?_append_left hlt2] at hi;have h1:=hO.vals.2 i x hi;have e:((xs++cs).drop (7*i)).take 7=(xs.drop (7*i)).take 7:=by
      rw [List.drop_append_of_le_length (by omega),List.take_append_of_le_length (by simp;omega)]
     rw [e];exact keep x _ F (fun k hk=>.inl hk) h1
   · have hi2:i=ls.length:=by
      have:=(List.getElem?_eq_some_iff.1 hi).1;simp at this;omega
     subst hi2;simp at hi;subst hi;have e:((xs++cs).drop (7*ls.length)).take 7=cs:=by
      rw [show 7*ls.length=xs.length by omega,List.drop_left,List.take_of_length_le (by omega)]
     rw [e];exact keep t cs F1 (fun k hk=>.inr hk) ht
 · intro j hj;obtain⟨h1,h2,h3,h4⟩:=foot j hj;refine⟨h1,?_,?_,h4⟩
   · rw [hP.size];exact Nat.lt_of_lt_of_le h2 hg.size
   · intro e;simp [Value.ownBlock] at e;exact(key j h1 h2 h3).1 e.symm
 · rw [hP.size];exact Nat.le_trans hO.le hg.size
def ToldV (r:Res JV) (b:Nat) (s:ByteArray) (d:Nat) (w:World) (e:Ending) (w':World):Prop:=
 match r with
 | .ok t u=>∃ cs,e= .returned (.tuple #[.agg cs.toArray,.nilIface])∧ValIs w' (fun k=>w.heap.size≤k∧k<w'.heap.size) t cs∧Rd w' b s u d∧Turn b w w'
 | .err k u=>∃ t cs d',e= .returned (.tuple #[.agg cs.toArray,errV_j k])∧ValIs w' (fun k=>w.heap.size≤k∧k<w'.heap.size) t cs∧Rd w' b s u d'∧Turn b w w'
def ValOk (inner:B→Res JV) (b:Nat) (s:ByteArray) (d:Nat):Prop:=
 ∀ (w:World) (l:B),Rd w b s l d→Env w→Calls Tryz.prog 121 #[.pointer (some ⟨b,0,none⟩)] w fun e w'=>ToldV (inner l) b s d w e w'
theorem any_two {P:Program}{ops:Array Oper}{Q:Exit→Act→World→Prop}{md:Region.Mode}{i j:Nat}{oi oj:Oper}{fuel:Nat}{listed:Array Bool}{a:Act}{w:World} (hr:Region.ready md ops listed= [i,j]) (hoi:ops[i]?=some oi) (hoj:ops[j]?=some oj)
 (h1:∀ K':Act→World→Prop,(∀ a w,wpAny P md ops Q fuel (listed.setIfInBounds i true) a w→K' a w)→if Region.wanted oi (yielded ops a.tmps)=true then Oper.wp P oi a w K' Q else K' (a.put oi.dst undef) w)
 (h2:∀ K':Act→World→Prop,(∀ a w,wpAny P md ops Q fuel (listed.setIfInBounds j true) a w→K' a w)→if Region.wanted oj (yielded ops a.tmps)=true then Oper.wp P oj a w K' Q else K' (a.put oj.dst undef) w):
 wpAny P md ops Q (fuel+1) listed a w:=by
 refine⟨fun h0=>(by rw [hr] at h0;cases h0),fun k hk=>?_⟩;rw [hr] at hk;simp only [List.mem_cons,List.not_mem_nil,or_false] at hk;rcases hk with rfl|rfl
 · exact wpOp_step hoi h1
 · exact wpOp_step hoj h2
def RdP (w:World) (v g:Nat) (lv:Value) (c0 c1 c2 c3 c4 c5 c6:Value):Prop:=w.cell? ⟨v,5,none⟩=some lv∧Seven_j w g c0 c1 c2 c3 c4 c5 c6
structure Fr (base b v:Nat) (w w':World):Prop where
 os:w'.os=w.os
 tape:w'.tape=w.tape
 output:w'.output=w.output
 size:w.heap.size≤w'.heap.size
 block:∀ k,k<base→k≠b→k≠v→w'.heap[k]?=w.heap[k]?
theorem Turn.fr {base b v:Nat}{w w':World} (h:Turn b w w') (hb:base≤w.heap.size):Fr base b v w w':=⟨h.os,h.tape,h.output,h.size,fun k hk h1 _=>h.block k (Nat.lt_of_lt_of_le hk hb) h1⟩
def ToldP (r:Res JV) (b:Nat) (s:ByteArray) (d:Nat) (v base:Nat) (kd:Int) (ls:List JV) (ns:List B) (w:World) (e:Ending) (w':World):Prop:=
 match r with
 | .ok t u=>e= .returned .nilIface∧Rd w' b s u d∧Fr base b v w w'∧∃ lv nv xs F,VObj w' v base kd (ls++ [t]) ns lv nv xs F
 | .err k u=>e= .returned (errV_j k)∧(∃ d',Rd w' b s u d')∧Fr base b v w w'∧∃ lv nv xs F,VObj w' v base kd ls ns lv nv xs F
theorem own_lt {w:World}{base n m:Nat}{e:TypeId}{u:Value}{ys:List Value} (h:w.ownsRow base e m u n ys) {k:Nat} (hk:u.ownBlock=some k):k<w.heap.size:=by
 rcases h.2 with ⟨rfl,_⟩|⟨g,cap,cur,rfl,_,h2,_⟩
 · simp [Value.ownBlock] at hk
 · simp [Value.ownBlock] at hk;subst hk;exact lt_of_heap h2
theorem own_ge_j {w:World}{base n m:Nat}{e:TypeId}{u:Value}{ys:List Value} (h:w.ownsRow base e m u n ys) {k:Nat} (hk:u.ownBlock=some k):base≤k:=by
 rcases h.2 with ⟨rfl,_⟩|⟨g,cap,cur,rfl,h1,_⟩
 · simp [Value.ownBlock] at hk
 · simp [Value.ownBlock] at hk;subst hk;exact h1
theorem own_ne_j {w:World}{base n m v:Nat}{e:TypeId}{u:Value}{ys:List Value} (h:w.ownsRow base e m u n ys) (hv:v<base) (hk:u.ownBlock=some v):False:=by
 have:=own_ge_j h hk;omega
theorem fr_end {w V U Wf:World}{b v base g:Nat}{kd:Int}{ls:List JV}{ns:List B}{lv lv' nv:Value}{xs:List Value}{F:Nat→Prop}{cur':Array Value} (hT:Turn b w V) (hb:base≤w.heap.size) (hO:VObj V v base kd ls ns lv nv xs F) (hg:V.grownBy U lv.ownBlock) (hP:Put U Wf g v cur' kd lv' nv) (hbg:base≤g):
 Fr base b v w Wf∧∀ k,k<base→k≠v→Wf.heap[k]?=V.heap[k]?:=by
 have key:∀ k,k<base→k≠v→Wf.heap[k]?=V.heap[k]?:=fun k hk hv=>
  (hP.other k hv (by omega)).trans (hg.block k (Nat.lt_of_lt_of_le hk hO.le) (fun e=>own_ne_j hO.list hk e.symm))
 refine⟨⟨?_,?_,?_,?_,fun k hk h1 h2=>(key k hk h2).trans (hT.block k (by omega) h1)⟩,key⟩
 · rw [hP.os,hg.os,hT.os]
 · rw [hP.tape,hg.tape,hT.tape]
 · rw [hP.output,hg.output,hT.output]
 · rw [hP.size];exact Nat.le_trans hT.size hg.size
theorem RdP.below {w w':World}{v g:Nat}{lv c0 c1 c2 c3 c4 c5 c6:Value} (h:RdP w v g lv c0 c1 c2 c3 c4 c5 c6) (hb:Below w.heap.size w w'):RdP w' v g lv c0 c1 c2 c3 c4 c5 c6:=by
 have k1:=lt_of_cell h.1;have k2:=lt_of_cell h.2.a0;refine⟨by rw [hb.cell (by exact k1)];exact h.1,?_⟩;exact⟨by rw [hb.cell (by exact k2)];exact h.2.a0,by rw [hb.cell (by exact k2)];exact h.2.a1,by rw [hb.cell (by exact k2)];exact h.2.a2,by rw [hb.cell (by exact k2)];exact h.2.a3,by rw [hb.cell (by exact k2)];exact h.2.a4,by rw [hb.cell (by exact k2)];exact h.2.a5,by rw [hb.cell (by exact k2)];exact h.2.a6,fun j=>by rw [hb.frozen (by exact k2)];exact h.2.fz j⟩
theorem zero7_one:∀ u∈zero7,u.oneCell'=true:=by
 intro u hu;simp only [zero7,List.mem_cons,List.not_mem_nil,or_false] at hu;rcases hu with rfl|rfl|rfl|rfl|rfl|rfl|rfl <;> rfl
theorem zero7_cells {w:World}{g:Nat}{T:TypeId} (h:w.heap[g]?=some (.cells #[.int .i64 0,.bool false,.string ⟨#[]⟩,.int .i64 0,.bool false,.slice none 0 0,.slice none 0 0] T (0,0))):∀ j u,zero7[j]?=some u→w.cell? ((⟨g,0,none⟩:Addr).add j)=some u:=by
 intro j u hj;have hadd:(⟨g,0,none⟩:Addr).add j=⟨g,j,none⟩:=by unfold Addr.add;split <;> simp_all
 rw [hadd];simp only [World.cell?,h];simpa [zero7] using hj
theorem infoV:(Tryz.prog.info? 57).map (fun i=>(i.zero,i.size,i.bytes))=some (some (.agg #[.int .i64 0,.bool false,.string ⟨#[]⟩,.int .i64 0,.bool false,.slice none 0 0,.slice none 0 0]),7,96):=by kernel_rfl
theorem row_cells {U:World}{base g n cap:Nat}{cur:Array Value}{ls:List JV}{xs:List Value} (hn:ls.length=n) (hx:xs.length=ls.length*7) (h:base≤g∧U.heap[g]?=some (.cells cur 57 (0,0))∧cur.size=cap*7∧cur.toList.take ((n+1)*7)=xs++zero7):
 U.cell? ⟨g,n*7,none⟩=some (.int .i64 0)∧U.cell? ⟨g,n*7+1,none⟩=some (.bool false)∧U.cell? ⟨g,n*7+2,none⟩=some (.string ⟨#[]⟩)∧U.cell? ⟨g,n*7+3,none⟩=some (.int .i64 0)∧U.cell? ⟨g,n*7+4,none⟩=some (.bool false)∧U.cell? ⟨g,n*7+5,none⟩=some (.slice none 0 0)∧U.cell? ⟨g,n*7+6,none⟩=some (.slice none 0 0)∧∀ j,U.frozen? ⟨g,j,none⟩=false:=by
 obtain⟨_,h2,_,h4⟩:=h;have key:∀ j u,j<7→zero7[j]?=some u→U.cell? ⟨g,n*7+j,none⟩=some u:=by
  intro j u hj hu;have e:(cur.toList.take ((n+1)*7))[n*7+j]?=some u:=by
   rw [h4,List.getElem?_append_right (by omega),show n*7+j-xs.length=j by omega];exact hu
  rw [List.getElem?_take,if_pos (by omega)] at e;simp only [World.cell?,h2];simpa using e
 exact⟨key 0 _ (by omega) rfl,key 1 _ (by omega) rfl,key 2 _ (by omega) rfl,key 3 _ (by omega) rfl,key 4 _ (by omega) rfl,key 5 _ (by omega) rfl,key 6 _ (by omega) rfl,fun j=>by simp [World.frozen?,h2]⟩
set_option maxRecDepth 20000 in
set_option maxHeartbeats 4000000 in
theorem part_any {inner:B→Res JV}{w:World}{b v base:Nat}{s:ByteArray}{l:B}{d:Nat}{kd:Int}{ls:List JV}{ns:List B}{lv nv:Value}{xs:List Value}{F:Nat→Prop} (hv:ValOk inner b s d) (h:Rd w b s l d) (hE:Env w) (hbase:b<base) (hne:b≠v) (hO:VObj w v base kd ls ns lv nv xs F) (hlen:ls.length≤2000000):
 Calls Tryz.prog 246 #[.pointer (some ⟨b,0,none⟩),.pointer (some ⟨v,0,none⟩)] w fun e w'=>ToldP (inner l) b s d v base kd ls ns w e w':=by
 have HV:=hid (hv w l h hE);have HO:=hid hO;have HNE:=hid (And.intro hbase hne);have HLE:=hid hO.le;clear h hE hO hv;cases hi:inner l with
 |err k u=>
  have HI:=hid hi;clear hi;go_enter Tryz.func246,Tryz.ntmps246;go_wp2_with (go_at_call 121;(with_reducible refine HV.out.mono ?_);intro e w1 hq;rw [HI.out] at hq;obtain⟨t,cs,d',rfl,z1,z2,z3⟩:=hq;have R1:=hid (And.intro z2 z3);obtain⟨q1,q2,q3,q4,q5,q6,q7,q8,q9,q10,q11,rfl⟩:=z1.form;clear z1 z2 z3);go_ret;refine⟨rfl,⟨d',R1.out.1.below (below_new _ _)⟩,(R1.out.2.alloc _).fr HLE.out,lv,nv,xs,F,HO.out.turn (R1.out.2.alloc _) HNE.out.1 HNE.out.2⟩
 |ok t u=>
  have HI:=hid hi;clear hi;obtain⟨n5,hn5⟩:∃ n,ls.length=n:=⟨_,rfl⟩;obtain⟨p5,c5,hlv⟩:∃ p5 c5,lv= .slice p5 n5 c5:=by
   rcases HO.out.list.2 with ⟨rfl,h0⟩|⟨g,cap,cur,rfl,_⟩
   · exact⟨none,0,by rw [←hn5,h0]⟩
   · exact⟨_,_,by rw [hn5]⟩
  subst hlv;have HN5:=hid hn5;rw [hn5] at hlen;clear hn5;go_enter Tryz.func246,Tryz.ntmps246;go_wp2_with (first|(go_at_call 121;(with_reducible refine HV.out.mono ?_);intro e w1 hq;rw [HI.out] at hq;obtain⟨cs,rfl,z1,z2,z3⟩:=hq;have R1:=hid (And.intro z2 z3);have Z1:=hid z1;obtain⟨q1,q2,q3,q4,q5,q6,q7,q8,q9,q10,q11,rfl⟩:=z1.form;clear z1 z2 z3)|fail);obtain⟨W,hW⟩:∃ W,W=w1.alloc (.cells #[.int .i64 q1,.bool q2,.string (str q3),.int .i64 q4,.bool q5,.slice q6 q7 q8,.slice q9 q10 q11] 57):=⟨_,rfl⟩;have HW:=hid (show W.heap[w1.heap.size]?=some (.cells #[.int .i64 q1,.bool q2,.string (str q3),.int .i64 q4,.bool q5,.slice q6 q7 q8,.slice q9 q10 q11] 57 (0,0))∧Below w1.heap.size w1 W∧w1.heap.size<W.heap.size from by rw [hW];exact⟨heap_alloc_new w1 _,below_new _ _,by simp⟩);rw [←hW];have HO1:=hid (HO.out.turn (R1.out.2.trans (Turn.of_below HW.out.2.1)) HNE.out.1 HNE.out.2);clear hW;refine wp_region_noPanic ?_;refine any_begin 13 (by kernel_rfl) (by kernel_rfl) ?_;have hSP:RdP W.drew v w1.heap.size (.slice p5 n5 c5) (.int .i64 q1) (.bool q2) (.string (str q3)) (.int .i64 q4) (.bool q5) (.slice q6 q7 q8) (.slice q9 q10 q11):=⟨(seven_j HO1.out.row).a5,seven_j HW.out.1⟩;refine late_begin (fun U=>RdP U v w1.heap.size (.slice p5 n5 c5) (.int .i64 q1) (.bool q2) (.string (str q3)) (.int .i64 q4) (.bool q5) (.slice q6 q7 q8) (.slice q9 q10 q11)) (fun j=>decide (7≤j)) hSP (fun hS=>?_);refine ltk (i:=0) (some 14) rfl rfl (v:= ?v0p) ?hy0p hS ?rest0p
  case hy0p=>intro w0 hSw;obtain⟨k0,k1⟩:=hSw;obtain⟨a0,a1,a2,a3,a4,a5,a6,az⟩:=k1;go_simp;try with_reducible rfl
  simp only [Act.put,sA,sB,sC];refine ltk (i:=1) (some 15) rfl rfl (v:= ?v1p) ?hy1p hS ?rest1p
  case hy1p=>intro w0 hSw;obtain⟨k0,k1⟩:=hSw;obtain⟨a0,a1,a2,a3,a4,a5,a6,az⟩:=k1;go_simp;try with_reducible rfl
  simp only [Act.put,sA,sB,sC];refine ltk (i:=2) (some 16) rfl rfl (v:= ?v2p) ?hy2p hS ?rest2p
  case hy2p=>intro w0 hSw;obtain⟨k0,k1⟩:=hSw;obtain⟨a0,a1,a2,a3,a4,a5,a6,az⟩:=k1;go_simp;try with_reducible rfl
  simp only [Act.put,sA,sB,sC];refine ltk (i:=3) (some 17) rfl rfl (v:= ?v3p) ?hy3p hS ?rest3p
  case hy3p=>intro w0 hSw;obtain⟨k0,k1⟩:=hSw;obtain⟨a0,a1,a2,a3,a4,a5,a6,az⟩:=k1;go_simp;try with_reducible rfl
  simp only [Act.put,sA,sB,sC];refine ltk (i:=4) (some 18) rfl rfl (v:= ?v4p) ?hy4p hS ?rest4p
  case hy4p=>intro w0 hSw;obtain⟨k0,k1⟩:=hSw;obtain⟨a0,a1,a2,a3,a4,a5,a6,az⟩:=k1;go_simp;try with_reducible rfl
  simp only [Act.put,sA,sB,sC];refine ltk (i:=5) (some 19) rfl rfl (v:= ?v5p) ?hy5p hS ?rest5p
  case hy5p=>intro w0 hSw;obtain⟨k0,k1⟩:=hSw;obtain⟨a0,a1,a2,a3,a4,a5,a6,az⟩:=k1;go_simp;try with_reducible rfl
  simp only [Act.put,sA,sB,sC];refine wpAnyD_one (i:=6) (by kernel_rfl) rfl (fun K hK=>?_);go_simp;have HQ:∀ ob,RdP (W.alloc ob).drew v w1.heap.size (.slice p5 n5 c5) (.int .i64 q1) (.bool q2) (.string (str q3)) (.int .i64 q4) (.bool q5) (.slice q6 q7 q8) (.slice q9 q10 q11):=fun ob=>hS.below (below_new _ ob)
  refine hK _ _ ⟨fun _=>HQ _,?_⟩;clear hK K;replace hS:=HQ (.cells #[.int .i64 0,.bool false,.string ⟨#[]⟩,.int .i64 0,.bool false,.slice none 0 0,.slice none 0 0] 57);clear HQ;obtain⟨V,hV⟩:∃ V,V=(W.alloc (.cells #[.int .i64 0,.bool false,.string ⟨#[]⟩,.int .i64 0,.bool false,.slice none 0 0,.slice none 0 0] 57)).drew:=⟨_,rfl⟩;rw [←hV] at hS ⊢;have HV1:=hid (show V.heap[W.heap.size]?=some (.cells #[.int .i64 0,.bool false,.string ⟨#[]⟩,.int .i64 0,.bool false,.slice none 0 0,.slice none 0 0] 57 (0,0))∧Below W.heap.size W V∧W.heap.size<V.heap.size from by rw [hV];exact⟨heap_alloc_new W _,((Below.refl _ _).alloc (Nat.le_refl _) _).drew,by simp⟩);clear hV;refine wpAnyD_one (i:=7) (by kernel_rfl) rfl (fun K hK=>?_);rw [if_pos (by rfl)];obtain⟨i0,hi0,hz0,hz1,hz2⟩:=info_parts infoV;have HO2:=hid (HO1.out.turn (Turn.of_below HV1.out.2.1) HNE.out.1 HNE.out.2);refine wp_append_own_at (.tmp 17) (.tmp 20) 55 rfl base 57 i0 _ 7 96 Tryz.underlying55 hi0 hz0 hz1 hz2 rfl (by decide) (.slice p5 n5 c5) n5 xs (by go_simp) (by have:=HO2.out.list;rw [HN5.out] at this;exact this) ⟨W.heap.size,0,none⟩ 1 1 zero7 (by go_simp) rfl (zero7_cells HV1.out.1) zero7_one (by unfold maxLen;omega) (by omega) HO2.out.le ?_;intro v' U hown hgrow hloc;have HU:=hid (And.intro hloc hgrow);rcases hown.2 with ⟨_,h0⟩|⟨g,cap,cur,rfl,g1,g2,g3,g4,g5,g6⟩
  · omega
  have HU2:=hid (And.intro g1 (And.intro g2 (And.intro g5 g6)));have HU3:=hid (And.intro g3 g4);clear hown hgrow hloc g1 g2 g3 g4 g5 g6;refine hK _ _ ⟨fun hd=>absurd hd (by decide),?_⟩;clear hK K hS hSP;refine late_over (by kernel_rfl) ?_;refine atk (i:=8) (some 22) rfl rfl (v:=.pointer (some ⟨g,n5*7,none⟩)) ?hy8p ?rest8p
  case hy8p=>intro w0;go_simp;intro hh;exact absurd hh (by omega)
  simp only [Act.put];refine atk (i:=10) (some 23) rfl rfl (v:= ?v10p) ?hy10p ?rest10p
  case hy10p=>intro w0;go_simp;try with_reducible rfl
  simp only [Act.put];refine atk (i:=11) (some 24) rfl rfl (v:= ?v11p) ?hy11p ?rest11p
  case hy11p=>intro w0;go_simp;try with_reducible rfl
  simp only [Act.put,sA];have HX:=hid (row_cells HN5.out HO.out.list.1 HU2.out);have HVV:=hid (show U.heap[v]?=some (.cells #[.int .i64 kd,.bool false,.string ⟨#[]⟩,.int .i64 0,.bool false,.slice p5 n5 c5,nv] 57 (0,0)) from by
   rw [HU.out.2.block v (Nat.lt_of_lt_of_le HO2.out.lt HO2.out.le) (fun e=>own_ne_j HO2.out.list HO2.out.lt e.symm)];exact HO2.out.row)
  have y5:=(seven_j HVV.out).a5;have yz:=(seven_j HVV.out).fz 5;obtain⟨x0,x1,x2,x3,x4,x5,x6,xz⟩:=HX.out;have z0:=xz (n5*7);have z1:=xz (n5*7+1);have z2:=xz (n5*7+2);have z3:=xz (n5*7+3);have z4:=xz (n5*7+4);have z5:=xz (n5*7+5);have z6:=xz (n5*7+6);have hvg:¬v=g:=by have:=HU2.out.1;have:=HO.out.lt;omega
  have hgv:¬g=v:=fun e=>hvg e.symm
  clear xz;have HVG:=hid (show v≠g from hvg);refine any_two (i:=9) (j:=12) (by kernel_rfl) rfl rfl (fun K hK=>?_) (fun K hK=>?_)
  · go_simp;refine hK _ _ ?_;clear hK K;refine any_one (i:=12) (by kernel_rfl) rfl (fun K hK=>?_);go_simp;refine hK _ _ ?_;clear hK K;refine any_done (by kernel_rfl) ?_ _;refine NoPanic.normal ?_;clear x0 x1 x2 x3 x4 x5 x6 z0 z1 z2 z3 z4 z5 z6 y5 yz hvg hgv;have HPut:=hid (put_A (o:=n5*7) (lv':=(.slice (some ⟨g,0,none⟩) (n5+1) cap)) HU2.out.2.1 HVV.out HVG.out (.int .i64 q1) (.bool q2) (.string (str q3)) (.int .i64 q4) (.bool q5) (.slice q6 q7 q8) (.slice q9 q10 q11));go_wp2;go_ret;have hT:=R1.out.2.trans ((Turn.of_below (h:=b) HW.out.2.1).trans (Turn.of_below HV1.out.2.1));obtain⟨e1,e2⟩:=fr_end hT HLE.out HO2.out HU.out.2 HPut.out HU2.out.1;refine⟨rfl,(R1.out.1.below HW.out.2.1).below HV1.out.2.1 |>.of_heap (e2 b HNE.out.1 HNE.out.2),e1,_,_,_,_,VObj.push (t:=t) (F1:=fun k=>w.heap.size≤k∧k<w1.heap.size) HO2.out HN5.out HU.out.2 (HU.out.1.imp id (fun h=>by simpa [Value.ownBlock] using h)) HU2.out.1 HU3.out.1 HU3.out.2 HU2.out.2.2.1 (put7_size _ _ _ _ _ _ _ _ _) (put7_take (by rw [HO2.out.list.1,HN5.out]) HU2.out.2.2.2 _ _ _ _ _ _ _) rfl ?_ ?_ HPut.out⟩
    · exact ValIs.keep (fun k hk=>(HV1.out.2.1.block k (Nat.lt_trans hk.2 HW.out.2.2)).trans (HW.out.2.1.block k hk.2)) (fun _ h=>h) _ _ Z1.out
    · intro k hk;refine⟨Nat.le_trans HLE.out hk.1,Nat.lt_trans hk.2 (Nat.lt_trans HW.out.2.2 HV1.out.2.2),fun e=>?_,fun e=>?_⟩
      · have:=own_lt HO.out.list e;omega
      · have:=own_lt HO.out.names e;omega
  · go_simp;refine hK _ _ ?_;clear hK K;refine any_one (i:=9) (by kernel_rfl) rfl (fun K hK=>?_);go_simp;refine hK _ _ ?_;clear hK K;refine any_done (by kernel_rfl) ?_ _;refine NoPanic.normal ?_;clear x0 x1 x2 x3 x4 x5 x6 z0 z1 z2 z3 z4 z5 z6 y5 yz hvg hgv;have HPut:=hid (put_B (o:=n5*7) (lv':=(.slice (some ⟨g,0,none⟩) (n5+1) cap)) HU2.out.2.1 HVV.out HVG.out (.int .i64 q1) (.bool q2) (.string (str q3)) (.int .i64 q4) (.bool q5) (.slice q6 q7 q8) (.slice q9 q10 q11));go_wp2;go_ret;have hT:=R1.out.2.trans ((Turn.of_below (h:=b) HW.out.2.1).trans (Turn.of_below HV1.out.2.1));obtain⟨e1,e2⟩:=fr_end hT HLE.out HO2.out HU.out.2 HPut.out HU2.out.1;refine⟨rfl,(R1.out.1.below HW.out.2.1).below HV1.out.2.1 |>.of_heap (e2 b HNE.out.1 HNE.out.2),e1,_,_,_,_,VObj.push (t:=t) (F1:=fun k=>w.heap.size≤k∧k<w1.heap.size) HO2.out HN5.out HU.out.2 (HU.out.1.imp id (fun h=>by simpa [Value.ownBlock] using h)) HU2.out.1 HU3.out.1 HU3.out.2 HU2.out.2.2.1 (put7_size _ _ _ _ _ _ _ _ _) (put7_take (by rw [HO2.out.list.1,HN5.out]) HU2.out.2.2.2 _ _ _ _ _ _ _) rfl ?_ ?_ HPut.out⟩
    · exact ValIs.keep (fun k hk=>(HV1.out.2.1.block k (Nat.lt_trans hk.2 HW.out.2.2)).trans (HW.out.2.1.block k hk.2)) (fun _ h=>h) _ _ Z1.out
    · intro k hk;refine⟨Nat.le_trans HLE.out hk.1,Nat.lt_trans hk.2 (Nat.lt_trans HW.out.2.2 HV1.out.2.2),fun e=>?_,fun e=>?_⟩
      · have:=own_lt HO.out.list e;omega
      · have:=own_lt HO.out.names e;omega
end Go.Proofs.YtlmefgjhbohjlaaGreatDoor
