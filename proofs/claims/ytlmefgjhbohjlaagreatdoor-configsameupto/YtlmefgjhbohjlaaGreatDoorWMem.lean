/- A value is copied into memory of its own, with all its parts. -/
import Derived.Test.YtlmefgjhbohjlaaGreatDoorKClon
namespace Go.Proofs.YtlmefgjhbohjlaaGreatDoor
set_option maxRecDepth 20000
set_option maxHeartbeats 8000000
open Go.RowKit
structure Cp (w U:World) (c0 c1 c2 c3 c4 c5 c6:Value):Prop where
 x:U.heap[w.heap.size]?=some (.cells #[c0,c1,c2,c3,c4,c5,c6] 57 (0,0))
 y:U.heap[w.heap.size+1]?=some (.cells #[.int .i64 0,.bool false,.string ⟨#[]⟩,.int .i64 0,.bool false,.slice none 0 0,.slice none 0 0] 57 (0,0))
 low:Below w.heap.size w U
theorem Cp.below {w U V:World}{c0 c1 c2 c3 c4 c5 c6:Value} (h:Cp w U c0 c1 c2 c3 c4 c5 c6) (hb:Below U.heap.size U V):Cp w V c0 c1 c2 c3 c4 c5 c6:=
 ⟨kB hb h.x,kB hb h.y,h.low.trans (hb.mono h.low.size)⟩
theorem Cp.set2 {w U:World}{c0 c1 c2 c3 c4 c5 c6:Value} (h:Cp w U c0 c1 c2 c3 c4 c5 c6) (d:Value):Cp w (U.setCell ⟨w.heap.size,2,none⟩ d) c0 c1 d c3 c4 c5 c6:=
 ⟨by simp [World.setCell,Array.getElem?_modify,h.x],by rw [Below.heap_setCell _ _ _ _ (show w.heap.size+1≠w.heap.size by omega)];exact h.y,h.low.setCell (Nat.le_refl _) _⟩
theorem Cp.set5 {w U:World}{c0 c1 c2 c3 c4 c5 c6:Value} (h:Cp w U c0 c1 c2 c3 c4 c5 c6) (d:Value):Cp w (U.setCell ⟨w.heap.size,5,none⟩ d) c0 c1 c2 c3 c4 d c6:=
 ⟨by simp [World.setCell,Array.getElem?_modify,h.x],by rw [Below.heap_setCell _ _ _ _ (show w.heap.size+1≠w.heap.size by omega)];exact h.y,h.low.setCell (Nat.le_refl _) _⟩
theorem Cp.set6 {w U:World}{c0 c1 c2 c3 c4 c5 c6:Value} (h:Cp w U c0 c1 c2 c3 c4 c5 c6) (d:Value):Cp w (U.setCell ⟨w.heap.size,6,none⟩ d) c0 c1 c2 c3 c4 c5 d:=
 ⟨by simp [World.setCell,Array.getElem?_modify,h.x],by rw [Below.heap_setCell _ _ _ _ (show w.heap.size+1≠w.heap.size by omega)];exact h.y,h.low.setCell (Nat.le_refl _) _⟩
theorem Cp.far {w U:World}{c0 c1 c2 c3 c4 c5 c6:Value} (h:Cp w U c0 c1 c2 c3 c4 c5 c6) {g:Nat} (hg:w.heap.size+1<g) (j:Nat) (d:Value):Cp w (U.setCell ⟨g,j,none⟩ d) c0 c1 c2 c3 c4 c5 c6:=
 ⟨by rw [Below.heap_setCell _ _ _ _ (show w.heap.size≠g by omega)];exact h.x,by rw [Below.heap_setCell _ _ _ _ (show w.heap.size+1≠g by omega)];exact h.y,h.low.setCell (show w.heap.size≤g by omega) _⟩
theorem Cp.far7 {w V:World}{b0 b1 b2 b3 b4 b5 b6:Value} (h:Cp w V b0 b1 b2 b3 b4 b5 b6) {g:Nat} (hg:w.heap.size+1<g) (o:Nat) (c0 c1 c2 c3 c4 c5 c6:Value):Cp w (((((((V.setCell ⟨g,o,none⟩ c0).setCell ⟨g,o+1,none⟩ c1).setCell ⟨g,o+2,none⟩ c2).setCell ⟨g,o+3,none⟩ c3).setCell ⟨g,o+4,none⟩ c4).setCell ⟨g,o+5,none⟩ c5).setCell ⟨g,o+6,none⟩ c6) b0 b1 b2 b3 b4 b5 b6:=
 ((((((h.far hg _ _).far hg _ _).far hg _ _).far hg _ _).far hg _ _).far hg _ _).far hg _ _
theorem own_other {w w':World}{base n m:Nat}{e:TypeId}{v:Value}{xs:List Value} (h:w.ownsRow base e m v n xs) (hk:∀ k,v.ownBlock=some k→k<w.heap.size→w'.heap[k]?=w.heap[k]?):w'.ownsRow base e m v n xs:=by
 refine⟨h.1,?_⟩;rcases h.2 with h1|⟨g,cap,cur,h1,h2,h3,h4⟩
 · exact .inl h1
 · exact .inr ⟨g,cap,cur,h1,h2,(hk g (by rw [h1];rfl) (lt_of_heap h3)).trans h3,h4⟩
theorem own_next {w w':World}{base n m:Nat}{e:TypeId}{v:Value}{xs:List Value} (h:w.ownsRow base e m v n xs) (hb:Below w.heap.size w w'):w'.ownsRow base e m v n xs:=own_other h fun k _ hk=>hb.block k hk
theorem own_box {w:World}{base n m g j:Nat}{e:TypeId}{v d:Value}{xs:List Value} (h:w.ownsRow base e m v n xs) (hg:g<base):(w.setCell ⟨g,j,none⟩ d).ownsRow base e m v n xs:=
 own_other h fun k hk _=>Below.heap_setCell _ _ _ _ (by have:=(h.lt k hk).1;show k≠g;omega)
theorem s7_heap {V:World}{g o k:Nat} (hk:k≠g) (c0 c1 c2 c3 c4 c5 c6:Value):(((((((V.setCell ⟨g,o,none⟩ c0).setCell ⟨g,o+1,none⟩ c1).setCell ⟨g,o+2,none⟩ c2).setCell ⟨g,o+3,none⟩ c3).setCell ⟨g,o+4,none⟩ c4).setCell ⟨g,o+5,none⟩ c5).setCell ⟨g,o+6,none⟩ c6).heap[k]?=V.heap[k]?:=by
 iterate 7 rw [Below.heap_setCell _ _ _ _ (show k≠g from hk)]
theorem s7_size {V:World}{g o:Nat} (c0 c1 c2 c3 c4 c5 c6:Value):(((((((V.setCell ⟨g,o,none⟩ c0).setCell ⟨g,o+1,none⟩ c1).setCell ⟨g,o+2,none⟩ c2).setCell ⟨g,o+3,none⟩ c3).setCell ⟨g,o+4,none⟩ c4).setCell ⟨g,o+5,none⟩ c5).setCell ⟨g,o+6,none⟩ c6).heap.size=V.heap.size:=by
 simp only [size_set_j]
theorem set_ne (W:World) {g a b:Nat} (v:Value) (h:a≠b):(W.setCell ⟨g,a,none⟩ v).cell? ⟨g,b,none⟩=W.cell? ⟨g,b,none⟩:=World.cell?_setCell_other _ _ _ _ (by intro e;simp only [Addr.mk.injEq] at e;omega)
theorem set_eq {W:World}{a:Addr}{u v:Value} (h:W.cell? a=some u):(W.setCell a v).cell? a=some v:=World.cell?_setCell_same _ _ _ h
theorem s7_out {V:World}{g o p:Nat} (hp:p<o∨o+7≤p) (c0 c1 c2 c3 c4 c5 c6:Value):(((((((V.setCell ⟨g,o,none⟩ c0).setCell ⟨g,o+1,none⟩ c1).setCell ⟨g,o+2,none⟩ c2).setCell ⟨g,o+3,none⟩ c3).setCell ⟨g,o+4,none⟩ c4).setCell ⟨g,o+5,none⟩ c5).setCell ⟨g,o+6,none⟩ c6).cell? ⟨g,p,none⟩=V.cell? ⟨g,p,none⟩:=by
 iterate 7 rw [set_ne _ _ (by omega)]
theorem s7_blk {V:World}{g o:Nat} (h:∃ cur,V.heap[g]?=some (.cells cur 57 (0,0))) (c0 c1 c2 c3 c4 c5 c6:Value):∃ cur,(((((((V.setCell ⟨g,o,none⟩ c0).setCell ⟨g,o+1,none⟩ c1).setCell ⟨g,o+2,none⟩ c2).setCell ⟨g,o+3,none⟩ c3).setCell ⟨g,o+4,none⟩ c4).setCell ⟨g,o+5,none⟩ c5).setCell ⟨g,o+6,none⟩ c6).heap[g]?=some (.cells cur 57 (0,0)):=by
 obtain⟨cur,h⟩:=h;have key:∀ (W:World) (cur:Array Value) (j:Nat) (v:Value),W.heap[g]?=some (.cells cur 57 (0,0))→∃ cur',(W.setCell ⟨g,j,none⟩ v).heap[g]?=some (.cells cur' 57 (0,0)):=fun W cur j v hw=>by
  simp [World.setCell,Array.getElem?_modify,hw]
 obtain⟨_,h⟩:=key _ _ o c0 h;obtain⟨_,h⟩:=key _ _ (o+1) c1 h;obtain⟨_,h⟩:=key _ _ (o+2) c2 h;obtain⟨_,h⟩:=key _ _ (o+3) c3 h;obtain⟨_,h⟩:=key _ _ (o+4) c4 h;obtain⟨_,h⟩:=key _ _ (o+5) c5 h;exact key _ _ (o+6) c6 h
theorem s7_in {V:World}{g o:Nat}{b0 b1 b2 b3 b4 b5 b6:Value} (h:Row7 V g o b0 b1 b2 b3 b4 b5 b6) (c0 c1 c2 c3 c4 c5 c6:Value):∀ r c,[c0,c1,c2,c3,c4,c5,c6][r]?=some c→(((((((V.setCell ⟨g,o,none⟩ c0).setCell ⟨g,o+1,none⟩ c1).setCell ⟨g,o+2,none⟩ c2).setCell ⟨g,o+3,none⟩ c3).setCell ⟨g,o+4,none⟩ c4).setCell ⟨g,o+5,none⟩ c5).setCell ⟨g,o+6,none⟩ c6).cell? ⟨g,o+r,none⟩=some c:=by
 intro r c hr;rcases r with _|_|_|_|_|_|_|r <;> simp at hr
 · subst hr;iterate 6 rw [set_ne _ _ (by omega)]
   exact set_eq h.a0
 · subst hr;iterate 5 rw [set_ne _ _ (by omega)]
   refine set_eq (u:=b1) ?_;iterate 1 rw [set_ne _ _ (by omega)]
   exact h.a1
 · subst hr;iterate 4 rw [set_ne _ _ (by omega)]
   refine set_eq (u:=b2) ?_;iterate 2 rw [set_ne _ _ (by omega)]
   exact h.a2
 · subst hr;iterate 3 rw [set_ne _ _ (by omega)]
   refine set_eq (u:=b3) ?_;iterate 3 rw [set_ne _ _ (by omega)]
   exact h.a3
 · subst hr;iterate 2 rw [set_ne _ _ (by omega)]
   refine set_eq (u:=b4) ?_;iterate 4 rw [set_ne _ _ (by omega)]
   exact h.a4
 · subst hr;iterate 1 rw [set_ne _ _ (by omega)]
   refine set_eq (u:=b5) ?_;iterate 5 rw [set_ne _ _ (by omega)]
   exact h.a5
 · subst hr;refine set_eq (u:=b6) ?_;iterate 6 rw [set_ne _ _ (by omega)]
   exact h.a6
theorem frozen_blk {W:World}{g:Nat}{T:TypeId} (h:∃ cur,W.heap[g]?=some (.cells cur T (0,0))):∀ j,W.frozen? ⟨g,j,none⟩=false:=by
 obtain⟨cur,h⟩:=h;intro j;simp [World.frozen?,h]
structure Ls (w wr:World) (gl:Nat) (ls:List JV) (i:Nat):Prop where
 big:w.heap.size+1<gl
 blk:∃ cur,wr.heap[gl]?=some (.cells cur 57 (0,0))
 done:∀ j x,ls[j]?=some x→j<i→∃ cs,ValIs_k wr (fun k=>w.heap.size+1<k∧k≠gl∧k<wr.heap.size) x cs∧∀ r c,cs[r]?=some c→wr.cell? ⟨gl,j*7+r,none⟩=some c
 todo:∀ j x,ls[j]?=some x→i≤j→∃ cs,ValB_k wr w.heap.size x cs∧∀ r c,cs[r]?=some c→wr.cell? ⟨gl,j*7+r,none⟩=some c
theorem Ls.below {w wr V:World}{gl i:Nat}{ls:List JV} (h:Ls w wr gl ls i) (hb:Below wr.heap.size wr V) (hw:w.heap.size≤wr.heap.size):Ls w V gl ls i:=by
 obtain⟨cur,hc⟩:=h.blk;refine⟨h.big,⟨cur,kB hb hc⟩,fun j x hx hj=>?_,fun j x hx hj=>?_⟩
 · obtain⟨cs,h1,h2⟩:=h.done j x hx hj;exact⟨cs,ValIs_k.keep (fun k hk=>hb.block k hk.2.2) (fun k hk=>⟨hk.1,hk.2.1,Nat.lt_of_lt_of_le hk.2.2 hb.size⟩) _ _ h1,fun r c hr=>cell_keep hb (h2 r c hr)⟩
 · obtain⟨cs,h1,h2⟩:=h.todo j x hx hj;exact⟨cs,h1.below (hb.mono hw),fun r c hr=>cell_keep hb (h2 r c hr)⟩
theorem Ls.box {w wr:World}{gl i:Nat}{ls:List JV} (h:Ls w wr gl ls i) (j:Nat) (d:Value):Ls w (wr.setCell ⟨w.heap.size,j,none⟩ d) gl ls i:=by
 obtain⟨cur,hc⟩:=h.blk;have hb:=h.big;have other:∀ k,k≠w.heap.size→(wr.setCell ⟨w.heap.size,j,none⟩ d).heap[k]?=wr.heap[k]?:=fun k hk=>Below.heap_setCell _ _ _ _ hk
 refine⟨hb,⟨cur,(other gl (by omega)).trans hc⟩,fun a x hx ha=>?_,fun a x hx ha=>?_⟩
 · obtain⟨cs,h1,h2⟩:=h.done a x hx ha;exact⟨cs,ValIs_k.keep (fun k hk=>other k (by omega)) (fun k hk=>⟨hk.1,hk.2.1,by rw [size_set_j];exact hk.2.2⟩) _ _ h1,fun r c hr=>by rw [cell_block (other gl (by omega))];exact h2 r c hr⟩
 · obtain⟨cs,h1,h2⟩:=h.todo a x hx ha;exact⟨cs,h1.below (Below.setCell (Below.refl w.heap.size wr) (show w.heap.size≤w.heap.size from Nat.le_refl _) _),fun r c hr=>by rw [cell_block (other gl (by omega))];exact h2 r c hr⟩
theorem Ls.put {w V:World}{g i:Nat}{ls:List JV}{x:JV}{b0 b1 b2 b3 b4 b5 b6 c0 c1 c2 c3 c4 c5 c6:Value} (h:Ls w V g ls i) (hx:ls[i]?=some x) (hr:Row7 V g (i*7) b0 b1 b2 b3 b4 b5 b6) (hv:ValIs_k V (fun k=>w.heap.size+1<k∧k≠g∧k<V.heap.size) x [c0,c1,c2,c3,c4,c5,c6]):Ls w (((((((V.setCell ⟨g,i*7,none⟩ c0).setCell ⟨g,i*7+1,none⟩ c1).setCell ⟨g,i*7+2,none⟩ c2).setCell ⟨g,i*7+3,none⟩ c3).setCell ⟨g,i*7+4,none⟩ c4).setCell ⟨g,i*7+5,none⟩ c5).setCell ⟨g,i*7+6,none⟩ c6) g ls (i+1):=by
 have hb:=h.big;refine⟨hb,s7_blk h.blk _ _ _ _ _ _ _,fun j y hy hj=>?_,fun j y hy hj=>?_⟩
 · by_cases he:j=i
   · subst he;rw [hx] at hy;obtain rfl:=Option.some.inj hy;exact⟨_,ValIs_k.keep (fun k hk=>s7_heap hk.2.1 _ _ _ _ _ _ _) (fun k hk=>⟨hk.1,hk.2.1,by rw [s7_size];exact hk.2.2⟩) _ _ hv,s7_in hr _ _ _ _ _ _ _⟩
   · obtain⟨cs,h1,h2⟩:=h.done j y hy (by omega);refine⟨cs,ValIs_k.keep (fun k hk=>s7_heap hk.2.1 _ _ _ _ _ _ _) (fun k hk=>⟨hk.1,hk.2.1,by rw [s7_size];exact hk.2.2⟩) _ _ h1,fun r c hr2=>?_⟩;have hr7:r<7:=by
      obtain⟨k1,k2,k3,k4,k5,k6,k7,k8,k9,k10,k11,rfl⟩:=h1.form;have:=(List.getElem?_eq_some_iff.1 hr2).1;simpa using this
     rw [s7_out (by omega)];exact h2 r c hr2
 · obtain⟨cs,h1,h2⟩:=h.todo j y hy (by omega);refine⟨cs,h1.below ?_,fun r c hr2=>?_⟩
   · iterate 7 refine Below.setCell ?_ (show w.heap.size≤g by omega) _
     exact Below.refl _ _
   · have hr7:r<7:=by
      obtain⟨k1,k2,k3,k4,k5,k6,k7,k8,k9,k10,k11,rfl⟩:=h1.form;have:=(List.getElem?_eq_some_iff.1 hr2).1;simpa using this
     rw [s7_out (by omega)];exact h2 r c hr2
theorem vals_mk {w:World}{F:Nat→Prop}{g:Nat}:∀ (ls:List JV) (o:Nat),(∀ j x,ls[j]?=some x→∃ cs,ValIs_k w F x cs∧∀ r c,cs[r]?=some c→w.cell? ⟨g,o+j*7+r,none⟩=some c)→ValsIs_k w F ls g o
 | [],o,_=>by simp [ValsIs_k]
 |x::xs,o,h=>by
  simp only [ValsIs_k];obtain⟨cs,h1,h2⟩:=h 0 x rfl;refine⟨⟨cs,h1,fun j c hj=>by simpa using h2 j c hj⟩,vals_mk xs (o+7) fun j y hy=>?_⟩;obtain⟨cs',a1,a2⟩:=h (j+1) y (by simpa using hy);exact⟨cs',a1,fun r c hr=>by rw [show o+7+j*7+r=o+(j+1)*7+r by omega];exact a2 r c hr⟩
def CopyOk (t:JV):Prop:=∀ (w:World) (cs:List Value),Fits_k t→ValOn_k w t cs→Calls Tryz.prog 203 #[.agg cs.toArray] w fun e w'=>∃ cs':List Value,e= .returned (.agg cs'.toArray)∧ValIs_k w' (fun k=>w.heap.size≤k∧k<w'.heap.size) t cs'∧Below w.heap.size w w'
theorem copied_one {k:Int}{b:Bool}{tx:B}{n:Int}{hh:Bool}{ls:List JV}{ns:List B} (hS:∀ x∈ls,CopyOk x):CopyOk (.mk k b tx n hh ls ns):=by
 intro w cs hf hv;have hvB:ValB_k w w.heap.size (.mk k b tx n hh ls ns) cs:=hv;obtain⟨p1,c1,p2,c2,rfl,_,hp2⟩:=hv.open;obtain⟨p1',c1',p2',c2',ecs,hp1,_⟩:=hvB.open;simp only [List.cons.injEq,Value.slice.injEq,true_and,and_true] at ecs;obtain⟨⟨rfl,rfl⟩,rfl,rfl⟩:=ecs;simp only [Fits_k,fitsL_iff_k] at hf;unfold maxI_k at hf;have HF:=hid hf;have HSO:=hid hS;have HCl:=hid (clone_any_k tx (by have:=hf.1;omega));have HClN:=hid (show ∀ z∈ns,∀ w,_ from fun z hz=>clone_any_k z (by have:=hf.2.2.2.1 z hz;omega));have HNm:=hid hp2;have HPt:=hid hp1;have HNl:=hid hf.2.2.1;have HLl:=hid hf.2.1;obtain⟨n1,e1⟩:∃ n1,ls.length=n1:=⟨_,rfl⟩;obtain⟨n2,e2⟩:∃ n2,ns.length=n2:=⟨_,rfl⟩;have HN1:=hid e1;have HN2:=hid e2;have hn1:n1≤1048576:=by rw [←e1];exact hf.2.1
 have hn2:n2≤1048576:=by rw [←e2];exact hf.2.2.1
 rw [e1,e2];obtain⟨W0,hW0⟩:∃ W0,W0=((w.alloc (C7 k b tx n hh p1 n1 c1 p2 n2 c2)).alloc (.cells #[.int .i64 0,.bool false,.string ⟨#[]⟩,.int .i64 0,.bool false,.slice none 0 0,.slice none 0 0] 57 (0,0))):=⟨_,rfl⟩;have HC0:=hid (show Cp w W0 (.int .i64 k) (.bool b) (.string (str tx)) (.int .i64 n) (.bool hh) (.slice p1 n1 c1) (.slice p2 n2 c2) from by rw [hW0];exact⟨(two_at_k w _ _).1,(two_at_k w _ _).2.1,(two_at_k w _ _).2.2⟩);have HW0:=hid hW0;clear hf hv hvB hS hp1 hp2 e1 e2 hW0;go_enter Tryz.func203,Tryz.ntmps203;go_wp2_with (first
  |(go_at_call 200;rw [←HW0.out];(with_reducible refine(HCl.out W0).mono ?_);rintro e w1 ⟨rfl,hb⟩;have HC1:=hid (HC0.out.below hb);obtain⟨a0,a1,a2,a3,a4,a5,a6,az⟩:=seven_j HC1.out.x;have az0:=az 0;have az1:=az 1;have az2:=az 2;have az3:=az 3;have az4:=az 4;have az5:=az 5;have az6:=az 6;clear az;clear hb)
  |(go_at_call 255;have hcall:=cloneN_any (c:=c2) (HNm.out.below (HC1.out.set2 (.string (str tx))).low) HNl.out;rw [HN2.out] at hcall;(with_reducible refine hcall.mono ?_);clear hcall;rintro e w2 ⟨q,d,rfl,ho,hb⟩;have HC2:=hid ((HC1.out.set2 (.string (str tx))).below hb);have HO2:=hid ho;have HM:=hid (show w.heap.size+1<(w1.setCell ⟨w.heap.size,2,none⟩ (.string (str tx))).heap.size from by rw [size_set_j];exact lt_of_heap HC1.out.y);clear a0 a1 a2 a3 a4 a5 a6 az0 az1 az2 az3 az4 az5 az6;obtain⟨u0,u1,u2,u3,u4,u5,u6,uz⟩:=seven_j HC2.out.x;have uz0:=uz 0;have uz1:=uz 1;have uz2:=uz 2;have uz3:=uz 3;have uz4:=uz 4;have uz5:=uz 5;have uz6:=uz 6;clear uz;clear hb ho))
 generalize (w1.setCell ⟨w.heap.size,2,none⟩ (.string (str tx))).heap.size=M at HO2 HM;have hqd:n2≤d:=by
  rcases HO2.out.2 with ⟨h1,h2⟩|⟨g,cap,cur,h1,_,_,h4,_⟩
  · omega
  · simp only [Value.slice.injEq] at h1;omega
 have HC3:=hid (HC2.out.set6 (.slice q n2 d));have HO3:=hid (own_box (g:=w.heap.size) (j:=6) (d:=.slice q n2 d) HO2.out (by have:=HM.out;omega));clear u0 u1 u2 u3 u4 u5 u6 uz0 uz1 uz2 uz3 uz4 uz5 uz6;generalize (w2.setCell ⟨w.heap.size,6,none⟩ (.slice q n2 d))=U2 at HC3 HO3 ⊢;go_loopg [18] (n2+1) (fun gk s18 wr=>∃ i:Nat,i≤n2∧gk=n2-i+1∧s18= .int .i64 (i:Int)∧Cp w wr (.int .i64 k) (.bool b) (.string (str tx)) (.int .i64 n) (.bool hh) (.slice p1 n1 c1) (.slice q n2 d)∧wr.ownsRow M 9 1 (.slice q n2 d) n2 (strC ns))
 case atStart=>exact⟨0,by omega,rfl,rfl,HC3.out,HO3.out⟩
 case round=>
  obtain⟨i,hi,rfl,rfl,hcp,ho⟩:=hrel;have HCr:=hid hcp;have HOr:=hid ho;clear hcp ho;by_cases hin:i<n2
  · have hi1:i<ns.length:=by rw [HN2.out];exact hin
    obtain⟨gn,rfl,hgM⟩:∃ gn,q=some ⟨gn,0,none⟩∧M≤gn:=by
     rcases HOr.out.2 with ⟨_,h2⟩|⟨g,cap,cur,h1,h2,_⟩
     · omega
     · simp only [Value.slice.injEq] at h1;exact⟨g,h1.1,h2⟩
    have hcell:wr.cell? ⟨gn,i,none⟩=some (.string (str ns[i])):=by
     rw [HOr.out.cellAt i (by omega)];simp [strC,List.getElem?_eq_getElem hi1]
    have HSame:=hid (show (strC ns).set i (.string (str ns[i]))=strC ns from by
     have hl:i<(strC ns).length:=by simpa [strC] using hi1
     have:(strC ns)[i]'hl= .string (str ns[i]):=by simp [strC]
     rw [←this];exact List.set_getElem_self hl)
    have HCz:=hid (HClN.out ns[i] (List.getElem_mem hi1));have HGn:=hid (show w.heap.size+1<gn from Nat.lt_of_lt_of_le HM.out hgM);obtain⟨z,hz⟩:∃ z,ns[i]=z:=⟨_,rfl⟩;rw [hz] at hcell HSame HCz;clear hz hi1 hgM;go_wp2;refine wp_region_noPanic ?_;refine any_begin 7 (by kernel_rfl) (by kernel_rfl) ?_;refine late_begin (fun U=>Cp w U (.int .i64 k) (.bool b) (.string (str tx)) (.int .i64 n) (.bool hh) (.slice p1 n1 c1) (.slice (some ⟨gn,0,none⟩) n2 d)) (fun j=>decide (5≤j)) (HCr.out.below (below_drew_j (Below.refl _ _) 1)) (fun hS=>?_);have HOV:=hid (own_next HOr.out (show Below wr.heap.size wr wr.drew from below_drew_j (Below.refl _ _) 1));generalize wr.drew=V at hS ⊢ HOV;refine ltk (i:=0) (some 23) rfl rfl (v:= ?v0a) ?hy0a hS ?rest0a
    case hy0a=>intro w0 hSw;obtain⟨e0,e1,e2,e3,e4,e5,e6,_⟩:=seven_j hSw.x;go_simp;try with_reducible rfl
    simp only [Act.put,sA,sB,sC];refine ltk (i:=1) (some 24) rfl rfl (v:= ?v1a) ?hy1a hS ?rest1a
    case hy1a=>intro w0 hSw;obtain⟨e0,e1,e2,e3,e4,e5,e6,_⟩:=seven_j hSw.x;go_simp;try with_reducible rfl
    simp only [Act.put,sA,sB,sC];refine ltk (i:=2) (some 25) rfl rfl (v:= ?v2a) ?hy2a hS ?rest2a
    case hy2a=>intro w0 hSw;obtain⟨e0,e1,e2,e3,e4,e5,e6,_⟩:=seven_j hSw.x;go_simp;try with_reducible rfl
    simp only [Act.put,sA,sB,sC];refine ltk (i:=3) (some 26) rfl rfl (v:= ?v3a) ?hy3a hS ?rest3a
    case hy3a=>intro w0 hSw;obtain⟨e0,e1,e2,e3,e4,e5,e6,_⟩:=seven_j hSw.x;go_simp;try with_reducible rfl
    simp only [Act.put,sA,sB,sC];refine wpAnyD_one (i:=4) (by kernel_rfl) rfl (fun K hK=>?_);go_simp;go_at_call 200;refine(HCz.out V).mono ?_;rintro e w3 ⟨rfl,hb⟩;have HO4:=hid (own_next HOV.out hb);have hS5:=hS.below hb;clear hb;refine hK _ _ ⟨fun _=>hS5,?_⟩;clear hK K;replace hS:=hS5;clear hS5;have HC4:=hid hS;clear hS;have hc4:w3.cell? ⟨gn,i,none⟩=some (.string (str z)):=by rw [HO4.out.cellAt i (by omega),←HSame.out,List.getElem?_set_self (show i<(strC ns).length from by unfold strC;rw [List.length_map,HN2.out];exact hin)]
    have hz4:=HO4.out.frozenAt i;refine late_over (by kernel_rfl) ?_;refine atk (i:=5) (some 28) rfl rfl (v:= ?v5a) ?hy5a ?rest5a
    case hy5a=>intro w0;go_simp;try with_reducible rfl
    simp only [Act.put,sA,sB,sC];refine any_one (i:=6) (by kernel_rfl) rfl (fun K hK=>?_);go_simp;refine hK _ _ ?_;clear hK K;refine any_done (by kernel_rfl) ?_ _;refine NoPanic.normal ?_;go_wp2;go_roundg (n2-(i+1)+1)
    case measure=>omega
    case rel=>exact⟨i+1,by omega,rfl,by push_cast;rfl,HC4.out.far HGn.out _ _,by have:=(HO4.out.stored i (.string (str z))).1;rw [HSame.out] at this;exact this⟩
  · obtain rfl:n2=i:=by omega
    obtain⟨a0,a1,a2,a3,a4,a5,a6,az⟩:=seven_j HCr.out.x;have az0:=az 0;have az1:=az 1;have az2:=az 2;have az3:=az 3;have az4:=az 4;have az5:=az 5;have az6:=az 6;clear az;have HPr:=hid (HPt.out.below HCr.out.low);go_wp2_with (go_at_call 256;have hcall:=cloneV_any (c:=c1) HPr.out HLl.out;rw [HN1.out] at hcall;(with_reducible refine hcall.mono ?_);clear hcall;rintro e w5 ⟨q5,d5,gl,rfl,hd5,hgl,hb⟩;have HC5:=hid (HCr.out.below hb);have HO5:=hid (own_next HOr.out hb);have HGl:=hid hgl;have HB5:=hid hb;clear a0 a1 a2 a3 a4 a5 a6 az0 az1 az2 az3 az4 az5 az6;obtain⟨u0,u1,u2,u3,u4,u5,u6,uz⟩:=seven_j HC5.out.x;have uz0:=uz 0;have uz1:=uz 1;have uz2:=uz 2;have uz3:=uz 3;have uz4:=uz 4;have uz5:=uz 5;have uz6:=uz 6;clear uz;clear hb hgl);have HC6:=hid (HC5.out.set5 (.slice q5 n1 d5));have HO6:=hid (own_box (g:=w.heap.size) (j:=5) (d:=.slice q5 n1 d5) HO5.out (by have:=HM.out;omega));have HL6:=hid (show 0<n1→q5=some ⟨gl,0,none⟩∧Ls w (w5.setCell ⟨w.heap.size,5,none⟩ (.slice q5 n1 d5)) gl ls 0 from fun h=>by
     obtain⟨h1,h2,h3,h4⟩:=HGl.out h;refine⟨h1,Ls.box (⟨?_,h3,fun j x _ hj=>absurd hj (Nat.not_lt_zero _),fun j x hx _=>?_⟩:Ls w w5 gl ls 0) _ _⟩
     · have:=lt_of_heap HCr.out.y;omega
     · obtain⟨cs,a1,a2⟩:=h4 j x hx;exact⟨cs,a1.below (HB5.out.mono HCr.out.low.size),a2⟩)
    have HKg:=hid (show 0<n1→∀ k,(Value.slice q n2 d).ownBlock=some k→k<gl from fun h k hk=>Nat.lt_of_lt_of_le (HOr.out.lt k hk).2 (HGl.out h).2.1);clear u0 u1 u2 u3 u4 u5 u6 uz0 uz1 uz2 uz3 uz4 uz5 uz6;generalize (w5.setCell ⟨w.heap.size,5,none⟩ (.slice q5 n1 d5))=U5 at HC6 HO6 HL6 ⊢;go_loopg [37] (n1+1) (fun gk s37 wr=>∃ i:Nat,i≤n1∧gk=n1-i+1∧s37= .int .i64 (i:Int)∧Cp w wr (.int .i64 k) (.bool b) (.string (str tx)) (.int .i64 n) (.bool hh) (.slice q5 n1 d5) (.slice q n2 d)∧wr.ownsRow M 9 1 (.slice q n2 d) n2 (strC ns)∧(0<n1→q5=some ⟨gl,0,none⟩∧Ls w wr gl ls i))
    case atStart=>exact⟨0,by omega,rfl,rfl,HC6.out,HO6.out,HL6.out⟩
    case round=>
     obtain⟨i,hi,rfl,rfl,hcp,ho,hls⟩:=hrel
     rename World=>ur
     have HCu:=hid hcp;have HOu:=hid ho;clear hcp ho;by_cases hin1:i<n1
     · have hi1:i<ls.length:=by rw [HN1.out];exact hin1
       obtain⟨hq5,hl⟩:=hls (by omega);subst hq5;have HLu:=hid hl;have HKn:=hid (HKg.out (by omega));obtain⟨csx,hvx,hcx⟩:=hl.todo i ls[i] (List.getElem?_eq_getElem hi1) (Nat.le_refl _);have HGet:=hid (List.getElem?_eq_getElem hi1);have HC:=hid (HSO.out ls[i] (List.getElem_mem hi1));have HFx:=hid (HF.out.2.2.2.2 ls[i] (List.getElem_mem hi1));obtain⟨x,hx⟩:∃ x,ls[i]=x:=⟨_,rfl⟩;rw [hx] at hvx HGet HC HFx;obtain⟨u1,u2,u3,u4,u5,u6,u7,u8,u9,u10,u11,rfl⟩:=hvx.form;have HVx:=hid hvx;have HRo:=hid (row7 hcx);obtain⟨r0,r1,r2,r3,r4,r5,r6⟩:=HRo.out;clear hls hl hvx hcx hx hi1;go_wp2;have HXp:=hid (show (ur.alloc (C7 u1 u2 u3 u4 u5 u6 u7 u8 u9 u10 u11)).heap[ur.heap.size]?=some (C7 u1 u2 u3 u4 u5 u6 u7 u8 u9 u10 u11) from heap_alloc_new _ _);have HBn:=hid (below_new ur (C7 u1 u2 u3 u4 u5 u6 u7 u8 u9 u10 u11));clear r0 r1 r2 r3 r4 r5 r6;generalize (ur.alloc (C7 u1 u2 u3 u4 u5 u6 u7 u8 u9 u10 u11))=Y at HXp HBn ⊢;refine wp_region_noPanic ?_;refine any_begin 7 (by kernel_rfl) (by kernel_rfl) ?_;refine late_begin (fun U=>Cp w U (.int .i64 k) (.bool b) (.string (str tx)) (.int .i64 n) (.bool hh) (.slice (some ⟨gl,0,none⟩) n1 d5) (.slice q n2 d)∧U.heap[ur.heap.size]?=some (C7 u1 u2 u3 u4 u5 u6 u7 u8 u9 u10 u11)) (fun j=>decide (5≤j)) ⟨(HCu.out.below HBn.out).below (below_drew_j (Below.refl _ _) 1),HXp.out⟩ (fun hS=>?_);have HBV:=hid (below_out HBn.out (show Below Y.heap.size Y Y.drew from below_drew_j (Below.refl _ _) 1));generalize Y.drew=V at hS ⊢ HBV;have HOV:=hid (own_next HOu.out HBV.out);have HLV:=hid (HLu.out.below HBV.out HCu.out.low.size);have HVV:=hid (HVx.out.below (HBV.out.mono HCu.out.low.size));have HRV:=hid (HRo.out.below HBV.out);refine ltk (i:=0) (some 42) rfl rfl (v:= ?v0b) ?hy0b hS ?rest0b
       case hy0b=>intro w0 hSw;obtain⟨e0,e1,e2,e3,e4,e5,e6,_⟩:=seven_j hSw.1.x;obtain⟨f0,f1,f2,f3,f4,f5,f6,_⟩:=seven_j hSw.2;go_simp;try with_reducible rfl
       simp only [Act.put,sA,sB,sC];refine ltk (i:=1) (some 43) rfl rfl (v:= ?v1b) ?hy1b hS ?rest1b
       case hy1b=>intro w0 hSw;obtain⟨e0,e1,e2,e3,e4,e5,e6,_⟩:=seven_j hSw.1.x;obtain⟨f0,f1,f2,f3,f4,f5,f6,_⟩:=seven_j hSw.2;go_simp;try with_reducible rfl
       simp only [Act.put,sA,sB,sC];refine ltk (i:=2) (some 44) rfl rfl (v:= ?v2b) ?hy2b hS ?rest2b
       case hy2b=>intro w0 hSw;obtain⟨e0,e1,e2,e3,e4,e5,e6,_⟩:=seven_j hSw.1.x;obtain⟨f0,f1,f2,f3,f4,f5,f6,_⟩:=seven_j hSw.2;go_simp;try with_reducible rfl
       simp only [Act.put,sA,sB,sC];refine ltk (i:=3) (some 45) rfl rfl (v:= ?v3b) ?hy3b hS ?rest3b
       case hy3b=>intro w0 hSw;obtain⟨e0,e1,e2,e3,e4,e5,e6,_⟩:=seven_j hSw.1.x;obtain⟨f0,f1,f2,f3,f4,f5,f6,_⟩:=seven_j hSw.2;go_simp;try with_reducible rfl
       simp only [Act.put,sA,sB,sC];refine wpAnyD_one (i:=4) (by kernel_rfl) rfl (fun K hK=>?_);go_simp;go_at_call 203;have hcall:=HC.out V _ HFx.out (HVV.out.on hS.1.low.size);refine hcall.mono ?_;clear hcall;rintro e w7 ⟨cs7,rfl,hv7,hb⟩;have HO7:=hid (own_next HOV.out hb);have HL7:=hid (HLV.out.below hb hS.1.low.size);have HR7:=hid (HRV.out.below hb);have HV7:=hid hv7;obtain⟨m1,m2,m3,m4,m5,m6,m7,m8,m9,m10,m11,rfl⟩:=hv7.form;have HSz:=hid (show gl<V.heap.size∧w.heap.size+1<V.heap.size from by obtain⟨cur,hcur⟩:=HLV.out.blk;exact⟨lt_of_heap hcur,lt_of_heap hS.1.y⟩);have hS5:=hS.1.below hb;have hS6:=kB hb hS.2;clear hb hv7;refine hK _ _ ⟨fun _=>⟨hS5,hS6⟩,?_⟩;clear hK K;clear hS hS6;have HC7:=hid hS5;clear hS5;obtain⟨r0,r1,r2,r3,r4,r5,r6⟩:=HR7.out;have hfz:=frozen_blk HL7.out.blk;have z0:=hfz (i*7);have z1:=hfz (i*7+1);have z2:=hfz (i*7+2);have z3:=hfz (i*7+3);have z4:=hfz (i*7+4);have z5:=hfz (i*7+5);have z6:=hfz (i*7+6);clear hfz;refine late_over (by kernel_rfl) ?_;refine atk (i:=5) (some 47) rfl rfl (v:= ?v5b) ?hy5b ?rest5b
       case hy5b=>intro w0;go_simp;try with_reducible rfl
       simp only [Act.put,sA,sB,sC];refine any_one (i:=6) (by kernel_rfl) rfl (fun K hK=>?_);go_simp;refine hK _ _ ?_;clear hK K;refine any_done (by kernel_rfl) ?_ _;refine NoPanic.normal ?_;go_wp2;go_roundg (n1-(i+1)+1)
       case measure=>omega
       case rel=>exact⟨i+1,by omega,rfl,by push_cast;rfl,HC7.out.far7 HL7.out.big _ _ _ _ _ _ _ _,own_other HO7.out (fun k hk _=>s7_heap (by have:=HKn.out k hk;omega) _ _ _ _ _ _ _),fun _=>⟨by first|rfl|trivial,HL7.out.put HGet.out HR7.out (ValIs_k.keep (fun _ _=>rfl) (fun k hk=>⟨Nat.lt_of_lt_of_le HSz.out.2 hk.1,by have:=HSz.out.1;have:=hk.1;omega,hk.2⟩) _ _ HV7.out)⟩⟩
     · obtain rfl:n1=i:=by omega
       have HLs:=hid hls;obtain⟨a0,a1,a2,a3,a4,a5,a6,az⟩:=seven_j HCu.out.x;have az0:=az 0;have az1:=az 1;have az2:=az 2;have az3:=az 3;have az4:=az 4;have az5:=az 5;have az6:=az 6;clear az;obtain⟨c0,c1,c2,c3,c4,c5,c6,cz⟩:=seven_j HCu.out.y;have cz0:=cz 0;have cz1:=cz 1;have cz2:=cz 2;have cz3:=cz 3;have cz4:=cz 4;have cz5:=cz 5;have cz6:=cz 6;clear cz;clear hls;go_wp2
       (try simp only [Exit.inBlock,Exit.then])
       refine bodyPost_ret (results_val1 rfl _ _ _ 57 _ (0,0) rfl (seven_put (has_seven HCu.out.y) _ _ _ _ _ _ _) rfl) rfl ?_;refine⟨_,rfl,?_,below_seven HCu.out.low (Nat.le_succ _) _ _ _ _ _ _ _⟩;have hval:ValIs_k ur (fun k=>w.heap.size+1<k∧k<ur.heap.size) (.mk k b tx n hh ls ns) [.int .i64 k,.bool b,.string (str tx),.int .i64 n,.bool hh,.slice q5 n1 d5,.slice q n2 d]:=by
        simp only [ValIs_k];refine⟨.slice q5 n1 d5,.slice q n2 d,rfl,⟨q5,d5,by rw [HN1.out],by rw [HN1.out];exact hd5,fun h=>?_⟩,⟨q,d,by rw [HN2.out],by rw [HN2.out];exact hqd,fun h=>?_⟩⟩
        · rw [HN1.out] at h;obtain⟨h1,h2⟩:=HLs.out h;obtain⟨cur,hcur⟩:=h2.blk;refine⟨gl,0,h1,⟨h2.big,lt_of_heap hcur⟩,vals_mk ls 0 fun j x hx=>?_⟩;have hj:j<n1:=by rw [←HN1.out];exact(List.getElem?_eq_some_iff.1 hx).1
          obtain⟨cs,a1,a2⟩:=h2.done j x hx hj;exact⟨cs,ValIs_k.keep (fun _ _=>rfl) (fun k hk=>⟨hk.1,hk.2.2⟩) _ _ a1,fun r c hr=>by rw [Nat.zero_add];exact a2 r c hr⟩
        · have hO:ur.ownsRow M 9 1 (.slice q ns.length d) ns.length (strC ns):=by rw [HN2.out];exact HOu.out
          obtain⟨q',d',e',_,hnm,hge⟩:=names_own hO;simp only [Value.slice.injEq,true_and] at e';obtain⟨rfl,rfl⟩:=e';obtain⟨g,o,e,hcell⟩:=hnm 0 ns[0] (List.getElem?_eq_getElem h);have hgM:=hge _ e;refine⟨g,o,e,⟨Nat.lt_of_lt_of_le HM.out hgM,lt_of_cell hcell⟩,fun j t hj=>?_⟩;obtain⟨g',o',e2,hc2⟩:=hnm j t hj;rw [e] at e2;simp only [Option.some.injEq,Addr.mk.injEq] at e2;obtain⟨rfl,rfl,_⟩:=e2;exact hc2
       exact ValIs_k.keep (fun k hk=>seven_other (by have:=hk.1;omega) _ _ _ _ _ _ _) (fun k hk=>⟨by have:=hk.1;omega,by simp only [size_set_j];exact hk.2⟩) _ _ hval
mutual
theorem copied_any:∀ t:JV,CopyOk t
 | .mk _ _ _ _ _ ls _=>copied_one (copieds_any ls)
theorem copieds_any:∀ ls:List JV,∀ x∈ls,CopyOk x
 | [],x,h=>by simp at h
 |y::ys,x,h=>by
  simp only [List.mem_cons] at h;rcases h with rfl|h
  · exact copied_any x
  · exact copieds_any ys x h
end
def ToldA (r:JV) (k:Nat) (w:World) (e:Ending) (w':World):Prop:=∃ cs:List Value,e= .returned (.tuple #[.agg cs.toArray,errOf k])∧ValOn_k w' r cs∧Below w.heap.size w w'
theorem at_any (t:JV) (p:B) (hp:p.length≤1048577) (w:World) (cs:List Value) (hf:Fits_k t) (hE:Env_k w) (hv:ValOn_k w t cs):Calls Tryz.prog 124 #[.agg cs.toArray,.string (str p)] w fun e w'=>ToldA ((goto t (steps p)).getD JV.zero) (codeN (goto t (steps p))) w e w':=by
 obtain⟨k1,k2,k3,k4,k5,k6,k7,k8,k9,k10,k11,rfl⟩:=hv.form;have HFi:=hid (find_any t p hp);have HFr:=hid (show Fits_k ((goto t (steps p)).getD JV.zero) from by
  cases h:goto t (steps p) with
  |none=>exact fits_zero
  |some y=>exact fits_goto _ _ _ hf h)
 obtain⟨S,hS⟩:∃ S,str p=S:=⟨_,rfl⟩;have HS:=hid hS;rw [hS];have HF:=hid hf;have HE:=hid hE;have HV:=hid (show ValB_k w w.heap.size t _ from hv);obtain⟨W0,hW0⟩:∃ W0,W0=((w.alloc (C7 k1 k2 k3 k4 k5 k6 k7 k8 k9 k10 k11)).alloc (.cells #[.int .i64 0,.bool false,.string ⟨#[]⟩,.int .i64 0,.bool false,.slice none 0 0,.slice none 0 0] 57 (0,0))):=⟨_,rfl⟩;have HB0:=hid (show Below w.heap.size w W0 from by rw [hW0];exact(two_at_k w _ _).2.2);have HX0:=hid (show Fb W0 w.heap.size (C7 k1 k2 k3 k4 k5 k6 k7 k8 k9 k10 k11) from by rw [hW0];exact⟨(two_at_k w _ _).1,(two_at_k w _ _).2.1⟩);have HW0:=hid hW0;obtain⟨r,hr⟩:∃ r,(goto t (steps p)).getD JV.zero=r:=⟨_,rfl⟩;obtain⟨c,hc⟩:∃ c,codeN (goto t (steps p))=c:=⟨_,rfl⟩;rw [hr,hc] at HFi ⊢;rw [hr] at HFr;have HCo:=hid (copied_any r);obtain⟨E,hE2⟩:∃ E,errOf c=E:=⟨_,rfl⟩;have HEc:=hid hE2;clear hf hE hv hp hS hW0 hr hc hE2;go_enter Tryz.func124,Tryz.ntmps124;go_wp2_with (first
  |(go_at_call 202;have hcall:=HFi.out W0 w.heap.size _ HB0.out.size HF.out (HE.out.below HB0.out) (HV.out.below HB0.out);rw [HS.out] at hcall;rw [←HW0.out];(with_reducible refine hcall.mono ?_);clear hcall;rintro e w1 ⟨cs1,rfl,hv1,hb⟩;rw [HEc.out];have HB1:=hid (below_out HB0.out hb);have HY1:=hid (kB hb HX0.out.y);obtain⟨u1,u2,u3,u4,u5,u6,u7,u8,u9,u10,u11,rfl⟩:=hv1.form;have HV1:=hid (hv1.on HB1.out.size);clear hb hv1)
  |(go_at_call 203;have hcall:=HCo.out (w1.alloc (C7 u1 u2 u3 u4 u5 u6 u7 u8 u9 u10 u11)) _ HFr.out (HV1.out.below (below_new w1 _));(with_reducible refine hcall.mono ?_);clear hcall;rintro e w2 ⟨cs2,rfl,hv2,hb⟩;have HY2:=hid (kB hb (cells_old HY1.out));have HB2:=hid (HB1.out.trans ((below_out (below_new w1 _) hb).mono HB1.out.size));have HV2:=hid hv2;have HSz:=hid (show w.heap.size+1<(w1.alloc (C7 u1 u2 u3 u4 u5 u6 u7 u8 u9 u10 u11)).heap.size from lt_of_heap (cells_old HY1.out));obtain⟨m1,m2,m3,m4,m5,m6,m7,m8,m9,m10,m11,rfl⟩:=hv2.form;obtain⟨y0,y1,y2,y3,y4,y5,y6,yz⟩:=seven_j HY2.out;have yz0:=yz 0;have yz1:=yz 1;have yz2:=yz 2;have yz3:=yz 3;have yz4:=yz 4;have yz5:=yz 5;have yz6:=yz 6;clear yz;clear hb hv2))
 (try simp only [Exit.inBlock,Exit.then])
 refine bodyPost_ret (results_val2 rfl _ _ _ 57 _ (0,0) rfl (seven_put (has_seven HY2.out) _ _ _ _ _ _ _) rfl) rfl ?_;refine⟨_,by rw [HEc.out];rfl,⟨fun k=>w.heap.size+1<k∧k<w2.heap.size,fun k hk=>by simp only [size_set_j];exact hk.2,?_⟩,below_seven HB2.out (Nat.le_succ _) _ _ _ _ _ _ _⟩;exact ValIs_k.keep (fun k hk=>seven_other (by have:=hk.1;have:=HSz.out;omega) _ _ _ _ _ _ _) (fun k hk=>⟨Nat.lt_of_lt_of_le HSz.out hk.1,hk.2⟩) _ _ HV2.out
structure Tg (g:Nat) (w w':World):Prop where
 os:w'.os=w.os
 tape:w'.tape=w.tape
 output:w'.output=w.output
 size:w.heap.size≤w'.heap.size
 block:∀ k,k<w.heap.size→k≠g→w'.heap[k]?=w.heap[k]?
theorem Tg.refl (g:Nat) (w:World):Tg g w w:=⟨rfl,rfl,rfl,Nat.le_refl _,fun _ _ _=>rfl⟩
theorem Tg.on {g:Nat}{a b c:World} (h:Tg g a b) (k:Tg g b c):Tg g a c:=
 ⟨k.os.trans h.os,k.tape.trans h.tape,k.output.trans h.output,Nat.le_trans h.size k.size,fun i hi hf=>(k.block i (Nat.lt_of_lt_of_le hi h.size) hf).trans (h.block i hi hf)⟩
theorem tg_of {g:Nat}{a b:World} (h:Below a.heap.size a b):Tg g a b:=⟨h.os,h.tape,h.output,h.size,fun i hi _=>h.block i hi⟩
theorem Tg.under {g n:Nat}{a b:World} (h:Tg g a b) (hn:n≤a.heap.size) (hg:n≤g):Below n a b:=
 ⟨h.os,h.tape,h.output,h.size,fun i hi=>h.block i (Nat.lt_of_lt_of_le hi hn) (fun e=>by omega)⟩
theorem tg_set (w:World) (b o:Nat) (v:Value):Tg b w (w.setCell ⟨b,o,none⟩ v):=
 ⟨((Below.refl 0 w).setCell (Nat.zero_le _) v).os,((Below.refl 0 w).setCell (Nat.zero_le _) v).tape,((Below.refl 0 w).setCell (Nat.zero_le _) v).output,((Below.refl 0 w).setCell (Nat.zero_le _) v).size,fun i _ hf=>RowKit.Below.heap_setCell w ⟨b,o,none⟩ v i hf⟩
theorem Tg.new {g:Nat}{a b:World} (h:Tg g a b) (o:Obj):Tg g a (b.alloc o):=h.on (tg_of (below_new b o))
theorem Tg.below {g:Nat}{a b c:World} (h:Tg g a b) (k:Below b.heap.size b c):Tg g a c:=h.on (tg_of k)
def In64 (n:Int):Prop:= -9223372036854775808≤n∧n≤9223372036854775807
mutual
def Nums:JV→Prop
 | .mk _ _ _ n _ ls _=>In64 n∧NumsL ls
def NumsL:List JV→Prop
 | []=>True
 |x::xs=>Nums x∧NumsL xs
end
theorem numsL_iff:∀ ls:List JV,NumsL ls↔∀ x∈ls,Nums x
 | []=>by simp [NumsL]
 |x::xs=>by simp [NumsL,numsL_iff xs]
theorem nums_parts {t:JV} (h:Nums t):∀ x∈t.parts,Nums x:=by
 obtain⟨k,b,s,n,hh,ls,ns⟩:=t;exact(numsL_iff ls).1 h.2
theorem nums_goto:∀ (ss:List B) (t x:JV),Nums t→goto t ss=some x→Nums x
 | [],t,x,h,e=>by
  simp only [goto] at e;cases e;exact h
 |s::ss,t,x,h,e=>by
  cases hp:placeN t s with
  |none=>rw [goto_none hp] at e;cases e
  |some i=>
   cases hx:t.parts[i]? with
   |none=>simp [goto,hp,hx] at e
   |some y=>
    rw [goto_some hp hx] at e;exact nums_goto ss y x (nums_parts h y (List.mem_of_getElem? hx)) e
theorem nums_kind {t:JV} (ss:List B) (k:Int) (h:Nums t):In64 (ofKind k (goto t ss)).1.num:=by
 unfold ofKind;cases hg:goto t ss with
 |none=>simp [JV.zero,JV.num,In64]
 |some x=>
  have:=nums_goto ss t x h hg;dsimp only;split
  · obtain⟨k,b,s,n,hh,ls,ns⟩:=x;exact this.1
  · simp [JV.zero,JV.num,In64]
structure RdS_v (w:World) (g:Nat) (t:JV) (cs:List Value) (z:Option B):Prop where
 obj:w.heap[g]?=some (.cells (cs++ [Value.bool z.isSome,Value.string (str (z.getD []))]).toArray 61 (0,0))
 val:ValB_k w g t cs
 fits:Fits_k t
 nums:Nums t
 env:∀ W,Below g w W→EnvC W
theorem RdS_v.lt {w:World}{g:Nat}{t:JV}{cs:List Value}{z:Option B} (h:RdS_v w g t cs z):g<w.heap.size:=lt_of_heap h.obj
theorem RdS_v.next {w w':World}{g:Nat}{t:JV}{cs:List Value}{z:Option B} (h:RdS_v w g t cs z) (hb:Below w.heap.size w w'):RdS_v w' g t cs z:=
 ⟨(hb.block g h.lt).trans h.obj,h.val.below (hb.mono (Nat.le_of_lt h.lt)),h.fits,h.nums,fun W hW=>h.env W ((hb.mono (Nat.le_of_lt h.lt)).trans hW)⟩
theorem RdS_v.e {w:World}{g:Nat}{t:JV}{cs:List Value}{z:Option B} (h:RdS_v w g t cs z):EnvC w:=h.env w (Below.refl _ _)
theorem RdS_v.on {w:World}{g:Nat}{t:JV}{cs:List Value}{z:Option B} (h:RdS_v w g t cs z):ValOn_k w t cs:=h.val.on (Nat.le_of_lt h.lt)
theorem RdS_v.turn {w w':World}{g:Nat}{t:JV}{cs:List Value}{z z':Option B} (h:RdS_v w g t cs z) (ht:Tg g w w') (ho:w'.heap[g]?=some (.cells (cs++ [Value.bool z'.isSome,Value.string (str (z'.getD []))]).toArray 61 (0,0))):RdS_v w' g t cs z':=
 ⟨ho,h.val.below (ht.under (Nat.le_of_lt h.lt) (Nat.le_refl _)),h.fits,h.nums,fun W hW=>h.env W ((ht.under (Nat.le_of_lt h.lt) (Nat.le_refl _)).trans hW)⟩
structure Cells9 (w:World) (g:Nat) (a b c d e f h i j:Value):Prop where
 c0:w.cell? ⟨g,0,none⟩=some a
 c1:w.cell? ⟨g,1,none⟩=some b
 c2:w.cell? ⟨g,2,none⟩=some c
 c3:w.cell? ⟨g,3,none⟩=some d
 c4:w.cell? ⟨g,4,none⟩=some e
 c5:w.cell? ⟨g,5,none⟩=some f
 c6:w.cell? ⟨g,6,none⟩=some h
 c7:w.cell? ⟨g,7,none⟩=some i
 c8:w.cell? ⟨g,8,none⟩=some j
theorem cells9 {w:World}{g:Nat}{a b c d e f h i j:Value}{T:TypeId} (H:w.heap[g]?=some (.cells #[a,b,c,d,e,f,h,i,j] T (0,0))):Cells9 w g a b c d e f h i j:=by
 refine⟨?_,?_,?_,?_,?_,?_,?_,?_,?_⟩ <;> simp [World.cell?,H]
theorem set_two {w:World}{g:Nat}{a b c d e f h i j:Value}{T:TypeId} (H:w.heap[g]?=some (.cells #[a,b,c,d,e,f,h,i,j] T (0,0))) (x y:Value):((w.setCell ⟨g,7,none⟩ x).setCell ⟨g,8,none⟩ y).heap[g]?=some (.cells #[a,b,c,d,e,f,h,x,y] T (0,0)):=
 heap_setCell_same _ g 8 _ T y (heap_setCell_same w g 7 _ T x H)
theorem pfail_any (g:Nat) (t:JV) (cs:List Value) (z:Option B) (p:B) (w:World) (h:RdS_v w g t cs z):Calls Tryz.prog 123 #[.pointer (some ⟨g,0,none⟩),.string (str p)] w fun e w'=>e= .returned (.tuple #[])∧RdS_v w' g t cs (failM z p)∧Tg g w w':=by
 have HR:=hid h;obtain⟨k1,k2,k3,k4,k5,k6,k7,k8,k9,k10,k11,hcs⟩:=h.val.form;have ho:=h.obj;rw [hcs] at ho;have HO:=hid ho;clear h ho;cases z with
 |some q=>
  obtain⟨q0,q1,q2,q3,q4,q5,q6,q7,q8⟩:=cells9 HO.out;go_enter Tryz.func123,Tryz.ntmps123;go_wp2;refine bodyPost_end (results_none rfl _ _ _) rfl ?_;exact⟨rfl,HR.out,Tg.refl _ _⟩
 |none=>
  obtain⟨q0,q1,q2,q3,q4,q5,q6,q7,q8⟩:=cells9 HO.out;have qf7:=frozen_of_row w g 7 _ _ HO.out;have qf8:=frozen_of_row w g 8 _ _ HO.out;have HT:=hid ((tg_set w g 7 (.bool true)).on (tg_set _ g 8 (.string (str p))));have HN:=hid (set_two HO.out (.bool true) (.string (str p)));go_enter Tryz.func123,Tryz.ntmps123;go_wp2;refine bodyPost_end (results_none rfl _ _ _) rfl ?_;exact⟨rfl,HR.out.turn HT.out (by rw [hcs];exact HN.out),HT.out⟩
end Go.Proofs.YtlmefgjhbohjlaaGreatDoor
