/- A table of patterns in memory, and how it changes. -/
import Derived.Test.YtlmlljlappjjjaaGreatDoorSBin
namespace Go.Proofs.YtlmlljlappjjjaaGreatDoor
open Go.RowKit Go.Maps
structure Tab0 (w:World) (t:Nat) (Q1 Q2:List (B×Int)) (A:List B) (m:Option Nat) (v1 v2:Value) (L:List B):Prop where
 bx:w.heap[t]?=some (.cells #[.map m,v1,v2] 125 (0,0))
 mp:∀ k,m=some k→MapK w k Q1
 no:m=none→Q1= []
 sh:OwnS w 0 v1 L
 al:OwnS w 0 v2 A
 dj:∀ g,v1.ownBlock=some g→v2.ownBlock≠some g
 srt:SrtO L
 mem:∀ s,s∈L↔∃ p∈Q2,shapeS (patL p.1)=s
 lb:∀ s∈L,s.length≤254
 ll:L.length≤Q2.length
def Ft (t:Nat) (m:Option Nat) (v1 v2:Value):Nat→Prop:=fun i=>i=t∨m=some i∨v1.ownBlock=some i∨v2.ownBlock=some i
theorem OwnS.lt {w:World}{b g:Nat}{v:Value}{l:List B} (h:OwnS w b v l) (e:v.ownBlock=some g):g<w.heap.size:=(ownS_R h).lt e
theorem OwnS.keepB {w w':World}{b:Nat}{v:Value}{l:List B} (h:OwnS w b v l) (hb:∀ g,v.ownBlock=some g→w'.heap[g]?=w.heap[g]?):OwnS w' b v l:=ownR_S ((ownS_R h).keepB hb)
theorem OwnS.type {w:World}{b g:Nat}{v:Value}{l:List B} (h:OwnS w b v l) (e:v.ownBlock=some g):∃ cs,w.heap[g]?=some (.cells cs 9 (0,0)):=by
 rcases h.2 with ⟨h1,_⟩|⟨g',cap,cur,h1,h2,h3,h4⟩
 · rw [h1] at e;cases e
 · rw [h1] at e;obtain rfl:g'=g:=by simpa [Value.ownBlock] using e
   exact⟨cur,h3⟩
section
variable {w w' : World} {t : Nat} {Q1 Q2 : List (B × Int)} {A : List B} {m : Option Nat} {v1 v2 : Value} {L : List B}
theorem Tab0.keep (h:Tab0 w t Q1 Q2 A m v1 v2 L) (hk:∀ i,Ft t m v1 v2 i→i<w.heap.size→w'.heap[i]?=w.heap[i]?):Tab0 w' t Q1 Q2 A m v1 v2 L:=
 ⟨(hk t (.inl rfl) (lt_of_heap h.bx)).trans h.bx,fun k e=>(h.mp k e).keep (hk k (.inr (.inl e)) (h.mp k e).lt),h.no,h.sh.keepB (fun g e=>hk g (.inr (.inr (.inl e))) (h.sh.lt e)),h.al.keepB (fun g e=>hk g (.inr (.inr (.inr e))) (h.al.lt e)),h.dj,h.srt,h.mem,h.lb,h.ll⟩
theorem Tab0.next (h:Tab0 w t Q1 Q2 A m v1 v2 L) (hb:Below w.heap.size w w'):Tab0 w' t Q1 Q2 A m v1 v2 L:=h.keep fun i _ hi=>hb.block i hi
theorem Tab0.lt (h:Tab0 w t Q1 Q2 A m v1 v2 L) {i:Nat} (hi:Ft t m v1 v2 i):i<w.heap.size:=by
 rcases hi with rfl|e|e|e
 · exact lt_of_heap h.bx
 · exact(h.mp i e).lt
 · exact h.sh.lt e
 · exact h.al.lt e
theorem Tab0.ne1 (h:Tab0 w t Q1 Q2 A m v1 v2 L):v1.ownBlock≠some t:=fun e=>by
 obtain⟨cs,hc⟩:=h.sh.type e;rw [h.bx] at hc;injection hc with hc
 injection hc with _ hc _
 exact absurd hc (by decide)
theorem Tab0.ne2 (h:Tab0 w t Q1 Q2 A m v1 v2 L):v2.ownBlock≠some t:=fun e=>by
 obtain⟨cs,hc⟩:=h.al.type e;rw [h.bx] at hc;injection hc with hc
 injection hc with _ hc _
 exact absurd hc (by decide)
theorem Tab0.nem (h:Tab0 w t Q1 Q2 A m v1 v2 L):m≠some t:=fun e=>(h.mp t e).nocell h.bx
theorem Tab0.nem1 (h:Tab0 w t Q1 Q2 A m v1 v2 L) {k:Nat} (e:m=some k):v1.ownBlock≠some k:=fun e1=>by
 obtain⟨cs,hc⟩:=h.sh.type e1;exact(h.mp k e).nocell hc
theorem Tab0.nem2 (h:Tab0 w t Q1 Q2 A m v1 v2 L) {k:Nat} (e:m=some k):v2.ownBlock≠some k:=fun e1=>by
 obtain⟨cs,hc⟩:=h.al.type e1;exact(h.mp k e).nocell hc
theorem box3 {a b c:Value}{T:TypeId} (h:w.heap[t]?=some (.cells #[a,b,c] T (0,0))):w.cell? ⟨t,0,none⟩=some a∧w.cell? ⟨t,1,none⟩=some b∧w.cell? ⟨t,2,none⟩=some c∧∀ o,w.frozen? ⟨t,o,none⟩=false:=by
 refine⟨?_,?_,?_,fun o=>?_⟩
 · simp only [World.cell?,h];rfl
 · simp only [World.cell?,h];rfl
 · simp only [World.cell?,h];rfl
 · simp only [World.frozen?,h];simp
theorem Tab0.cells (h:Tab0 w t Q1 Q2 A m v1 v2 L):w.cell? ⟨t,0,none⟩=some (.map m)∧w.cell? ⟨t,1,none⟩=some v1∧w.cell? ⟨t,2,none⟩=some v2∧∀ o,w.frozen? ⟨t,o,none⟩=false:=box3 h.bx
theorem Tab0.new (w:World):Tab0 (w.alloc (.cells #[.map none,.slice none 0 0,.slice none 0 0] 125 (0,0))) w.heap.size [] [] [] none (.slice none 0 0) (.slice none 0 0) []:=
 ⟨heap_alloc_new w _,fun k e=>(by cases e),fun _=>rfl,OwnS.nil _ _,OwnS.nil _ _,fun g e=>(by cases e),List.Pairwise.nil,fun s=>(by simp),fun s hs=>(by simp at hs),Nat.le_refl _⟩
theorem Tab0.make (h:Tab0 w t Q1 Q2 A none v1 v2 L):Tab0 ((w.alloc (.map #[] 0)).setCell ⟨t,0,none⟩ (.map (some w.heap.size))) t Q1 Q2 A (some w.heap.size) v1 v2 L:=by
 have hl:=lt_of_heap h.bx;have hn:=below_new w (.map #[] 0);have hks:=(kept_set (w.alloc (.map #[] 0)) t 0 (.map (some w.heap.size)));have hq:=h.no rfl;subst hq;have hb2:((w.alloc (.map #[] 0)).setCell ⟨t,0,none⟩ (.map (some w.heap.size))).heap[t]?=some (.cells #[.map (some w.heap.size),v1,v2] 125 (0,0)):=by
  rw [heap_set1 ((hn.block t hl).trans h.bx)];rfl
 refine⟨hb2,fun k e=>?_,fun e=>(by cases e),h.sh.keepB (fun g e=>?_),h.al.keepB (fun g e=>?_),h.dj,h.srt,h.mem,h.lb,h.ll⟩
 · injection e with e
   subst e;exact(MapK.made w).keep (hks.block _ (by simp) (fun e=>by omega))
 · have:=h.sh.lt e;exact(hks.block g (by simp;omega) (fun e1=>h.ne1 (e1 ▸ e))).trans (hn.block g this)
 · have:=h.al.lt e;exact(hks.block g (by simp;omega) (fun e1=>h.ne2 (e1 ▸ e))).trans (hn.block g this)
theorem make_kept (w:World) (t:Nat):Kept (fun i=>i=t) w ((w.alloc (.map #[] 0)).setCell ⟨t,0,none⟩ (.map (some w.heap.size))):=(Below.kept (below_new w _)).trans (kept_set _ t 0 _) (fun _ _ h=>h)
theorem Tab0.put {km:Nat}{q:B×Int} (h:Tab0 w t Q1 Q2 A (some km) v1 v2 L) (hm:MapK w' km (Q1++ [q])) (hg:w.grownBy w' (some km)):Tab0 w' t (Q1++ [q]) Q2 A (some km) v1 v2 L:=by
 have hk:=kept_grown hg;refine⟨(hk.block t (lt_of_heap h.bx) (fun e=>h.nem e)).trans h.bx,fun k e=>?_,fun e=>(by cases e),h.sh.keepB (fun g e=>hk.block g (h.sh.lt e) (fun e1=>h.nem1 e1 e)),h.al.keepB (fun g e=>hk.block g (h.al.lt e) (fun e1=>h.nem2 e1 e)),h.dj,h.srt,h.mem,h.lb,h.ll⟩;injection e with e
 subst e;exact hm
theorem Tab0.was {q:B×Int} (h:Tab0 w t Q1 Q2 A m v1 v2 L) (hs:shapeS (patL q.1)∈L):Tab0 w t Q1 (Q2++ [q]) A m v1 v2 L:=by
 refine⟨h.bx,h.mp,h.no,h.sh,h.al,h.dj,h.srt,fun s=>?_,h.lb,by rw [List.length_append];have:=h.ll;omega⟩;rw [h.mem s];constructor
 · rintro ⟨p,hp,e⟩;exact⟨p,List.mem_append.2 (.inl hp),e⟩
 · rintro ⟨p,hp,e⟩;rcases List.mem_append.1 hp with hp|hp
   · exact⟨p,hp,e⟩
   · simp at hp;subst hp;rw [e] at hs;exact(h.mem s).1 hs
theorem Tab0.shape {q:B×Int}{v':Value} (h:Tab0 w t Q1 Q2 A m v1 v2 L) (hs:shapeS (patL q.1)∉L) (hl:(shapeS (patL q.1)).length≤254) (ho:OwnS w' 0 v' (insO (shapeS (patL q.1)) L)) (hk:Kept (fun i=>v1.ownBlock=some i) w w') (hv:v'.ownBlock=v1.ownBlock∨∃ g,v'.ownBlock=some g∧w.heap.size≤g):
  Tab0 (w'.setCell ⟨t,1,none⟩ v') t Q1 (Q2++ [q]) A m v' v2 (insO (shapeS (patL q.1)) L):=by
 have hkt:=hk.block t (lt_of_heap h.bx) h.ne1;have hb1:w'.heap[t]?=some (.cells #[.map m,v1,v2] 125 (0,0)):=hkt.trans h.bx;have hb2:(w'.setCell ⟨t,1,none⟩ v').heap[t]?=some (.cells #[.map m,v',v2] 125 (0,0)):=by
  rw [heap_set1 hb1];rfl
 have hks:=kept_set w' t 1 v';have hvt:v'.ownBlock≠some t:=by
  rcases hv with e|⟨g,e,hg⟩
  · rw [e];exact h.ne1
  · rw [e];intro e1;have:=lt_of_heap h.bx;injection e1 with e1
    omega
 have hsz:=hk.size;refine⟨hb2,fun k e=>?_,h.no,ho.keepB (fun g e=>hks.block g (ho.lt e) (fun e1=>hvt (e1 ▸ e))),h.al.keepB (fun g e=>?_),fun g e=>?_,ins_srt h.srt hs,fun s=>?_,fun s hm=>?_,?_⟩
 · refine((h.mp k e).keep (hk.block k (h.mp k e).lt (h.nem1 e))).keep (hks.block k (Nat.lt_of_lt_of_le (h.mp k e).lt hsz) (fun e1=>h.nem (e1 ▸ e)))
 · exact(hks.block g (Nat.lt_of_lt_of_le (h.al.lt e) hsz) (fun e1=>h.ne2 (e1 ▸ e))).trans (hk.block g (h.al.lt e) (fun e1=>h.dj g e1 e))
 · rcases hv with e1|⟨g',e1,hg⟩
   · rw [e1] at e;exact h.dj g e
   · intro e2;have:=h.al.lt e2;rw [e1] at e;injection e with e
     omega
 · rw [ins_mem,h.mem s];constructor
   · rintro (e|⟨p,hp,e⟩)
     · exact⟨q,by simp,e.symm⟩
     · exact⟨p,List.mem_append.2 (.inl hp),e⟩
   · rintro ⟨p,hp,e⟩;rcases List.mem_append.1 hp with hp|hp
     · exact .inr ⟨p,hp,e⟩
     · simp at hp;subst hp;exact .inl e.symm
 · rcases ins_mem.1 hm with e|e
   · rw [e];exact hl
   · exact h.lb s e
 · rw [ins_len _ _ h.srt,List.length_append];have:=h.ll;simp;omega
theorem Tab0.text {x:B}{v':Value} (h:Tab0 w t Q1 Q2 A m v1 v2 L) (ho:OwnS w' 0 v' (A++ [x])) (hk:Kept (fun i=>v2.ownBlock=some i) w w') (hv:v'.ownBlock=v2.ownBlock∨∃ g,v'.ownBlock=some g∧w.heap.size≤g):
  Tab0 (w'.setCell ⟨t,2,none⟩ v') t Q1 Q2 (A++ [x]) m v1 v' L:=by
 have hkt:=hk.block t (lt_of_heap h.bx) h.ne2;have hb1:w'.heap[t]?=some (.cells #[.map m,v1,v2] 125 (0,0)):=hkt.trans h.bx;have hb2:(w'.setCell ⟨t,2,none⟩ v').heap[t]?=some (.cells #[.map m,v1,v'] 125 (0,0)):=by
  rw [heap_set1 hb1];rfl
 have hks:=kept_set w' t 2 v';have hvt:v'.ownBlock≠some t:=by
  rcases hv with e|⟨g,e,hg⟩
  · rw [e];exact h.ne2
  · rw [e];intro e1;have:=lt_of_heap h.bx;injection e1 with e1
    omega
 have hsz:=hk.size;refine⟨hb2,fun k e=>?_,h.no,h.sh.keepB (fun g e=>?_),ho.keepB (fun g e=>hks.block g (ho.lt e) (fun e1=>hvt (e1 ▸ e))),fun g e=>?_,h.srt,h.mem,h.lb,h.ll⟩
 · refine((h.mp k e).keep (hk.block k (h.mp k e).lt (h.nem2 e))).keep (hks.block k (Nat.lt_of_lt_of_le (h.mp k e).lt hsz) (fun e1=>h.nem (e1 ▸ e)))
 · exact(hks.block g (Nat.lt_of_lt_of_le (h.sh.lt e) hsz) (fun e1=>h.ne1 (e1 ▸ e))).trans (hk.block g (h.sh.lt e) (fun e1=>h.dj g e e1))
 · rcases hv with e1|⟨g',e1,hg⟩
   · rw [e1];exact h.dj g e
   · intro e2;have:=h.sh.lt e;rw [e1] at e2;injection e2 with e2
     omega
end
structure GrowF (w w':World) (F F':Nat→Prop):Prop where
 kept:Kept F w w'
 fp:∀ i,F' i→F i∨w.heap.size≤i
theorem GrowF.trans {a b c:World}{F G H:Nat→Prop} (h:GrowF a b F G) (k:GrowF b c G H):GrowF a c F H:=
 ⟨h.kept.trans k.kept (fun i hi hf=>(h.fp i hf).elim id (fun e=>by omega)),fun i hi=>(k.fp i hi).elim (fun e=>h.fp i e) (fun e=>.inr (Nat.le_trans h.kept.size e))⟩
theorem GrowF.below {a b:World} (F:Nat→Prop) (h:Below a.heap.size a b):GrowF a b F F:=⟨Below.kept h,fun _ h=>.inl h⟩
end Go.Proofs.YtlmlljlappjjjaaGreatDoor
