/- A table of patterns in memory, and how it changes. -/
import Derived.Test.YtlmlljlappjjjaaGreatDoorSBin
namespace Go.Proofs.YtlmlljlappjjjaaGreatDoor
set_option maxRecDepth 20000
set_option maxHeartbeats 16000000
open Go.RowKit Go.Maps
structure Tab0 (w:World) (t:Nat) (Q1 Q2:List (B×Int)) (A:List B) (m:Option Nat) (v1 v2:Value) (L:List B):Prop where
 bx:w.heap[t]?=some (.cells #[.map m,v1,v2] 125 (0,0))
 mp:∀ k,m=some k→MapK w k Q1
 no:m=none→Q1= []
 sh:OwnS w 0 v1 L
 al:OwnS w 0 v2 A
 dj:∀ g,v1.ownBlock=some g→v2.ownBlock≠some g
 srt:SrtO L
 mem:∀ s,s∈L↔∃ p∈Q2,shapeS (patL p.1)=s
 lb:∀ s∈L,s.length≤254
 ll:L.length≤Q2.length
def Ft (t:Nat) (m:Option Nat) (v1 v2:Value):Nat→Prop:=fun i=>i=t∨m=some i∨v1.ownBlock=some i∨v2.ownBlock=some i
theorem OwnS.lt {w:World}{b g:Nat}{v:Value}{l:List B} (h:OwnS w b v l) (e:v.ownBlock=some g):g<w.heap.size:=(ownS_R h).lt e
theorem OwnS.keepB {w w':World}{b:Nat}{v:Value}{l:List B} (h:OwnS w b v l) (hb:∀ g,v.ownBlock=some g→w'.heap[g]?=w.heap[g]?):OwnS w' b v l:=ownR_S ((ownS_R h).keepB hb)
theorem OwnS.type {w:World}{b g:Nat}{v:Value}{l:List B} (h:OwnS w b v l) (e:v.ownBlock=some g):∃ cs,w.heap[g]?=some (.cells cs 9 (0,0)):=by
 rcases h.2 with ⟨h1,_⟩|⟨g',cap,cur,h1,h2,h3,h4⟩
 · rw [h1] at e;cases e
 · rw [h1] at e;obtain rfl:g'=g:=by simpa [Value.ownBlock] using e
   exact⟨cur,h3⟩
section
variable {w w' : World} {t : Nat} {Q1 Q2 : List (B × Int)} {A : List B} {m : Option Nat} {v1 v2 : Value} {L : List B}
theorem Tab0.keep (h:Tab0 w t Q1 Q2 A m v1 v2 L) (hk:∀ i,Ft t m v1 v2 i→i<w.heap.size→w'.heap[i]?=w.heap[i]?):Tab0 w' t Q1 Q2 A m v1 v2 L:=
 ⟨(hk t (.inl rfl) (lt_of_heap h.bx)).trans h.bx,fun k e=>(h.mp k e).keep (hk k (.inr (.inl e)) (h.mp k e).lt),h.no,h.sh.keepB (fun g e=>hk g (.inr (.inr (.inl e))) (h.sh.lt e)),h.al.keepB (fun g e=>hk g (.inr (.inr (.inr e))) (h.al.lt e)),h.dj,h.srt,h.mem,h.lb,h.ll⟩
theorem Tab0.next (h:Tab0 w t Q1 Q2 A m v1 v2 L) (hb:Below w.heap.size w w'):Tab0 w' t Q1 Q2 A m v1 v2 L:=h.keep fun i _ hi=>hb.block i hi
theorem Tab0.lt (h:Tab0 w t Q1 Q2 A m v1 v2 L) {i:Nat} (hi:Ft t m v1 v2 i):i<w.heap.size:=by
 rcases hi with rfl|e|e|e
 · exact lt_of_heap h.bx
 · exact(h.mp i e).lt
 · exact h.sh.lt e
 · exact h.al.lt e
theorem Tab0.ne1 (h:Tab0 w t Q1 Q2 A m v1 v2 L):v1.ownBlock≠some t:=fun e=>by
 obtain⟨cs,hc⟩:=h.sh.type e;rw [h.bx] at hc;injection hc with hc
 injection hc with _ hc _
 exact absurd hc (by decide)
theorem Tab0.ne2 (h:Tab0 w t Q1 Q2 A m v1 v2 L):v2.ownBlock≠some t:=fun e=>by
 obtain⟨cs,hc⟩:=h.al.type e;rw [h.bx] at hc;injection hc with hc
 injection hc with _ hc _
 exact absurd hc (by decide)
theorem Tab0.nem (h:Tab0 w t Q1 Q2 A m v1 v2 L):m≠some t:=fun e=>(h.mp t e).nocell h.bx
theorem Tab0.nem1 (h:Tab0 w t Q1 Q2 A m v1 v2 L) {k:Nat} (e:m=some k):v1.ownBlock≠some k:=fun e1=>by
 obtain⟨cs,hc⟩:=h.sh.type e1;exact(h.mp k e).nocell hc
theorem Tab0.nem2 (h:Tab0 w t Q1 Q2 A m v1 v2 L) {k:Nat} (e:m=some k):v2.ownBlock≠some k:=fun e1=>by
 obtain⟨cs,hc⟩:=h.al.type e1;exact(h.mp k e).nocell hc
theorem box3 {a b c:Value}{T:TypeId} (h:w.heap[t]?=some (.cells #[a,b,c] T (0,0))):w.cell? ⟨t,0,none⟩=some a∧w.cell? ⟨t,1,none⟩=some b∧w.cell? ⟨t,2,none⟩=some c∧∀ o,w.frozen? ⟨t,o,none⟩=false:=by
 refine⟨?_,?_,?_,fun o=>?_⟩
 · simp only [World.cell?,h];rfl
 · simp only [World.cell?,h];rfl
 · simp only [World.cell?,h];rfl
 · simp only [World.frozen?,h];simp
theorem Tab0.cells (h:Tab0 w t Q1 Q2 A m v1 v2 L):w.cell? ⟨t,0,none⟩=some (.map m)∧w.cell? ⟨t,1,none⟩=some v1∧w.cell? ⟨t,2,none⟩=some v2∧∀ o,w.frozen? ⟨t,o,none⟩=false:=box3 h.bx
theorem Tab0.new (w:World):Tab0 (w.alloc (.cells #[.map none,.slice none 0 0,.slice none 0 0] 125 (0,0))) w.heap.size [] [] [] none (.slice none 0 0) (.slice none 0 0) []:=
 ⟨heap_alloc_new w _,fun k e=>(by cases e),fun _=>rfl,OwnS.nil _ _,OwnS.nil _ _,fun g e=>(by cases e),List.Pairwise.nil,fun s=>(by simp),fun s hs=>(by simp at hs),Nat.le_refl _⟩
theorem Tab0.make (h:Tab0 w t Q1 Q2 A none v1 v2 L):Tab0 ((w.alloc (.map #[] 0)).setCell ⟨t,0,none⟩ (.map (some w.heap.size))) t Q1 Q2 A (some w.heap.size) v1 v2 L:=by
 have hl:=lt_of_heap h.bx;have hn:=below_new w (.map #[] 0);have hks:=(kept_set (w.alloc (.map #[] 0)) t 0 (.map (some w.heap.size)));have hq:=h.no rfl;subst hq;have hb2:((w.alloc (.map #[] 0)).setCell ⟨t,0,none⟩ (.map (some w.heap.size))).heap[t]?=some (.cells #[.map (some w.heap.size),v1,v2] 125 (0,0)):=by
  rw [heap_set1 ((hn.block t hl).trans h.bx)];rfl
 refine⟨hb2,fun k e=>?_,fun e=>(by cases e),h.sh.keepB (fun g e=>?_),h.al.keepB (fun g e=>?_),h.dj,h.srt,h.mem,h.lb,h.ll⟩
 · injection e with e
   subst e;exact(MapK.made w).keep (hks.block _ (by simp) (fun e=>by omega))
 · have:=h.sh.lt e;exact(hks.block g (by simp;omega) (fun e1=>h.ne1 (e1 ▸ e))).trans (hn.block g this)
 · have:=h.al.lt e;exact(hks.block g (by simp;omega) (fun e1=>h.ne2 (e1 ▸ e))).trans (hn.block g this)
theorem make_kept (w:World) (t:Nat):Kept (fun i=>i=t) w ((w.alloc (.map #[] 0)).setCell ⟨t,0,none⟩ (.map (some w.heap.size))):=(Below.kept (below_new w _)).trans (kept_set _ t 0 _) (fun _ _ h=>h)
theorem Tab0.put {km:Nat}{q:B×Int} (h:Tab0 w t Q1 Q2 A (some km) v1 v2 L) (hm:MapK w' km (Q1++ [q])) (hg:w.grownBy w' (some km)):Tab0 w' t (Q1++ [q]) Q2 A (some km) v1 v2 L:=by
 have hk:=kept_grown hg;refine⟨(hk.block t (lt_of_heap h.bx) (fun e=>h.nem e)).trans h.bx,fun k e=>?_,fun e=>(by cases e),h.sh.keepB (fun g e=>hk.block g (h.sh.lt e) (fun e1=>h.nem1 e1 e)),h.al.keepB (fun g e=>hk.block g (h.al.lt e) (fun e1=>h.nem2 e1 e)),h.dj,h.srt,h.mem,h.lb,h.ll⟩;injection e with e
 subst e;exact hm
theorem Tab0.was {q:B×Int} (h:Tab0 w t Q1 Q2 A m v1 v2 L) (hs:shapeS (patL q.1)∈L):Tab0 w t Q1 (Q2++ [q]) A m v1 v2 L:=by
 refine⟨h.bx,h.mp,h.no,h.sh,h.al,h.dj,h.srt,fun s=>?_,h.lb,by rw [List.length_append];have:=h.ll;omega⟩;rw [h.mem s];constructor
 · rintro ⟨p,hp,e⟩;exact⟨p,List.mem_append.2 (.inl hp),e⟩
 · rintro ⟨p,hp,e⟩;rcases List.mem_append.1 hp with hp|hp
   · exact⟨p,hp,e⟩
   · simp at hp;subst hp;rw [e] at hs;exact(h.mem s).1 hs
theorem Tab0.shape {q:B×Int}{v':Value} (h:Tab0 w t Q1 Q2 A m v1 v2 L) (hs:shapeS (patL q.1)∉L) (hl:(shapeS (patL q.1)).length≤254) (ho:OwnS w' 0 v' (insO (shapeS (patL q.1)) L)) (hk:Kept (fun i=>v1.ownBlock=some i) w w') (hv:v'.ownBlock=v1.ownBlock∨∃ g,v'.ownBlock=some g∧w.heap.size≤g):
  Tab0 (w'.setCell ⟨t,1,none⟩ v') t Q1 (Q2++ [q]) A m v' v2 (insO (shapeS (patL q.1)) L):=by
 have hkt:=hk.block t (lt_of_heap h.bx) h.ne1;have hb1:w'.heap[t]?=some (.cells #[.map m,v1,v2] 125 (0,0)):=hkt.trans h.bx;have hb2:(w'.setCell ⟨t,1,none⟩ v').heap[t]?=some (.cells #[.map m,v',v2] 125 (0,0)):=by
  rw [heap_set1 hb1];rfl
 have hks:=kept_set w' t 1 v';have hvt:v'.ownBlock≠some t:=by
  rcases hv with e|⟨g,e,hg⟩
  · rw [e];exact h.ne1
  · rw [e];intro e1;have:=lt_of_heap h.bx;injection e1 with e1
    omega
 have hsz:=hk.size;refine⟨hb2,fun k e=>?_,h.no,ho.keepB (fun g e=>hks.block g (ho.lt e) (fun e1=>hvt (e1 ▸ e))),h.al.keepB (fun g e=>?_),fun g e=>?_,ins_srt h.srt hs,fun s=>?_,fun s hm=>?_,?_⟩
 · refine((h.mp k e).keep (hk.block k (h.mp k e).lt (h.nem1 e))).keep (hks.block k (Nat.lt_of_lt_of_le (h.mp k e).lt hsz) (fun e1=>h.nem (e1 ▸ e)))
 · exact(hks.block g (Nat.lt_of_lt_of_le (h.al.lt e) hsz) (fun e1=>h.ne2 (e1 ▸ e))).trans (hk.block g (h.al.lt e) (fun e1=>h.dj g e1 e))
 · rcases hv with e1|⟨g',e1,hg⟩
   · rw [e1] at e;exact h.dj g e
   · intro e2;have:=h.al.lt e2;rw [e1] at e;injection e with e
     omega
 · rw [ins_mem,h.mem s];constructor
   · rintro (e|⟨p,hp,e⟩)
     · exact⟨q,by simp,e.symm⟩
     · exact⟨p,List.mem_append.2 (.inl hp),e⟩
   · rintro ⟨p,hp,e⟩;rcases List.mem_append.1 hp with hp|hp
     · exact .inr ⟨p,hp,e⟩
     · simp at hp;subst hp;exact .inl e.symm
 · rcases ins_mem.1 hm with e|e
   · rw [e];exact hl
   · exact h.lb s e
 · rw [ins_len _ _ h.srt,List.length_append];have:=h.ll;simp;omega
theorem Tab0.text {x:B}{v':Value} (h:Tab0 w t Q1 Q2 A m v1 v2 L) (ho:OwnS w' 0 v' (A++ [x])) (hk:Kept (fun i=>v2.ownBlock=some i) w w') (hv:v'.ownBlock=v2.ownBlock∨∃ g,v'.ownBlock=some g∧w.heap.size≤g):
  Tab0 (w'.setCell ⟨t,2,none⟩ v') t Q1 Q2 (A++ [x]) m v1 v' L:=by
 have hkt:=hk.block t (lt_of_heap h.bx) h.ne2;have hb1:w'.heap[t]?=some (.cells #[.map m,v1,v2] 125 (0,0)):=hkt.trans h.bx;have hb2:(w'.setCell ⟨t,2,none⟩ v').heap[t]?=some (.cells #[.map m,v1,v'] 125 (0,0)):=by
  rw [heap_set1 hb1];rfl
 have hks:=kept_set w' t 2 v';have hvt:v'.ownBlock≠some t:=by
  rcases hv with e|⟨g,e,hg⟩
  · rw [e];exact h.ne2
  · rw [e];intro e1;have:=lt_of_heap h.bx;injection e1 with e1
    omega
 have hsz:=hk.size;refine⟨hb2,fun k e=>?_,h.no,h.sh.keepB (fun g e=>?_),ho.keepB (fun g e=>hks.block g (ho.lt e) (fun e1=>hvt (e1 ▸ e))),fun g e=>?_,h.srt,h.mem,h.lb,h.ll⟩
 · refine((h.mp k e).keep (hk.block k (h.mp k e).lt (h.nem2 e))).keep (hks.block k (Nat.lt_of_lt_of_le (h.mp k e).lt hsz) (fun e1=>h.nem (e1 ▸ e)))
 · exact(hks.block g (Nat.lt_of_lt_of_le (h.sh.lt e) hsz) (fun e1=>h.ne1 (e1 ▸ e))).trans (hk.block g (h.sh.lt e) (fun e1=>h.dj g e e1))
 · rcases hv with e1|⟨g',e1,hg⟩
   · rw [e1];exact h.dj g e
   · intro e2;have:=h.sh.lt e;rw [e1] at e2;injection e2 with e2
     omega
end
structure GrowF (w w':World) (F F':Nat→Prop):Prop where
 kept:Kept F w w'
 fp:∀ i,F' i→F i∨w.heap.size≤i
theorem GrowF.trans {a b c:World}{F G H:Nat→Prop} (h:GrowF a b F G) (k:GrowF b c G H):GrowF a c F H:=
 ⟨h.kept.trans k.kept (fun i hi hf=>(h.fp i hf).elim id (fun e=>by omega)),fun i hi=>(k.fp i hi).elim (fun e=>h.fp i e) (fun e=>.inr (Nat.le_trans h.kept.size e))⟩
theorem GrowF.below {a b:World} (F:Nat→Prop) (h:Below a.heap.size a b):GrowF a b F F:=⟨Below.kept h,fun _ h=>.inl h⟩
theorem wp_mapUpdate {P:Program}{w w':World}{o:Oper}{a:Act}{K:Act→World→Prop}{Q:Exit→Act→World→Prop}{m x v:Operand}{t:TypeId}{mv xv vv:Value} (hop:o.op=Op.mapUpdate t m x v) (hm:a.eval m=mv) (hx:a.eval x=xv) (hv:a.eval v=vv) (hrun:(Instr.mapUpdate t mv xv vv).run P w= .ok () w') (hK:K (a.put o.dst undef) w'):Oper.wp P o a w K Q:=by
 unfold Oper.wp;simp [execOp,hop,hm,hx,hv,hrun,Result.andThen];exact hK
theorem map_none (w:World):(binOp .eql 123 (.map none) (.map none)).run Tryz.prog w= .ok (.bool true) w:=by kernel_rfl
theorem map_some (k:Nat) (w:World):(binOp .eql 123 (.map (some k)) (.map none)).run Tryz.prog w= .ok (.bool false) w:=by kernel_rfl
structure KpS (U:World) (t b:Nat) (m:Option Nat) (v1:Value) (SA SB:ByteArray):Prop where
 a0:U.cell? ⟨t,0,none⟩=some (.map m)
 a1:U.cell? ⟨t,1,none⟩=some v1
 a2:U.cell? ⟨b,0,none⟩=some (.string SA)
 a3:U.cell? ⟨b,1,none⟩=some (.string SB)
theorem Tab0.kps {w:World}{t b:Nat}{Q1 Q2:List (B×Int)}{A:List B}{m:Option Nat}{v1 v2:Value}{L:List B}{SA SB:ByteArray} (h:Tab0 w t Q1 Q2 A m v1 v2 L) (hb:KBox w b SA SB):KpS w t b m v1 SA SB:=⟨h.cells.1,h.cells.2.1,hb.cells.1,hb.cells.2⟩
theorem KBox.keep {w w':World}{g:Nat}{A C:ByteArray} (h:KBox w g A C) (hk:w'.heap[g]?=w.heap[g]?):KBox w' g A C:=hk.trans h
theorem kps_kept {U V:World}{t b:Nat}{m:Option Nat}{v1:Value}{SA SB:ByteArray} (h:KpS U t b m v1 SA SB) (ht:V.heap[t]?=U.heap[t]?) (hb:V.heap[b]?=U.heap[b]?):KpS V t b m v1 SA SB:=⟨cell_same h.a0 ht,cell_same h.a1 ht,cell_same h.a2 hb,cell_same h.a3 hb⟩
def KeepAns (w:World) (t:Nat) (Q:List (B×Int)) (A:List B) (m:Option Nat) (v1 v2:Value) (q:B×Int) (e:Ending) (w':World):Prop:=e= .returned (.tuple #[])∧∃ m' v1' L',Tab0 w' t (Q++ [q]) (Q++ [q]) A m' v1' v2 L'∧GrowF w w' (Ft t m v1 v2) (Ft t m' v1' v2)
theorem keep_some {w:World}{t:Nat}{Q:List (B×Int)}{A:List B}{km:Nat}{v1 v2:Value}{L:List B} (h:Tab0 w t Q Q A (some km) v1 v2 L) (hQ:Q.length≤64) (q:B×Int) {a b:B} (hk:keyS (patL q.1)=(a,b)) (ha:a.length≤254) (hb:b.length≤100000) (hno:idsF Q (a,b)=none) (hw:(Lit.int .i64 q.2).wf=true):
  Calls Tryz.prog 136 #[.pointer (some ⟨t,0,none⟩),keyV a b,.int .i64 q.2] w fun e w'=>KeepAns w t Q A (some km) v1 v2 q e w':=by
 have hsa:shapeS (patL q.1)=a:=congrArg Prod.fst hk;have hsk:shK a b:=⟨by omega,hb⟩;have hrunA:∀ (W:World) (k:Nat),MapK W k Q→∃ w',(Instr.mapUpdate 123 (.map (some k)) (keyV a b) (.int .i64 q.2)).run Tryz.prog W= .ok () w'∧MapK w' k (Q++ [q])∧W.grownBy w' (some k):=fun W k hm=>hm.store (by omega) hk hsk hno hw
 obtain⟨p,n,c,rfl⟩:=own_slice3 h.sh;obtain rfl:n=L.length:=row_lenH h.sh;obtain⟨n,hn⟩:∃ n,L.length=n:=⟨_,rfl⟩;have hnn:n≤64:=by have:=h.ll;omega
 have HBs:=hid (fun (W:World) (hT:LbAt W p L)=>bsearch_any L a p n c hn (by omega) h.srt h.lb ha W hT);have HIn:=hid (fun (W:World) (vb:Nat) (ho:OwnS W 0 (.slice p n c) L) (hv:W.heap[vb]?=some (.cells #[.string (str a)] 9 (0,0))) (hvb:(Value.slice p n c).ownBlock≠some vb)=>ins_any L a (belowO a L) vb p n c hn (by rw [←hn];exact(below_at h.srt).1) (by omega) W ho hv hvb);unfold keyV at hrunA ⊢;obtain⟨SA,hSA⟩:∃ S,str a=S:=⟨_,rfl⟩;obtain⟨SB,hSB⟩:∃ S,str b=S:=⟨_,rfl⟩;rw [hSA] at HBs HIn;rw [hSA,hSB] at hrunA ⊢;rw [hn] at h ⊢;have HBx:=hid (KBox.new w SA SB);have HT0:=hid (h.next (below_new w (.cells #[.string SA,.string SB] 155 (0,0))));have HH:=hid h;have htb:=lt_of_heap h.bx;have HSr:=hid h.srt;obtain⟨hc0,hc1,hc2,hfz⟩:=HT0.out.cells;have hme:=map_some km;have HGU:=hid (GrowF.below (Ft t (some km) (.slice p n c) v2) (below_new w (.cells #[.string SA,.string SB] 155 (0,0))));obtain⟨b0,hb0⟩:∃ b0,w.heap.size=b0:=⟨_,rfl⟩;rw [hb0] at HBx;clear h;go_enter Tryz.func136,Tryz.ntmps136;go_wp2;obtain⟨U,hU⟩:∃ U,w.alloc (.cells #[.string SA,.string SB] 155 (0,0))=U:=⟨_,rfl⟩;rw [hU] at HT0 HGU HBx hc0 hc1 hc2 hfz ⊢;have HTU:=HT0;have HBU:=HBx;clear HT0 HBx hc0 hc1 hc2 hfz hU hme;have HTD:=hid (HTU.out.next (below_drewH U 1));obtain⟨w2,hrun,hm2,hg2⟩:=hrunA U.drew km (HTD.out.mp km rfl);have HRun:=hid hrun;have HT2:=hid (HTD.out.put hm2 hg2);have HBD:=hid (HBU.out.next (below_drewH U 1));have HB2:=hid (HBD.out.keep (hg2.block b0 (lt_of_heap HBD.out) (fun e=>by injection e with e;subst e;exact(HTD.out.mp _ rfl).nocell HBD.out)));have HG2:=hid (HGU.out.trans ((GrowF.below _ (below_drewH U 1)).trans ⟨(kept_grown hg2).mono (fun i _ e=>.inr (.inl e)),fun i hi=>.inl hi⟩));have hS0x:=HTD.out.kps HBD.out;have hS1x:=HT2.out.kps HB2.out;clear hrun hm2 hg2 hrunA;refine wp_region_noPanic ?_;refine any_begin 7 (by kernel_rfl) (by kernel_rfl) ?_;refine late_begin (fun U=>KpS U t b0 (some km) (.slice p n c) SA SB) (fun _=>false) hS0x (fun hS=>?_);refine ltk (i:=0) (some 17) rfl rfl (v:= ?v0x) ?hy0x hS ?rest0x
 case hy0x=>intro w0 hSw;obtain⟨a0,a1,a2,a3⟩:=hSw;go_simp;try with_reducible rfl
 simp only [Act.put,sA,sB,sC];refine ltk (i:=1) (some 18) rfl rfl (v:= ?v1x) ?hy1x hS ?rest1x
 case hy1x=>intro w0 hSw;obtain⟨a0,a1,a2,a3⟩:=hSw;go_simp;try with_reducible rfl
 simp only [Act.put,sA,sB,sC];refine ltk (i:=2) (some 19) rfl rfl (v:= ?v2x) ?hy2x hS ?rest2x
 case hy2x=>intro w0 hSw;obtain⟨a0,a1,a2,a3⟩:=hSw;go_simp;try with_reducible rfl
 simp only [Act.put,sA,sB,sC];refine ltk (i:=3) (some 20) rfl rfl (v:= ?v3x) ?hy3x hS ?rest3x
 case hy3x=>intro w0 hSw;obtain⟨a0,a1,a2,a3⟩:=hSw;go_simp;try with_reducible rfl
 simp only [Act.put,sA,sB,sC];refine ltk (i:=4) (some 21) rfl rfl (v:= ?v4x) ?hy4x hS ?rest4x
 case hy4x=>intro w0 hSw;obtain⟨a0,a1,a2,a3⟩:=hSw;go_simp;try with_reducible rfl
 simp only [Act.put,sA,sB,sC];refine ltk (i:=5) (some 22) rfl rfl (v:= ?v5x) ?hy5x hS ?rest5x
 case hy5x=>intro w0 hSw;obtain⟨a0,a1,a2,a3⟩:=hSw;go_simp;try with_reducible rfl
 simp only [Act.put,sA,sB,sC];refine wpAnyD_one (i:=6) (by kernel_rfl) rfl (fun K hK=>?_);rw [if_pos (by rfl)];refine wp_mapUpdate rfl rfl rfl rfl HRun.out ?_;refine hK _ _ ⟨fun _=>hS1x,?_⟩;clear hK K;simp only [Act.put];refine late_done (by kernel_rfl) ?_ _;refine NoPanic.normal ?_;obtain⟨hd0,hd1,hd2,hdz⟩:=HT2.out.cells;obtain⟨he0,he1⟩:=HB2.out.cells;have HT2l:=hid HT2.out.sh.lb;cases hin:decide (a∈L) with
 |true=>
  rw [hin] at HBs;go_wp2;go_quiet ((go_at_call 157;exact Calls.quiet_of_same (HBs.out _ (by first|exact HT2l.out|exact HT2l.out.next (below_drewH _ _)))));have hbX:Below w2.heap.size w2 (w2.drewN nq):=below_drewH w2 nq;have HFin:=hid (HT2.out.next hbX);have HG3:=hid (HG2.out.trans (GrowF.below _ hbX));go_wp2;refine bodyPost_end (results_none rfl _ _ _) rfl ?_;exact⟨rfl,some km,.slice p n c,L,HFin.out.was (by rw [hsa];exact of_decide_eq_true hin),HG3.out⟩
 |false=>
  rw [hin] at HBs;go_wp2;go_quiet ((go_at_call 157;exact Calls.quiet_of_same (HBs.out _ (by first|exact HT2l.out|exact HT2l.out.next (below_drewH _ _)))));have hbX:Below w2.heap.size w2 (w2.drewN nq).drew:=⟨rfl,rfl,rfl,Nat.le_refl _,fun _ _=>rfl⟩;have HT3:=hid (HT2.out.next hbX);have HB3:=hid (HB2.out.next hbX);have HG3:=hid (HG2.out.trans (GrowF.below _ hbX));go_wp2;obtain⟨X,hX⟩:∃ X,(w2.drewN nq).drew=X:=⟨_,rfl⟩;rw [hX] at HT3 HB3 HG3;have hS2x:=HT3.out.kps HB3.out;have hnv:=below_new X (.cells #[.string SA] 9 (0,0));have HT4:=hid (HT3.out.next hnv);have HB4:=hid (HB3.out.next hnv);have HG4:=hid (HG3.out.trans (GrowF.below _ hnv));have hS3x:=HT4.out.kps HB4.out;have HIv:=hid (HIn.out _ X.heap.size HT4.out.sh (heap_alloc_new X _) (fun e=>by have:=HT3.out.sh.lt e;omega));obtain⟨Y,hY⟩:∃ Y,X.alloc (.cells #[.string SA] 9 (0,0))=Y:=⟨_,rfl⟩;rw [hY] at HT4 HB4 HG4 hS3x HIv;have HYe:=hid hY;have hbS:=fun g (e:(Value.slice p n c).ownBlock=some g)=>HT4.out.sh.lt e
  refine wp_region_noPanic ?_;refine any_begin 13 (by kernel_rfl) (by kernel_rfl) ?_;rw [hX];refine late_begin (fun U=>KpS U t b0 (some km) (.slice p n c) SA SB) (fun i=>i== 12) hS2x (fun hS=>?_);refine ltk (i:=0) (some 35) rfl rfl (v:= ?v0y) ?hy0y hS ?rest0y
  case hy0y=>intro w0 hSw;obtain⟨a0,a1,a2,a3⟩:=hSw;go_simp;try with_reducible rfl
  simp only [Act.put,sA,sB,sC];refine ltk (i:=1) (some 36) rfl rfl (v:= ?v1y) ?hy1y hS ?rest1y
  case hy1y=>intro w0 hSw;obtain⟨a0,a1,a2,a3⟩:=hSw;go_simp;try with_reducible rfl
  simp only [Act.put,sA,sB,sC];refine ltk (i:=2) (some 37) rfl rfl (v:= ?v2y) ?hy2y hS ?rest2y
  case hy2y=>intro w0 hSw;obtain⟨a0,a1,a2,a3⟩:=hSw;go_simp;try with_reducible rfl
  simp only [Act.put,sA,sB,sC];refine ltk (i:=3) (some 38) rfl rfl (v:= ?v3y) ?hy3y hS ?rest3y
  case hy3y=>intro w0 hSw;obtain⟨a0,a1,a2,a3⟩:=hSw;go_simp;try with_reducible rfl
  simp only [Act.put,sA,sB,sC];refine ltk (i:=4) (some 39) rfl rfl (v:= ?v4y) ?hy4y hS ?rest4y
  case hy4y=>intro w0 hSw;obtain⟨a0,a1,a2,a3⟩:=hSw;go_simp;try with_reducible rfl
  simp only [Act.put,sA,sB,sC];refine ltk (i:=5) (some 40) rfl rfl (v:= ?v5y) ?hy5y hS ?rest5y
  case hy5y=>intro w0 hSw;obtain⟨a0,a1,a2,a3⟩:=hSw;go_simp;try with_reducible rfl
  simp only [Act.put,sA,sB,sC];refine ltk (i:=6) (some 41) rfl rfl (v:= ?v6y) ?hy6y hS ?rest6y
  case hy6y=>intro w0 hSw;obtain⟨a0,a1,a2,a3⟩:=hSw;go_simp;try with_reducible rfl
  simp only [Act.put,sA,sB,sC];refine ltk (i:=7) (some 42) rfl rfl (v:= ?v7y) ?hy7y hS ?rest7y
  case hy7y=>intro w0 hSw;obtain⟨a0,a1,a2,a3⟩:=hSw;go_simp;try with_reducible rfl
  simp only [Act.put,sA,sB,sC];refine wpAnyD_one (i:=8) (by kernel_rfl) rfl (fun K hK=>?_);go_simp;try rw [hY]
  refine hK _ _ ⟨fun _=>hS3x,?_⟩;clear hK K;try simp only [Act.put,sA,sB,sC]
  refine wpAnyD_one (i:=9) (by kernel_rfl) rfl (fun K hK=>?_);go_simp;go_at_call 159
  (with_reducible refine HIv.out.mono ?_)
  rintro e w5 ⟨v5,rfl,ho5,hk5,hv5⟩;obtain⟨p5,n5,c5,rfl⟩:=own_slice3 ho5;have HO5:=hid ho5;have HK5:=hid hk5;have HV5:=hid hv5;have hS5x:KpS w5 t b0 (some km) (.slice p n c) SA SB:=kps_kept hS3x (hk5.block t (lt_of_heap HT4.out.bx) HT4.out.ne1) (hk5.block b0 (lt_of_heap HB4.out) (fun e=>by obtain⟨cs,hcs⟩:=HT4.out.sh.type e;rw [show _=_ from HB4.out] at hcs;injection hcs with hcs;injection hcs with _ hcs _;exact absurd hcs (by decide)));have hfz5:w5.frozen? ⟨t,1,none⟩=false:=(box3 ((hk5.block t (lt_of_heap HT4.out.bx) HT4.out.ne1).trans HT4.out.bx)).2.2.2 1;clear ho5 hk5 hv5;refine hK _ _ ⟨fun _=>hS5x,?_⟩;clear hK K;try simp only [Act.put,sA,sB,sC]
  refine wpAnyD_one (i:=10) (by kernel_rfl) rfl (fun K hK=>?_);go_simp;refine hK _ _ ⟨fun _=>hS5x,?_⟩;clear hK K;try simp only [Act.put,sA,sB,sC]
  refine wpAnyD_one (i:=11) (by kernel_rfl) rfl (fun K hK=>?_);go_simp;refine hK _ _ ⟨fun _=>hS5x,?_⟩;clear hK K;try simp only [Act.put,sA,sB,sC]
  refine wpAnyD_one (i:=12) (by kernel_rfl) rfl (fun K hK=>?_);rw [if_pos (by rfl)];have hq5:=hS5x.a1;go_simp;refine hK _ _ ⟨fun h=>(by cases h),?_⟩;clear hK K;try simp only [Act.put,sA,sB,sC]
  refine late_done (by kernel_rfl) ?_ _;refine NoPanic.normal ?_;go_wp2;refine bodyPost_end (results_none rfl _ _ _) rfl ?_;have hnin:shapeS (patL q.1)∉L:=by rw [hsa];exact of_decide_eq_false hin
  have hvv:(Value.slice p5 n5 c5).ownBlock=(Value.slice p n c).ownBlock∨∃ g,(Value.slice p5 n5 c5).ownBlock=some g∧Y.heap.size≤g:=HV5.out.imp id (fun e=>⟨_,e,Nat.le_refl _⟩);have hfin:=HT4.out.shape (q:=q) (w':=w5) (v':=.slice p5 n5 c5) hnin (by rw [hsa];exact ha) (by rw [hsa];exact HO5.out) HK5.out hvv;refine⟨rfl,some km,.slice p5 n5 c5,_,hfin,HG4.out.trans ⟨(HK5.out.mono (fun i _ e=>.inr (.inr (.inl e)))).trans (kept_set w5 t 1 _) (fun i _ e=>.inl e),fun i hi=>?_⟩⟩;rcases hi with e|e|e|e
  · exact .inl (.inl e)
  · exact .inl (.inr (.inl e))
  · rcases HV5.out with e1|e1
    · rw [e1] at e;exact .inl (.inr (.inr (.inl e)))
    · rw [e1] at e;injection e with e;exact .inr (by omega)
  · exact .inl (.inr (.inr (.inr e)))
theorem keep_none {w:World}{t:Nat}{Q:List (B×Int)}{A:List B}{v1 v2:Value}{L:List B} (h:Tab0 w t Q Q A none v1 v2 L) (hQ:Q.length≤64) (q:B×Int) {a b:B} (hk:keyS (patL q.1)=(a,b)) (ha:a.length≤254) (hb:b.length≤100000) (hno:idsF Q (a,b)=none) (hw:(Lit.int .i64 q.2).wf=true):
  Calls Tryz.prog 136 #[.pointer (some ⟨t,0,none⟩),keyV a b,.int .i64 q.2] w fun e w'=>KeepAns w t Q A none v1 v2 q e w':=by
 have hsa:shapeS (patL q.1)=a:=congrArg Prod.fst hk;have hsk:shK a b:=⟨by omega,hb⟩;have hrunA:∀ (W:World) (k:Nat),MapK W k Q→∃ w',(Instr.mapUpdate 123 (.map (some k)) (keyV a b) (.int .i64 q.2)).run Tryz.prog W= .ok () w'∧MapK w' k (Q++ [q])∧W.grownBy w' (some k):=fun W k hm=>hm.store (by omega) hk hsk hno hw
 obtain⟨p,n,c,rfl⟩:=own_slice3 h.sh;obtain rfl:n=L.length:=row_lenH h.sh;obtain⟨n,hn⟩:∃ n,L.length=n:=⟨_,rfl⟩;have hnn:n≤64:=by have:=h.ll;omega
 have HBs:=hid (fun (W:World) (hT:LbAt W p L)=>bsearch_any L a p n c hn (by omega) h.srt h.lb ha W hT);have HIn:=hid (fun (W:World) (vb:Nat) (ho:OwnS W 0 (.slice p n c) L) (hv:W.heap[vb]?=some (.cells #[.string (str a)] 9 (0,0))) (hvb:(Value.slice p n c).ownBlock≠some vb)=>ins_any L a (belowO a L) vb p n c hn (by rw [←hn];exact(below_at h.srt).1) (by omega) W ho hv hvb);unfold keyV at hrunA ⊢;obtain⟨SA,hSA⟩:∃ S,str a=S:=⟨_,rfl⟩;obtain⟨SB,hSB⟩:∃ S,str b=S:=⟨_,rfl⟩;rw [hSA] at HBs HIn;rw [hSA,hSB] at hrunA ⊢;rw [hn] at h ⊢;have HBx:=hid (KBox.new w SA SB);have HT0:=hid (h.next (below_new w (.cells #[.string SA,.string SB] 155 (0,0))));have HH:=hid h;have htb:=lt_of_heap h.bx;have HSr:=hid h.srt;have HTm:=hid HT0.out.make;have hmk:=make_kept (w.alloc (.cells #[.string SA,.string SB] 155 (0,0))) t;have hW0s:(w.alloc (.cells #[.string SA,.string SB] 155 (0,0))).heap.size=w.heap.size+1:=by simp
 have HBm:=hid (HBx.out.keep (hmk.block w.heap.size (by omega) (fun e=>by omega)));have HGU:=hid ((GrowF.below (Ft t none (.slice p n c) v2) (below_new w (.cells #[.string SA,.string SB] 155 (0,0)))).trans (G:=Ft t none (.slice p n c) v2) (H:=Ft t (some (w.alloc (.cells #[.string SA,.string SB] 155 (0,0))).heap.size) (.slice p n c) v2) ⟨hmk.mono (fun i _ e=>.inl e),fun i hi=>by
  rcases hi with e|e|e|e
  · exact .inl (.inl e)
  · injection e with e
    exact .inr (by omega)
  · exact .inl (.inr (.inr (.inl e)))
  · exact .inl (.inr (.inr (.inr e)))⟩)
 have hbA:=below_new (w.alloc (.cells #[.string SA,.string SB] 155 (0,0))) (.map #[] 0);obtain⟨hd0,hd1,hd2,hdz⟩:=(HT0.out.next hbA).cells;have hdz0:=hdz 0;obtain⟨hc0,hc1,hc2,hfz⟩:=HT0.out.cells;have hme:=map_none;have hmm:=@run_makeMap Tryz.prog;obtain⟨b0,hb0⟩:∃ b0,w.heap.size=b0:=⟨_,rfl⟩;rw [hb0] at HBm;obtain⟨W0,hW0⟩:∃ W0,w.alloc (.cells #[.string SA,.string SB] 155 (0,0))=W0:=⟨_,rfl⟩;rw [hW0] at HTm HBm HGU hd0 hd1 hd2 hdz hdz0 hc0 hc1 hc2 hfz;obtain⟨km,hkm⟩:∃ km,W0.heap.size=km:=⟨_,rfl⟩;rw [hkm] at HTm HBm HGU;clear h hmk hW0s hbA HBx HT0;go_enter Tryz.func136,Tryz.ntmps136;go_wp2;obtain⟨U,hU⟩:∃ U,(W0.alloc (.map #[] 0)).setCell ⟨t,0,none⟩ (.map (some km))=U:=⟨_,rfl⟩;rw [hU] at HTm HGU HBm ⊢;have HTU:=HTm;have HBU:=HBm;clear HTm HBm hd0 hd1 hd2 hdz hdz0 hc0 hc1 hc2 hfz hU hme hmm;have HTD:=hid (HTU.out.next (below_drewH U 1));obtain⟨w2,hrun,hm2,hg2⟩:=hrunA U.drew km (HTD.out.mp km rfl);have HRun:=hid hrun;have HT2:=hid (HTD.out.put hm2 hg2);have HBD:=hid (HBU.out.next (below_drewH U 1));have HB2:=hid (HBD.out.keep (hg2.block b0 (lt_of_heap HBD.out) (fun e=>by injection e with e;subst e;exact(HTD.out.mp _ rfl).nocell HBD.out)));have HG2:=hid (HGU.out.trans ((GrowF.below _ (below_drewH U 1)).trans ⟨(kept_grown hg2).mono (fun i _ e=>.inr (.inl e)),fun i hi=>.inl hi⟩));have hS0x:=HTD.out.kps HBD.out;have hS1x:=HT2.out.kps HB2.out;clear hrun hm2 hg2 hrunA;refine wp_region_noPanic ?_;refine any_begin 7 (by kernel_rfl) (by kernel_rfl) ?_;refine late_begin (fun U=>KpS U t b0 (some km) (.slice p n c) SA SB) (fun _=>false) hS0x (fun hS=>?_);refine ltk (i:=0) (some 17) rfl rfl (v:= ?v0x) ?hy0x hS ?rest0x
 case hy0x=>intro w0 hSw;obtain⟨a0,a1,a2,a3⟩:=hSw;go_simp;try with_reducible rfl
 simp only [Act.put,sA,sB,sC];refine ltk (i:=1) (some 18) rfl rfl (v:= ?v1x) ?hy1x hS ?rest1x
 case hy1x=>intro w0 hSw;obtain⟨a0,a1,a2,a3⟩:=hSw;go_simp;try with_reducible rfl
 simp only [Act.put,sA,sB,sC];refine ltk (i:=2) (some 19) rfl rfl (v:= ?v2x) ?hy2x hS ?rest2x
 case hy2x=>intro w0 hSw;obtain⟨a0,a1,a2,a3⟩:=hSw;go_simp;try with_reducible rfl
 simp only [Act.put,sA,sB,sC];refine ltk (i:=3) (some 20) rfl rfl (v:= ?v3x) ?hy3x hS ?rest3x
 case hy3x=>intro w0 hSw;obtain⟨a0,a1,a2,a3⟩:=hSw;go_simp;try with_reducible rfl
 simp only [Act.put,sA,sB,sC];refine ltk (i:=4) (some 21) rfl rfl (v:= ?v4x) ?hy4x hS ?rest4x
 case hy4x=>intro w0 hSw;obtain⟨a0,a1,a2,a3⟩:=hSw;go_simp;try with_reducible rfl
 simp only [Act.put,sA,sB,sC];refine ltk (i:=5) (some 22) rfl rfl (v:= ?v5x) ?hy5x hS ?rest5x
 case hy5x=>intro w0 hSw;obtain⟨a0,a1,a2,a3⟩:=hSw;go_simp;try with_reducible rfl
 simp only [Act.put,sA,sB,sC];refine wpAnyD_one (i:=6) (by kernel_rfl) rfl (fun K hK=>?_);rw [if_pos (by rfl)];refine wp_mapUpdate rfl rfl rfl rfl HRun.out ?_;refine hK _ _ ⟨fun _=>hS1x,?_⟩;clear hK K;simp only [Act.put];refine late_done (by kernel_rfl) ?_ _;refine NoPanic.normal ?_;obtain⟨hd0,hd1,hd2,hdz⟩:=HT2.out.cells;obtain⟨he0,he1⟩:=HB2.out.cells;have HT2l:=hid HT2.out.sh.lb;cases hin:decide (a∈L) with
 |true=>
  rw [hin] at HBs;go_wp2;go_quiet ((go_at_call 157;exact Calls.quiet_of_same (HBs.out _ (by first|exact HT2l.out|exact HT2l.out.next (below_drewH _ _)))));have hbX:Below w2.heap.size w2 (w2.drewN nq):=below_drewH w2 nq;have HFin:=hid (HT2.out.next hbX);have HG3:=hid (HG2.out.trans (GrowF.below _ hbX));go_wp2;refine bodyPost_end (results_none rfl _ _ _) rfl ?_;exact⟨rfl,some km,.slice p n c,L,HFin.out.was (by rw [hsa];exact of_decide_eq_true hin),HG3.out⟩
 |false=>
  rw [hin] at HBs;go_wp2;go_quiet ((go_at_call 157;exact Calls.quiet_of_same (HBs.out _ (by first|exact HT2l.out|exact HT2l.out.next (below_drewH _ _)))));have hbX:Below w2.heap.size w2 (w2.drewN nq).drew:=⟨rfl,rfl,rfl,Nat.le_refl _,fun _ _=>rfl⟩;have HT3:=hid (HT2.out.next hbX);have HB3:=hid (HB2.out.next hbX);have HG3:=hid (HG2.out.trans (GrowF.below _ hbX));go_wp2;obtain⟨X,hX⟩:∃ X,(w2.drewN nq).drew=X:=⟨_,rfl⟩;rw [hX] at HT3 HB3 HG3;have hS2x:=HT3.out.kps HB3.out;have hnv:=below_new X (.cells #[.string SA] 9 (0,0));have HT4:=hid (HT3.out.next hnv);have HB4:=hid (HB3.out.next hnv);have HG4:=hid (HG3.out.trans (GrowF.below _ hnv));have hS3x:=HT4.out.kps HB4.out;have HIv:=hid (HIn.out _ X.heap.size HT4.out.sh (heap_alloc_new X _) (fun e=>by have:=HT3.out.sh.lt e;omega));obtain⟨Y,hY⟩:∃ Y,X.alloc (.cells #[.string SA] 9 (0,0))=Y:=⟨_,rfl⟩;rw [hY] at HT4 HB4 HG4 hS3x HIv;have HYe:=hid hY;have hbS:=fun g (e:(Value.slice p n c).ownBlock=some g)=>HT4.out.sh.lt e
  refine wp_region_noPanic ?_;refine any_begin 13 (by kernel_rfl) (by kernel_rfl) ?_;rw [hX];refine late_begin (fun U=>KpS U t b0 (some km) (.slice p n c) SA SB) (fun i=>i== 12) hS2x (fun hS=>?_);refine ltk (i:=0) (some 35) rfl rfl (v:= ?v0y) ?hy0y hS ?rest0y
  case hy0y=>intro w0 hSw;obtain⟨a0,a1,a2,a3⟩:=hSw;go_simp;try with_reducible rfl
  simp only [Act.put,sA,sB,sC];refine ltk (i:=1) (some 36) rfl rfl (v:= ?v1y) ?hy1y hS ?rest1y
  case hy1y=>intro w0 hSw;obtain⟨a0,a1,a2,a3⟩:=hSw;go_simp;try with_reducible rfl
  simp only [Act.put,sA,sB,sC];refine ltk (i:=2) (some 37) rfl rfl (v:= ?v2y) ?hy2y hS ?rest2y
  case hy2y=>intro w0 hSw;obtain⟨a0,a1,a2,a3⟩:=hSw;go_simp;try with_reducible rfl
  simp only [Act.put,sA,sB,sC];refine ltk (i:=3) (some 38) rfl rfl (v:= ?v3y) ?hy3y hS ?rest3y
  case hy3y=>intro w0 hSw;obtain⟨a0,a1,a2,a3⟩:=hSw;go_simp;try with_reducible rfl
  simp only [Act.put,sA,sB,sC];refine ltk (i:=4) (some 39) rfl rfl (v:= ?v4y) ?hy4y hS ?rest4y
  case hy4y=>intro w0 hSw;obtain⟨a0,a1,a2,a3⟩:=hSw;go_simp;try with_reducible rfl
  simp only [Act.put,sA,sB,sC];refine ltk (i:=5) (some 40) rfl rfl (v:= ?v5y) ?hy5y hS ?rest5y
  case hy5y=>intro w0 hSw;obtain⟨a0,a1,a2,a3⟩:=hSw;go_simp;try with_reducible rfl
  simp only [Act.put,sA,sB,sC];refine ltk (i:=6) (some 41) rfl rfl (v:= ?v6y) ?hy6y hS ?rest6y
  case hy6y=>intro w0 hSw;obtain⟨a0,a1,a2,a3⟩:=hSw;go_simp;try with_reducible rfl
  simp only [Act.put,sA,sB,sC];refine ltk (i:=7) (some 42) rfl rfl (v:= ?v7y) ?hy7y hS ?rest7y
  case hy7y=>intro w0 hSw;obtain⟨a0,a1,a2,a3⟩:=hSw;go_simp;try with_reducible rfl
  simp only [Act.put,sA,sB,sC];refine wpAnyD_one (i:=8) (by kernel_rfl) rfl (fun K hK=>?_);go_simp;try rw [hY]
  refine hK _ _ ⟨fun _=>hS3x,?_⟩;clear hK K;try simp only [Act.put,sA,sB,sC]
  refine wpAnyD_one (i:=9) (by kernel_rfl) rfl (fun K hK=>?_);go_simp;go_at_call 159
  (with_reducible refine HIv.out.mono ?_)
  rintro e w5 ⟨v5,rfl,ho5,hk5,hv5⟩;obtain⟨p5,n5,c5,rfl⟩:=own_slice3 ho5;have HO5:=hid ho5;have HK5:=hid hk5;have HV5:=hid hv5;have hS5x:KpS w5 t b0 (some km) (.slice p n c) SA SB:=kps_kept hS3x (hk5.block t (lt_of_heap HT4.out.bx) HT4.out.ne1) (hk5.block b0 (lt_of_heap HB4.out) (fun e=>by obtain⟨cs,hcs⟩:=HT4.out.sh.type e;rw [show _=_ from HB4.out] at hcs;injection hcs with hcs;injection hcs with _ hcs _;exact absurd hcs (by decide)));have hfz5:w5.frozen? ⟨t,1,none⟩=false:=(box3 ((hk5.block t (lt_of_heap HT4.out.bx) HT4.out.ne1).trans HT4.out.bx)).2.2.2 1;clear ho5 hk5 hv5;refine hK _ _ ⟨fun _=>hS5x,?_⟩;clear hK K;try simp only [Act.put,sA,sB,sC]
  refine wpAnyD_one (i:=10) (by kernel_rfl) rfl (fun K hK=>?_);go_simp;refine hK _ _ ⟨fun _=>hS5x,?_⟩;clear hK K;try simp only [Act.put,sA,sB,sC]
  refine wpAnyD_one (i:=11) (by kernel_rfl) rfl (fun K hK=>?_);go_simp;refine hK _ _ ⟨fun _=>hS5x,?_⟩;clear hK K;try simp only [Act.put,sA,sB,sC]
  refine wpAnyD_one (i:=12) (by kernel_rfl) rfl (fun K hK=>?_);rw [if_pos (by rfl)];have hq5:=hS5x.a1;go_simp;refine hK _ _ ⟨fun h=>(by cases h),?_⟩;clear hK K;try simp only [Act.put,sA,sB,sC]
  refine late_done (by kernel_rfl) ?_ _;refine NoPanic.normal ?_;go_wp2;refine bodyPost_end (results_none rfl _ _ _) rfl ?_;have hnin:shapeS (patL q.1)∉L:=by rw [hsa];exact of_decide_eq_false hin
  have hvv:(Value.slice p5 n5 c5).ownBlock=(Value.slice p n c).ownBlock∨∃ g,(Value.slice p5 n5 c5).ownBlock=some g∧Y.heap.size≤g:=HV5.out.imp id (fun e=>⟨_,e,Nat.le_refl _⟩);have hfin:=HT4.out.shape (q:=q) (w':=w5) (v':=.slice p5 n5 c5) hnin (by rw [hsa];exact ha) (by rw [hsa];exact HO5.out) HK5.out hvv;refine⟨rfl,some km,.slice p5 n5 c5,_,hfin,HG4.out.trans ⟨(HK5.out.mono (fun i _ e=>.inr (.inr (.inl e)))).trans (kept_set w5 t 1 _) (fun i _ e=>.inl e),fun i hi=>?_⟩⟩;rcases hi with e|e|e|e
  · exact .inl (.inl e)
  · exact .inl (.inr (.inl e))
  · rcases HV5.out with e1|e1
    · rw [e1] at e;exact .inl (.inr (.inr (.inl e)))
    · rw [e1] at e;injection e with e;exact .inr (by omega)
  · exact .inl (.inr (.inr (.inr e)))
theorem keep_any {w:World}{t:Nat}{Q:List (B×Int)}{A:List B}{m:Option Nat}{v1 v2:Value}{L:List B} (h:Tab0 w t Q Q A m v1 v2 L) (hQ:Q.length≤64) (q:B×Int) {a b:B} (hk:keyS (patL q.1)=(a,b)) (ha:a.length≤254) (hb:b.length≤100000) (hno:idsF Q (a,b)=none) (hw:(Lit.int .i64 q.2).wf=true):
  Calls Tryz.prog 136 #[.pointer (some ⟨t,0,none⟩),keyV a b,.int .i64 q.2] w fun e w'=>KeepAns w t Q A m v1 v2 q e w':=by
 cases m with
 |none=>exact keep_none h hQ q hk ha hb hno hw
 |some km=>exact keep_some h hQ q hk ha hb hno hw
end Go.Proofs.YtlmlljlappjjjaaGreatDoor
