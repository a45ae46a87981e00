/- A twin's rows written over, behind New: the table stands. -/
import Derived.Test.YtlmlljlappjjjaaGreatDoorQDFind
namespace Go.Proofs.YtlmlljlappjjjaaGreatDoor
open Go.RowKit
theorem TabQ.out {b0:Nat}{w w':World}{t gh m:Nat}{C:QC} (h:TabQ b0 w t gh m C) (hs:b0≤w.heap.size) (hk:Kept (fun b=>b<b0) w w'):TabQ b0 w' t gh m C:=by
 obtain⟨O,vp,vr,ts,wv,es,hI,hl⟩:=h;refine⟨O,vp,vr,ts,wv,es,hI.step (F:=fun x=>x= .out) ⟨hk.mono (fun i _ hi=>?_),fun _ _=>rfl,fun b hb=>Nat.lt_of_lt_of_le (hI.lt b hb) hk.size,fun b h1 h2=>absurd h2 h1⟩ hs (fun x hx=>hx),hl⟩;exact Classical.byContradiction fun e=>by have:=hI.lo i e;omega
def StrAt (W:World) (g o:Nat):Prop:=(∃ s,W.cell? ⟨g,o,none⟩=some (.string s))∧∃ cs T,W.heap[g]?=some (.cells cs T (0,0))
theorem StrAt.fr {W:World}{g o:Nat} (h:StrAt W g o) (o':Nat):W.frozen? ⟨g,o',none⟩=false:=by
 obtain⟨_,cs,T,h⟩:=h;exact frozen_of_row W g o' cs T h
theorem StrAt.set {W:World}{g o g' o':Nat}{s:ByteArray} (h:StrAt W g o):StrAt (W.setCell ⟨g',o',none⟩ (.string s)) g o:=by
 obtain⟨⟨u,hu⟩,cs,T,hb⟩:=h;refine⟨?_,?_⟩
 · by_cases e:(⟨g',o',none⟩:Addr)=⟨g,o,none⟩
   · rw [e];exact⟨s,World.cell?_setCell_same _ _ _ hu⟩
   · exact⟨u,by rw [World.cell?_setCell_other _ _ _ _ e];exact hu⟩
 · by_cases e:g=g'
   · subst e;exact bk_set ⟨cs,T,hb⟩
   · exact⟨cs,T,by rw [RowKit.Below.heap_setCell W ⟨g',o',none⟩ _ g e];exact hb⟩
theorem StrAt.next {W W':World}{g o:Nat} (h:StrAt W g o) (hb:Below W.heap.size W W'):StrAt W' g o:=by
 obtain⟨⟨u,hu⟩,cs,T,hh⟩:=h;exact⟨⟨u,cell_keep hb hu⟩,cs,T,kB hb hh⟩
theorem slc_set {W:World}{g o g' o' n c:Nat}{p:Option Addr}{s:ByteArray} (h:W.cell? ⟨g,o,none⟩=some (.slice p n c)) (h':StrAt W g' o'):(W.setCell ⟨g',o',none⟩ (.string s)).cell? ⟨g,o,none⟩=some (.slice p n c):=by
 have hne:(⟨g',o',none⟩:Addr)≠⟨g,o,none⟩:=fun e=>by
  obtain⟨⟨u,hu⟩,_⟩:=h';rw [e,h] at hu;cases hu
 rw [World.cell?_setCell_other _ _ _ _ hne];exact h
structure MineW (w W:World) (b1:Nat) (gr:Nat) (l:List RtX):Prop where
 low:Below w.heap.size w W
 lo:w.heap.size≤gr
 hi:gr<b1
 sl:∀ (j:Nat) (x:RtX),l[j]?=some x→W.cell? ⟨gr,j*13+2,none⟩=some (.slice x.q x.r.ms.length x.k)
 pa:∀ (j:Nat) (x:RtX),l[j]?=some x→StrAt W gr (j*13+1)
 ms:∀ x∈l,∀ t,t<x.r.ms.length→∃ g,x.q=some ⟨g,0,none⟩∧w.heap.size≤g∧g<b1∧StrAt W g t
theorem MineW.set {w W:World}{b1 gr:Nat}{l:List RtX} (h:MineW w W b1 gr l) {g o:Nat}{s:ByteArray} (hs:StrAt W g o) (hg:w.heap.size≤g):MineW w (W.setCell ⟨g,o,none⟩ (.string s)) b1 gr l:=
 ⟨h.low.setCell hg (p:=⟨g,o,none⟩) _,h.lo,h.hi,fun j x hj=>slc_set (h.sl j x hj) hs,fun j x hj=>(h.pa j x hj).set,fun x hx t ht=>by
  obtain⟨g',e,h1,h2,h3⟩:=h.ms x hx t ht;exact⟨g',e,h1,h2,h3.set⟩⟩
theorem MineW.next {w W W':World}{b1 gr:Nat}{l:List RtX} (h:MineW w W b1 gr l) (hb:Below W.heap.size W W'):MineW w W' b1 gr l:=
 ⟨below_out h.low hb,h.lo,h.hi,fun j x hj=>cell_keep hb (h.sl j x hj),fun j x hj=>(h.pa j x hj).next hb,fun x hx t ht=>by
  obtain⟨g',e,h1,h2,h3⟩:=h.ms x hx t ht;exact⟨g',e,h1,h2,h3.next hb⟩⟩
theorem own_blk {w:World}{base sz:Nat}{T:TypeId}{n c L:Nat}{p:Option Addr}{cells:List Value} (h:w.ownsRow base T sz (.slice p n c) L cells) {g o:Nat} (e:p=some ⟨g,o,none⟩):o=0∧base≤g∧∃ cs T,w.heap[g]?=some (.cells cs T (0,0)):=by
 rcases h.2 with ⟨h1,_⟩|⟨g1,cap,cur,h1,h2,h3,h4⟩
 · rw [e] at h1;cases h1
 · rw [e] at h1;injection h1 with h1 _ _
   injection h1 with h1
   injection h1 with h1 h5 _
   subst h1;exact⟨h5,h2,cur,T,h3⟩
theorem MineW.of {w W:World}{p:Option Addr}{n c:Nat}{l:List RtX} (h:OwnL W w.heap.size (.slice p n c) l) (hb:Below w.heap.size w W) {x0:RtX} (h0:l[0]?=some x0):∃ gr,p=some ⟨gr,0,none⟩∧MineW w W W.heap.size gr l:=by
 obtain⟨gr,e,_⟩:=OwnR.at (sz:=13) (f:=rtXF) (fun _=>rfl) h.row h0;obtain⟨_,h1,cs,T,h2⟩:=own_blk h.row e;have hc:∀ (j:Nat) (x:RtX),l[j]?=some x→∀ (t:Nat) (u:Value),(rtXF x)[t]?=some u→W.cell? ⟨gr,j*13+t,none⟩=some u:=fun j x hj t u hu=>by
  obtain⟨g,e2,hc⟩:=OwnR.at (sz:=13) (f:=rtXF) (fun _=>rfl) h.row hj;rw [e] at e2;injection e2 with e2
  injection e2 with e2 _ _
  subst e2;have:=hc t u hu
  rwa [Nat.mul_comm 13 j] at this
 refine⟨gr,e,hb,h1,lt_of_heap h2,fun j x hj=>hc j x hj 2 _ rfl,fun j x hj=>⟨⟨_,hc j x hj 1 _ rfl⟩,cs,T,h2⟩,fun x hx t ht=>?_⟩;have hO:=h.ms x hx;obtain⟨y,hy⟩:∃ y,x.r.ms[t]?=some y:=⟨_,List.getElem?_eq_getElem ht⟩;obtain⟨g,o,e2,hcy⟩:=hO.at hy;obtain⟨rfl,h3,cs3,T3,h4⟩:=own_blk hO e2;rw [Nat.zero_add] at hcy;exact⟨g,e2,h3,lt_of_heap h4,⟨_,hcy⟩,cs3,T3,h4⟩
theorem rdfind_no {l:List RtX}{p:Option Addr}{n c:Nat} (hn:l.length=n) (hf:FineR (l.map RtX.r)) (hz:∀ x∈l,RtZP x) {host path method:B} (hh:host.length≤9223372036854775807) (hp:path.length≤4294967280) {k:Nat} (hN:FndNo (l.map RtX.r) host path method k) (w:World) (hmx:MxAt w) (hT:RtsAt w p l):Calls Tryz.prog 13 #[.agg #[.slice p n c],.string (str host),.string (str path),.string (str method)] w fun e w'=>e= .returned (.tuple #[foundV 0 (.slice none 0 0) [],.int .i64 (k:Int)])∧Below w.heap.size w w':=by
 refine(rdfind_any l p n c hn hf hz host path method hh hp w hmx hT).mono ?_;rintro e w' ⟨hb,⟨k',hno,_,h⟩|⟨i,F,m,q,d,hY,_,_⟩⟩
 · rw [no_det hN hno];exact⟨h,hb⟩
 · exact(yes_no hY hN).elim
theorem rdfind_yes {l:List RtX}{p:Option Addr}{n c:Nat} (hn:l.length=n) (hf:FineR (l.map RtX.r)) (hz:∀ x∈l,RtZP x) {host path method:B} (hh:host.length≤9223372036854775807) (hp:path.length≤4294967280) {i:Nat}{F:List (B×B)}{m:B} (hY:FndYes (l.map RtX.r) host path method i F m) (w:World) (hmx:MxAt w) (hT:RtsAt w p l):Calls Tryz.prog 13 #[.agg #[.slice p n c],.string (str host),.string (str path),.string (str method)] w fun e w'=>∃ q d,e= .returned (.tuple #[foundV i (.slice q F.length d) m,.int .i64 0])∧Below w.heap.size w w'∧OwnF w' w.heap.size (.slice q F.length d) F:=by
 refine(rdfind_any l p n c hn hf hz host path method hh hp w hmx hT).mono ?_;rintro e w' ⟨hb,⟨k',hno,_,h⟩|⟨i',F',m',q,d,hY',h,ho⟩⟩
 · exact(yes_no hY hno).elim
 · obtain⟨rfl,rfl,rfl⟩:=yes_det hf hY hY';exact⟨q,d,h,hb,ho⟩
def AsAt (w:World) (p:Option Addr) (qs:List (B×B×B)):Prop:=∀ (j:Nat) (a:B×B×B),qs[j]?=some a→∃ g o,p=some ⟨g,o,none⟩∧w.cell? ⟨g,o+j*3,none⟩=some (.string (str a.1))∧w.cell? ⟨g,o+j*3+1,none⟩=some (.string (str a.2.1))∧w.cell? ⟨g,o+j*3+2,none⟩=some (.string (str a.2.2))
theorem AsAt.next {w w':World}{p:Option Addr}{qs:List (B×B×B)} (h:AsAt w p qs) (hb:Below w.heap.size w w'):AsAt w' p qs:=fun j a hj=>by
 obtain⟨g,o,e,h1,h2,h3⟩:=h j a hj;exact⟨g,o,e,cell_keep hb h1,cell_keep hb h2,cell_keep hb h3⟩
theorem chkR_le (r:RtC):chkR r≤9:=by
 unfold chkR checkN chkN methE;repeat' split
 all_goals omega
theorem newE_le (L:List RtC):newE L≤9:=by
 unfold newE;split
 · omega
 · split
   · exact chkR_le _
   · split <;> omega
theorem rnew_fine {l:List RtX}{v:Value} (h:newE (l.map RtX.r)=0):rnewV (l.map RtX.r) v= .tuple #[.agg #[v],.int .i64 0]:=by unfold rnewV;rw [h];rfl
set_option maxRecDepth 20000 in
set_option maxHeartbeats 64000000 in
theorem finds_any (l:List RtX) (p:Option Addr) (n c:Nat) (qs:List (B×B×B)) (pa:Option Addr) (na ca:Nat) (w:World) (hI:InR w p n c l) (hmx:MxAt w) (hA:AsAt w pa qs) (hna:qs.length=na) (hsz:∀ a∈qs,a.1.length≤1048576∧a.2.1.length≤1048576):Calls Tryz.prog 3 #[.slice p n c,.slice pa na ca] w fun e w'=>e= .returned (.bool true)∧Below w.heap.size w w':=by
 have HI:=hid hI;have HMx:=hid hmx;have HA:=hid hA;have HNa:=hid hna;have HSz:=hid hsz;have HWk:=hid (fun (W:World) (hb:Below w.heap.size w W)=>works_any W (hmx.next hb));have hnn:=hI.few;have HB0:=hid (Below.refl w.heap.size w);by_cases hlen:n≤100
 case neg=>
  have h2:(100:Int)<(n:Int):=by omega
  clear hlen hI hmx hA hna hsz;go_enter Tryz.func3,Tryz.ntmps3;go_wp2_with (go_at_call 7;(with_reducible refine(HWk.out _ HB0.out).mono ?_);rintro e w1 ⟨rfl,hb1⟩;have HB1:=hid hb1;clear hb1);go_ret;exact⟨rfl,HB1.out⟩
 have hl4:¬(100:Int)<(n:Int):=by omega
 have HTw:=hid (show Calls Tryz.prog 8 #[.slice p n c] w (fun e w'=>∃ q d l',e= .returned (.slice q n d)∧OwnL w' w.heap.size (.slice q n d) l'∧TwL l l'∧(∀ y∈l',y.r.ms.length≤y.k)∧Below w.heap.size w w') from by
  have h:=twin_any l p n c hI.len hI.few hI.zp hI.ms w hI.at_;unfold TwAns at h;rw [hI.len] at h;exact h)
 have HNw:=hid (fun (w2:World) (q:Option Addr) (d:Nat) (l':List RtX) (hO:OwnL w2 w.heap.size (.slice q n d) l') (hT:TwL l l') (hk:∀ y∈l',y.r.ms.length≤y.k) (hb:Below w.heap.size w w2)=>show Calls Tryz.prog 9 #[.slice q n d] w2 (fun e w'=>PNewAns w2 (l.map RtX.r) e w') from by
  rw [←hI.len] at hO ⊢;exact new_twin hI.zp hO hT hk (hmx.next hb))
 have HNd:=hid (fun (W:World) (hb:Below w.heap.size w W)=>rnew_any l p n c hI.len (fun x hx=>(hI.zp x hx).z) W (hI.at_.next hb));by_cases hE:newE (l.map RtX.r)=0
 · have hF:=fine_of hE;have HF:=hid hF;have HNk:=hid (fun (w2:World) (q:Option Addr) (d:Nat) (l':List RtX) (hO:OwnL w2 w.heap.size (.slice q n d) l') (hT:TwL l l') (hk:∀ y∈l',y.r.ms.length≤y.k) (hb:Below w.heap.size w w2)=>show Calls Tryz.prog 9 #[.slice q n d] w2 (fun e w'=>∃ t gh m M,e= .returned (.tuple #[.pointer (some ⟨t,0,none⟩),.nilIface])∧Below w2.heap.size w2 w'∧TabQ w2.heap.size w' t gh m (contQ (l.map RtX.r) M)) from by
    refine(HNw.out w2 q d l' hO hT hk hb).mono ?_;rintro e w' (⟨h1,_⟩|⟨_,h2,t,gh,m,M,h3,_,h4⟩)
    · exact absurd hE h1
    · exact⟨t,gh,m,M,h3,h2,h4⟩)
   have HNd2:=hid (fun (W:World) (hb:Below w.heap.size w W)=>show Calls Tryz.prog 10 #[.slice p n c] W (fun e w'=>e= .returned (.tuple #[.agg #[.slice p n c],.int .i64 0])∧Below W.heap.size W w') from by
    have h9:=HNd.out W hb;rw [rnew_fine hE] at h9;exact h9)
   have HFd:=hid (fun (a:B×B×B) (ha:a∈qs) (W:World) (b0 t gh m M:Nat) (hb:Below w.heap.size w W) (hs:b0≤W.heap.size) (hQ:TabQ b0 W t gh m (contQ (l.map RtX.r) M))=>pfind_any hQ hs (hmx.next hb) hF.few (zp_path hI.zp) (zp_ms hI.zp) a.1 a.2.1 a.2.2 (by have:=(hsz a ha).1;omega) (by have:=(hsz a ha).2;omega) (fun y hy=>by have:=normal_len_q hy;have:=(hsz a ha).2;omega));have HDy:=hid (fun (a:B×B×B) (ha:a∈qs) (i:Nat) (F:List (B×B)) (y:B) (hY:FndYes (l.map RtX.r) a.1 a.2.1 a.2.2 i F y) (W:World) (hb:Below w.heap.size w W)=>rdfind_yes (c:=c) hI.len hF hI.zp (by have:=(hsz a ha).1;omega) (by have:=(hsz a ha).2;omega) hY W (hmx.next hb) (hI.at_.next hb));have HDn:=hid (fun (a:B×B×B) (ha:a∈qs) (k:Nat) (hN:FndNo (l.map RtX.r) a.1 a.2.1 a.2.2 k) (W:World) (hb:Below w.heap.size w W)=>rdfind_no (c:=c) hI.len hF hI.zp (by have:=(hsz a ha).1;omega) (by have:=(hsz a ha).2;omega) hN W (hmx.next hb) (hI.at_.next hb));have HLn:=hid (fun (W:World) (b0 t gh m M:Nat) (hQ:TabQ b0 W t gh m (contQ (l.map RtX.r) M))=>show Calls Tryz.prog 15 #[.pointer (some ⟨t,0,none⟩)] W (fun e w'=>e= .returned (.int .i64 (n:Int))∧w'=W) from by
    have h9:=plen_any hQ;rw [List.length_map,hI.len] at h9;exact h9)
   clear hI hmx hA hna hsz hE hF HNd HNw;go_enter Tryz.func3,Tryz.ntmps3;go_wp2_with (first|(go_at_call 8;(with_reducible refine HTw.out.mono ?_);rintro e w1 ⟨q,d,l1,rfl,hO,hT,hk,hb1⟩;have HB1:=hid hb1)|(go_at_call 9;(with_reducible refine(HNk.out w1 q d l1 hO hT hk HB1.out).mono ?_);rintro e w2 ⟨t,gh,m,M,rfl,hb2,hQ⟩;have HB2:=hid (below_out HB1.out hb2);have HQ2:=hid hQ;have HS2:=hid hb2.size)|(go_at_call 10;(with_reducible refine(HNd2.out _ HB2.out).mono ?_);rintro e w3 ⟨rfl,hb3⟩;have hn3:=below_new w3 (.cells #[.slice p n c] 32 (0,0));have HB3:=hid (below_out (below_out HB2.out hb3) hn3);have HQ3:=hid ((HQ2.out.next HS2.out hb3).next (Nat.le_trans HS2.out hb3.size) hn3);have HS3:=hid (Nat.le_trans HS2.out (Nat.le_trans hb3.size hn3.size));have HG3:=hid (heap_alloc_new w3 (.cells #[.slice p n c] 32 (0,0)));have HL3:=hid (show w1.heap.size≤w3.heap.size from Nat.le_trans HS2.out hb3.size)));obtain⟨gr,hgr⟩:∃ gr,0<n→q=some ⟨gr,0,none⟩∧MineW w w3 w1.heap.size gr l1:=by
    by_cases h0:0<n
    · obtain⟨x0,hx0⟩:∃ x,l1[0]?=some x:=⟨_,List.getElem?_eq_getElem (by rw [hT.1,HI.out.len];exact h0)⟩;obtain⟨gr,h1,h2⟩:=MineW.of hO hb1 hx0;exact⟨gr,fun _=>⟨h1,(h2.next hb2).next hb3⟩⟩
    · exact⟨0,fun h=>absurd h h0⟩
   have HGr:=hid (fun h=>(hgr h).1);have HM3:=hid (fun h=>(hgr h).2.next hn3);have HTl:=hid (hT.1.trans HI.out.len);have HMsz:=hid (fun (x:RtX) (hx:x∈l1)=>show x.r.ms.length≤1048576 from by
    have h1:x.r∈l.map RtX.r:=by rw [←hT.map];exact List.mem_map_of_mem hx
    obtain⟨x',h2,h3⟩:=List.mem_map.1 h1;rw [←h3];exact(HI.out.ms x' h2).1)
   obtain⟨W3,hW3⟩:∃ W,w3.alloc (.cells #[.slice p n c] 32 (0,0))=W:=⟨_,rfl⟩;rw [hW3] at HB3 HQ3 HS3 HG3 HM3 ⊢;have hK3:w3.heap.size<W3.heap.size:=by rw [←hW3];simp
   clear hgr hO hT hk hb1 hb2 hb3 hn3 hQ hW3 HQ2 HNk HNd2 HTw;go_loopg [10,11] (n+1) (fun gk s10 s11 wr=>∃ i:Nat,i≤n∧gk=n-i+1∧s10= .int .i64 (i:Int)∧(0<n→MineW w wr w1.heap.size gr l1)∧Kept (fun b=>b<w1.heap.size) W3 wr∧Below w.heap.size w wr)
   case atStart=>exact⟨0,Nat.zero_le _,rfl,rfl,HM3.out,Kept.refl _ _,HB3.out⟩
   case round=>
    obtain⟨i,hi,rfl,rfl,hM,hK,hb⟩:=hrel;have HM:=hid hM;have HK:=hid hK;have HBr:=hid hb;clear hM hK hb;by_cases hin:i<n
    · obtain⟨x,hx⟩:∃ x,l1[i]?=some x:=⟨_,List.getElem?_eq_getElem (by rw [HTl.out];exact hin)⟩;have HX:=hid hx;obtain rfl:=HGr.out (by omega);have HMi:=hid (HM.out (by omega));obtain⟨mn,hmn⟩:∃ mn,x.r.ms.length=mn:=⟨_,rfl⟩;have HMn:=hid hmn;have hmnb:mn≤1048576:=by rw [←hmn];exact HMsz.out x (List.mem_of_getElem? hx)
      obtain⟨w5,hw5⟩:∃ W,W=wr:=⟨_,rfl⟩;subst hw5;clear hx hmn HM;go_wp2;go_loopg [11] (mn+1) (fun gk s11 wr=>∃ k:Nat,k≤mn∧gk=mn-k+1∧s11= .int .i64 (k:Int)∧MineW w wr w1.heap.size gr l1∧Kept (fun b=>b<w1.heap.size) W3 wr)
      case atStart=>exact⟨0,Nat.zero_le _,rfl,rfl,HMi.out,HK.out⟩
      case round=>
       clear HMi HK;obtain⟨k,hk,rfl,rfl,hM,hK⟩:=hrel;have HM:=hid hM;have HK:=hid hK;clear hM hK;have q2:=HM.out.sl i x HX.out;rw [HMn.out] at q2;by_cases hkn:k<mn
       · obtain⟨g,e,h1,h2,h3⟩:=HM.out.ms x (List.mem_of_getElem? HX.out) k (by rw [HMn.out];exact hkn);rw [e] at q2;have HSet:=hid (HM.out.set (s:=⟨#[78,79,78,69]⟩) h3 h1);have HKs:=hid (HK.out.trans ((kept_set wr g k (.string ⟨#[78,79,78,69]⟩)).mono (G:=fun b=>b<w1.heap.size) (fun b _ hb=>by rw [hb];exact h2)) (fun b _ hb=>hb));have f1:=h3.fr k;obtain⟨⟨s9,z9⟩,_⟩:=h3;clear e h1 h2;go_wp2;go_roundg (mn-(k+1)+1)
         case measure=>omega
         case rel=>exact⟨k+1,by omega,rfl,by push_cast;go_num,HSet.out,HKs.out⟩
       · obtain rfl:mn=k:=by omega
         have h3:=HM.out.pa i x HX.out;have HSet:=hid (HM.out.set (s:=⟨#[47,110,111,110,101]⟩) h3 HM.out.lo);have HKs:=hid (HK.out.trans ((kept_set wr gr (i*13+1) (.string ⟨#[47,110,111,110,101]⟩)).mono (G:=fun b=>b<w1.heap.size) (fun b _ hb=>by rw [hb];exact HM.out.hi)) (fun b _ hb=>hb));have f1:=h3.fr (i*13+1);obtain⟨⟨s9,z9⟩,_⟩:=h3;go_wp2;go_roundg (n-(i+1)+1)
         case measure=>omega
         case rel=>exact⟨i+1,by omega,rfl,by push_cast;go_num,fun _=>HSet.out,HKs.out,HSet.out.low⟩
    · obtain rfl:n=i:=by omega
      have HQ4:=hid (HQ3.out.out HS3.out HK.out);have HS4:=hid (Nat.le_trans HS3.out HK.out.size);have HG4:=hid ((HK.out.block _ hK3 (by have:=HL3.out;omega)).trans HG3.out);have HB4:=hid HBr.out;obtain⟨w4,hw4⟩:∃ W,W=wr:=⟨_,rfl⟩;subst hw4;clear HM HK HBr HM3 HQ3 HS3 HG3 HB3 HB1 HB2 HGr hi hin;go_wp2;go_loopg [12,13,14,15,16,17] (na+1) (fun gk s12 s13 s14 s15 s16 s17 wr=>∃ i:Nat,i≤na∧gk=na-i+1∧s12= .int .i64 (i:Int)∧Below w4.heap.size w4 wr)
      case atStart=>exact⟨0,Nat.zero_le _,rfl,rfl,Below.refl _ _⟩
      case round=>
       obtain⟨i,hi,rfl,rfl,hb⟩:=hrel;have HBr:=hid hb;have HBw:=hid (below_out HB4.out hb);have HQr:=hid (HQ4.out.next HS4.out hb);have HSr:=hid (Nat.le_trans HS4.out hb.size);have HGr:=hid (kB hb HG4.out);clear hb;by_cases hin:i<na∧i<30
       · obtain⟨hin,h30⟩:=hin;have h30i:(i:Int)<30:=by omega
         obtain⟨a,ha⟩:∃ a,qs[i]?=some a:=⟨_,List.getElem?_eq_getElem (by rw [HNa.out];exact hin)⟩;have HAm:=hid (List.mem_of_getElem? ha);obtain⟨ga,oa,rfl,q0,q1,q2⟩:=(HA.out.next HBw.out) i a ha;have HFda:=hid (HFd.out a (List.mem_of_getElem? ha));have HDya:=hid (HDy.out a (List.mem_of_getElem? ha));have HDna:=hid (HDn.out a (List.mem_of_getElem? ha));obtain⟨ah,ap,am⟩:=a;obtain⟨SH,hSH⟩:∃ S,str ah=S:=⟨_,rfl⟩;obtain⟨SP,hSP⟩:∃ S,str ap=S:=⟨_,rfl⟩;obtain⟨SK,hSK⟩:∃ S,str am=S:=⟨_,rfl⟩;dsimp only at HFda HDya HDna q0 q1 q2;rw [hSH] at HFda HDya HDna q0;rw [hSP] at HFda HDya HDna q1;rw [hSK] at HFda HDya HDna q2;unfold FndAns at HFda;unfold foundV at HFda HDya HDna;have hn5:=below_new wr (.cells #[.string SH,.string SP,.string SK] 44 (0,0));have HA5:=hid (heap_alloc_new wr (.cells #[.string SH,.string SP,.string SK] 44 (0,0)));have HB5:=hid (below_out HBw.out hn5);have HBr5:=hid (below_out HBr.out hn5);have HQ5:=hid (HQr.out.next HSr.out hn5);have HS5:=hid (Nat.le_trans HSr.out hn5.size);have HG5:=hid (kB hn5 HGr.out);obtain⟨c0,c1,c2,_⟩:=box3 HA5.out;clear ha hSH hSP hSK;go_upto_region 21 with (go_at_call 12;(with_reducible refine(HFda.out _ _ t gh m M HB5.out HS5.out HQ5.out).mono ?_);rintro e w5 ⟨hb5,⟨k,hno,hk0,rfl⟩|⟨j,F,y,qx,dx,hY,rfl,ho⟩⟩)
         · have HD:=hid (HDna.out k hno);have HNum:=hid (fun W:World=>num_any k (by have:=no_le hno;omega) W);have HZm:=hid (fun W:World=>same_yes 0 [] [] none none 0 0 0 rfl (by decide) W (fun j f hj=>by cases hj) (fun j f hj=>by cases hj));unfold foundV at HZm;rw [errOf_ne hk0] at HNum ⊢;rw [show str []=⟨#[]⟩ from rfl] at HD HZm ⊢;rw [show ((0:Nat):Int)=(0:Int) from rfl] at HD HZm;have hn6:=below_new w5 (.cells #[.int .i64 0,.slice none 0 0,.string ⟨#[]⟩] 47 (0,0));have HA6:=hid ((hn6.block _ (Nat.lt_of_lt_of_le (lt_of_heap HA5.out) hb5.size)).trans (kB hb5 HA5.out));have HG6:=hid ((hn6.block _ (Nat.lt_of_lt_of_le (lt_of_heap HG5.out) hb5.size)).trans (kB hb5 HG5.out));have HB6:=hid (below_out (below_out HB5.out hb5) hn6);have HBr6:=hid (below_out (below_out HBr5.out hb5) hn6);have HF6:=hid (heap_alloc_new w5 (.cells #[.int .i64 0,.slice none 0 0,.string ⟨#[]⟩] 47 (0,0)));obtain⟨d0,d1,d2,_⟩:=box3 HA6.out;have z0:=cell0 HG6.out;clear hno hb5 hn6 hk0 c0 c1 c2;go_wp2_with (first|(go_at_call 13;(with_reducible refine(HD.out _ HB6.out).mono ?_);rintro e w7 ⟨rfl,hb7⟩;have hn7:=below_new w7 (.cells #[.int .i64 0,.slice none 0 0,.string ⟨#[]⟩] 50 (0,0));have HB7:=hid (below_out (below_out HB6.out hb7) hn7);have HBr7:=hid (below_out (below_out HBr6.out hb7) hn7);have HF7:=hid ((hn7.block _ (Nat.lt_of_lt_of_le (lt_of_heap HF6.out) hb7.size)).trans (kB hb7 HF6.out));obtain⟨x0,x1,x2,_⟩:=box3 HF7.out;clear hb7 hn7)|(go_at_call 11;(with_reducible refine(HNum.out _).mono ?_);rintro e w8 ⟨rfl,hw8⟩;subst hw8)|(go_at_call 14;(with_reducible refine(HZm.out _).mono ?_);rintro e w9 ⟨rfl,hb9⟩;have HB9:=hid (below_out HBr7.out hb9);clear hb9));go_roundg (na-(i+1)+1)
           case measure=>omega
           case rel=>exact⟨i+1,by omega,rfl,by push_cast;go_num,HB9.out⟩
         · have HD:=hid (HDya.out j F y hY);have HNn:=hid (fun W:World=>num_none W);have hFl:F.length≤140737488355328:=by
            obtain⟨r,_,_,_,hf15,_⟩:=yes_lawful HF.out hY;exact Nat.le_trans (fits_few hf15) (by decide)
           have HFl:=hid hFl;have HSm:=hid (fun (q':Option Addr) (d':Nat) (W:World) (h1:FAt W qx F) (h2:FAt W q' F)=>same_yes j y F qx q' F.length dx d' rfl hFl W h1 h2);unfold foundV at HSm;obtain⟨SY,hSY⟩:∃ S,str y=S:=⟨_,rfl⟩;rw [hSY] at HD HSm ⊢;have hn6:=below_new w5 (.cells #[.int .i64 (j:Int),.slice qx F.length dx,.string SY] 47 (0,0));have HA6:=hid ((hn6.block _ (Nat.lt_of_lt_of_le (lt_of_heap HA5.out) hb5.size)).trans (kB hb5 HA5.out));have HG6:=hid ((hn6.block _ (Nat.lt_of_lt_of_le (lt_of_heap HG5.out) hb5.size)).trans (kB hb5 HG5.out));have HB6:=hid (below_out (below_out HB5.out hb5) hn6);have HBr6:=hid (below_out (below_out HBr5.out hb5) hn6);have HF6:=hid (heap_alloc_new w5 (.cells #[.int .i64 (j:Int),.slice qx F.length dx,.string SY] 47 (0,0)));have HO6:=hid (ho.fat.next hn6);obtain⟨d0,d1,d2,_⟩:=box3 HA6.out;have z0:=cell0 HG6.out;clear hb5 hn6 c0 c1 c2 hY ho hFl hSY;go_wp2_with (first|(go_at_call 13;(with_reducible refine(HD.out _ HB6.out).mono ?_);rintro e w7 ⟨q7,d7,rfl,hb7,ho7⟩;have hn7:=below_new w7 (.cells #[.int .i64 (j:Int),.slice q7 F.length d7,.string SY] 50 (0,0));have HB7:=hid (below_out (below_out HB6.out hb7) hn7);have HBr7:=hid (below_out (below_out HBr6.out hb7) hn7);have HF7:=hid ((hn7.block _ (Nat.lt_of_lt_of_le (lt_of_heap HF6.out) hb7.size)).trans (kB hb7 HF6.out));have HO7:=hid ((HO6.out.next hb7).next hn7);have HP7:=hid (ho7.fat.next hn7);obtain⟨x0,x1,x2,_⟩:=box3 HF7.out;clear hb7 hn7 ho7)|(go_at_call 11;(with_reducible refine(HNn.out _).mono ?_);rintro e w8 ⟨rfl,hw8⟩;subst hw8)|(go_at_call 14;(with_reducible refine(HSm.out q7 d7 _ HO7.out HP7.out).mono ?_);rintro e w9 ⟨rfl,hb9⟩;have HB9:=hid (below_out HBr7.out hb9);clear hb9));go_roundg (na-(i+1)+1)
           case measure=>omega
           case rel=>exact⟨i+1,by omega,rfl,by push_cast;go_num,HB9.out⟩
       · have fin:∀ (hlt:decide (i<na)=true→¬(i:Int)<30),True:=fun _=>trivial
         by_cases hia:i<na
         · have h30:¬(i:Int)<30:=by omega
           clear hin fin;go_wp2_with (first|(go_at_call 15;(with_reducible refine(HLn.out _ _ t gh m M HQr.out).mono ?_);rintro e w7 ⟨rfl,hw7⟩;subst hw7)|(go_at_call 7;(with_reducible refine(HWk.out _ HBw.out).mono ?_);rintro e w8 ⟨rfl,hb8⟩;have HB8:=hid (below_out HBw.out hb8);clear hb8));go_ret;exact⟨rfl,HB8.out⟩
         · clear hin fin;go_wp2_with (first|(go_at_call 15;(with_reducible refine(HLn.out _ _ t gh m M HQr.out).mono ?_);rintro e w7 ⟨rfl,hw7⟩;subst hw7)|(go_at_call 7;(with_reducible refine(HWk.out _ HBw.out).mono ?_);rintro e w8 ⟨rfl,hb8⟩;have HB8:=hid (below_out HBw.out hb8);clear hb8));go_ret;exact⟨rfl,HB8.out⟩
 · have HNe:=hid (fun (w2:World) (q:Option Addr) (d:Nat) (l':List RtX) (hO:OwnL w2 w.heap.size (.slice q n d) l') (hT:TwL l l') (hk:∀ y∈l',y.r.ms.length≤y.k) (hb:Below w.heap.size w w2)=>show Calls Tryz.prog 9 #[.slice q n d] w2 (fun e w'=>e= .returned (.tuple #[.pointer none,.iface 74 (.int .i64 (newE (l.map RtX.r):Int))])∧Below w2.heap.size w2 w') from by
    refine(HNw.out w2 q d l' hO hT hk hb).mono ?_;rintro e w' (⟨_,h1,h2⟩|⟨h1,_⟩)
    · exact⟨h1,h2⟩
    · exact absurd h1 hE)
   have hle:newE (l.map RtX.r)≤9:=newE_le _;obtain⟨k,hk0⟩:∃ k,newE (l.map RtX.r)=k:=⟨_,rfl⟩;have HNd2:=hid (fun (W:World) (hb:Below w.heap.size w W)=>show Calls Tryz.prog 10 #[.slice p n c] W (fun e w'=>e= .returned (.tuple #[.agg #[.slice none 0 0],.int .i64 (k:Int)])∧Below W.heap.size W w') from by
    have h9:=HNd.out W hb;rw [rnewV_ne hk0 (by rw [←hk0];exact hE)] at h9;exact h9)
   rw [hk0] at HNe hE hle;have HNum:=hid (fun W:World=>num_any k (by omega) W);rw [errOf_ne hE] at HNum;have hki:¬(k:Int)=0:=by omega
   have hkb:((k:Int) != 0)=true:=by simp;omega
   clear hI hmx hA hna hsz hE hk0 HNd HNw;go_enter Tryz.func3,Tryz.ntmps3;go_wp2_with (first|(go_at_call 8;(with_reducible refine HTw.out.mono ?_);rintro e w1 ⟨q,d,l1,rfl,hO,hT,hk,hb1⟩;have HB1:=hid hb1)|(go_at_call 9;(with_reducible refine(HNe.out w1 q d l1 hO hT hk HB1.out).mono ?_);rintro e w2 ⟨rfl,hb2⟩;have HB2:=hid (below_out HB1.out hb2);clear hO hT hk hb1 hb2)|(go_at_call 10;(with_reducible refine(HNd2.out _ HB2.out).mono ?_);rintro e w3 ⟨rfl,hb3⟩;have HB3:=hid (below_out (below_out HB2.out hb3) (below_new w3 (.cells #[.slice none 0 0] 32 (0,0))));clear hb3)|(go_at_call 11;(with_reducible refine(HNum.out _).mono ?_);rintro e w7 ⟨rfl,hw7⟩;subst hw7)|(go_at_call 7;(with_reducible refine(HWk.out _ HB3.out).mono ?_);rintro e w8 ⟨rfl,hb8⟩;have HB8:=hid (below_out HB3.out hb8);clear hb8));go_ret
   first
    |exact⟨rfl,HB8.out⟩
    |(refine⟨?_,HB8.out⟩;simp [hki])
end Go.Proofs.YtlmlljlappjjjaaGreatDoor
