/- The program: a route is laid into a table. -/
import Derived.Test.YtlmlljlappjjjaaGreatDoorQGrp
namespace Go.Proofs.YtlmlljlappjjjaaGreatDoor
open Go.RowKit Go.Maps
theorem infoN2:(Tryz.prog.info? 91).map (fun i=>(i.zero,i.size,i.bytes))=some (some (.agg #[.string ⟨#[]⟩,.slice none 0 0]),2,40):=by kernel_rfl
structure EB (W:World) (O:Nat→OwQ) (g:Nat) (S:ByteArray) (q:Option Addr) (n k:Nat) (ms:List B):Prop where
 bx:W.heap[g]?=some (.cells #[.string S,.slice q n k] 91 (0,0))
 ob:O g= .loc
 tx:TxAt W q ms
 or:∀ a o,q=some ⟨a,o,none⟩→O a= .loc
theorem EB.keep {W W':World}{O O':Nat→OwQ}{F:OwQ→Prop}{g:Nat}{S:ByteArray}{q:Option Addr}{n k:Nat}{ms:List B} (h:EB W O g S q n k ms) (c:Chg O O' W W' F) (hlt:∀ b,O b≠ .out→b<W.heap.size) (hF:¬F .loc):EB W' O' g S q n k ms where
 bx:=(c.blk (lt_of_heap h.bx) h.ob hF).trans h.bx
 ob:=(c.own g (by rw [h.ob];simp)).trans h.ob
 tx:=tx_keepB h.tx (fun a o e=>c.blk (hlt a (by rw [h.or a o e];simp)) (h.or a o e) hF)
 or:=fun a o e=>(c.own a (by rw [h.or a o e];simp)).trans (h.or a o e)
structure WB (W:World) (O:Nat→OwQ) (g i:Nat) (S:ByteArray):Prop where
 bx:W.heap[g]?=some (.cells #[.int .i64 (i:Int),.string S] 127 (0,0))
 ob:O g= .loc
theorem WB.keep {W W':World}{O O':Nat→OwQ}{F:OwQ→Prop}{g i:Nat}{S:ByteArray} (h:WB W O g i S) (c:Chg O O' W W' F) (hF:¬F .loc):WB W' O' g i S where
 bx:=(c.blk (lt_of_heap h.bx) h.ob hF).trans h.bx
 ob:=(c.own g (by rw [h.ob];simp)).trans h.ob
def hit1 (es:List (B×List B)) (ms:List B) (x:Int):Bool:=match es[x.toNat]? with
 |some y=>meetR ms y.2
 |none=>false
def hitW (es:List (B×List B)) (l:List Int) (ms:List B):Bool:=l.any (hit1 es ms)
theorem hitW_no {es:List (B×List B)}{l:List Int}{ms:List B}{n:Nat} (hn:l.length=n) (h:∀ y∈l.take n,hit1 es ms y=false):hitW es l ms=false:=by
 subst hn;rw [List.take_length] at h;unfold hitW;rw [←Bool.not_eq_true,List.any_eq_true];rintro ⟨y,h1,h2⟩;rw [h y h1] at h2;cases h2
theorem hit1_at {es:List EntX}{E:List (B×List B)} (hE:es.map (fun x=>(x.path,x.ms))=E) {j:Nat}{x:EntX} (hx:es[j]?=some x) (ms:List B):hit1 E ms (j:Int)=meetR ms x.ms:=by
 unfold hit1;rw [←hE,show ((j:Int)).toNat=j from rfl,List.getElem?_map,hx];rfl
structure R8S (U:World) (t g8 m i:Nat) (SP:ByteArray) (V:Value):Prop where
 c2:U.cell? ⟨t,2,none⟩=some (.map (some m))
 a0:U.cell? ⟨g8,0,none⟩=some (.int .i64 (i:Int))
 a1:U.cell? ⟨g8,1,none⟩=some (.string SP)
 look:(Instr.lookup 78 (.map (some m)) (.agg #[.int .i64 (i:Int),.string SP]) false).run Tryz.prog U= .ok V U
structure R10S (U:World) (t g5 g8 gp i tb:Nat) (SP:ByteArray) (vp vr:Value):Prop where
 c1:U.cell? ⟨t,1,none⟩=some vp
 c3:U.cell? ⟨t,3,none⟩=some vr
 a0:U.cell? ⟨g8,0,none⟩=some (.int .i64 (i:Int))
 e0:U.cell? ⟨g5,0,none⟩=some (.string SP)
 pb:U.cell? ⟨gp,i,none⟩=some (.pointer (some ⟨tb,0,none⟩))
structure R16S (U:World) (t g5 gr j:Nat) (SP SQ:ByteArray) (vr v1 v2:Value):Prop where
 c3:U.cell? ⟨t,3,none⟩=some vr
 e0:U.cell? ⟨g5,0,none⟩=some (.string SP)
 e1:U.cell? ⟨g5,1,none⟩=some v1
 x0:U.cell? ⟨gr,j*2,none⟩=some (.string SQ)
 x1:U.cell? ⟨gr,j*2+1,none⟩=some v2
structure R19S (U:World) (t g8 m i:Nat) (SP:ByteArray) (vr:Value):Prop where
 c2:U.cell? ⟨t,2,none⟩=some (.map (some m))
 c3:U.cell? ⟨t,3,none⟩=some vr
 a0:U.cell? ⟨g8,0,none⟩=some (.int .i64 (i:Int))
 a1:U.cell? ⟨g8,1,none⟩=some (.string SP)
structure R20S (U:World) (t g5:Nat) (SP:ByteArray) (vr v1:Value):Prop where
 c3:U.cell? ⟨t,3,none⟩=some vr
 e0:U.cell? ⟨g5,0,none⟩=some (.string SP)
 e1:U.cell? ⟨g5,1,none⟩=some v1
theorem addE_two {P:List (B×Int)}{p:B} (h:checkP p=true):addE_r P p=0∨addE_r P p=6:=by
 unfold addE_r;rw [if_pos h];split
 · exact .inr rfl
 · exact .inl rfl
theorem OwnE_q.cells {w:World}{n c j:Nat}{p:Option Addr}{es:List EntX}{x:EntX} (h:OwnE_q w 0 (.slice p n c) es) (hx:es[j]?=some x):∃ g,p=some ⟨g,0,none⟩∧w.cell? ⟨g,j*2,none⟩=some (.string (str x.path))∧w.cell? ⟨g,j*2+1,none⟩=some (.slice x.q x.ms.length x.k):=by
 obtain⟨g,e,hc⟩:=OwnR.at (sz:=2) (fun _=>rfl) h hx;refine⟨g,e,?_,?_⟩
 · have:=hc 0 _ rfl
   rwa [Nat.mul_comm,Nat.add_zero] at this
 · have:=hc 1 _ rfl
   rwa [Nat.mul_comm] at this
theorem OwnA.cell {w:World}{n c j b:Nat}{p:Option Addr}{ts:List Nat} (h:OwnA w 0 (.slice p n c) ts) (hx:ts[j]?=some b):∃ g,p=some ⟨g,0,none⟩∧w.cell? ⟨g,j,none⟩=some (.pointer (some ⟨b,0,none⟩)):=by
 obtain⟨g,e,hc⟩:=OwnR.at (sz:=1) (fun _=>rfl) h hx;refine⟨g,e,?_⟩;have:=hc 0 _ rfl
 rwa [Nat.one_mul,Nat.add_zero] at this
def addHit (C:QC) (g:Nat) (r:RtC):Bool:=if C.wy g r.path= [] then decide (addE_r (C.tp g) r.path≠0) else hitW C.es (C.wy g r.path) r.ms
def addC (C:QC) (g:Nat) (r:RtC):QC where
 gs:=grpA C.gs (lowH r.host)
 tp:=if C.wy g r.path= [] then (fun j=>if j=g then C.tp g++ [(r.path,(C.es.length:Int))] else C.tp j) else C.tp
 wy:=fun j p=>if j=g∧p=r.path then C.wy g r.path++ [(C.es.length:Int)] else C.wy j p
 es:=C.es++ [(r.path,r.ms)]
 M:=if C.wy g r.path= [] then C.M+1+1 else C.M+1
def TabQ (b0:Nat) (w:World) (t gh m:Nat) (C:QC):Prop:=∃ O vp vr ts wv es,TblI b0 w O t gh m vp vr ts wv es C∧ts.length=C.gs.length
def AddAnsQ (b0:Nat) (w:World) (t gh m:Nat) (C:QC) (r:RtC) (e:Ending) (w':World):Prop:=
 (addHit C ((grpA C.gs (lowH r.host)).idxOf (lowH r.host)) r=true∧e= .returned (.iface 74 (.int .i64 6))∧Below b0 w w')∨
 (addHit C ((grpA C.gs (lowH r.host)).idxOf (lowH r.host)) r=false∧e= .returned .nilIface∧Below b0 w w'∧TabQ b0 w' t gh m (addC C ((grpA C.gs (lowH r.host)).idxOf (lowH r.host)) r))
theorem wpAnyD_two {P:Program}{ops:Array Oper}{Q:Exit→Act→World→Prop}{md:Region.Mode}{S:World→Prop}{D:Nat→Bool}{i j:Nat}{oi oj:Oper}{fuel:Nat}{listed:Array Bool}{a:Act}{w:World} (hr:Region.ready md ops listed= [i,j]) (hoi:ops[i]?=some oi) (hoj:ops[j]?=some oj)
  (h1:∀ K':Act→World→Prop,(∀ a w,((D i=false→S w)∧wpAnyD P md ops Q S D fuel (listed.setIfInBounds i true) a w)→K' a w)→if Region.wanted oi (yielded ops a.tmps)=true then Oper.wp P oi a w K' Q else K' (a.put oi.dst undef) w)
  (h2:∀ K':Act→World→Prop,(∀ a w,((D j=false→S w)∧wpAnyD P md ops Q S D fuel (listed.setIfInBounds j true) a w)→K' a w)→if Region.wanted oj (yielded ops a.tmps)=true then Oper.wp P oj a w K' Q else K' (a.put oj.dst undef) w):
  wpAnyD P md ops Q S D (fuel+1) listed a w:=by
 refine⟨fun h0=>(by rw [hr] at h0;cases h0),fun k hk=>?_⟩;rw [hr] at hk;simp only [List.mem_cons,List.not_mem_nil,or_false] at hk;rcases hk with rfl|rfl
 · exact wpOp_step hoi h1
 · exact wpOp_step hoj h2
structure R7S (U:World) (g3 g5:Nat) (SH SP:ByteArray):Prop where
 a0:U.cell? ⟨g3,0,none⟩=some (.string SH)
 a1:U.cell? ⟨g5,0,none⟩=some (.string SP)
structure BX3 (W:World) (O:Nat→OwQ) (g:Nat) (SH:ByteArray):Prop where
 c0:W.cell? ⟨g,0,none⟩=some (.string SH)
 ob:O g= .loc
theorem BX3.keep {W W':World}{O O':Nat→OwQ}{F:OwQ→Prop}{g:Nat}{S:ByteArray} (h:BX3 W O g S) (c:Chg O O' W W' F) (hF:¬F .loc):BX3 W' O' g S:=
 ⟨cell_same h.c0 (c.blk (lt_of_cell h.c0) h.ob hF),(c.own g (by rw [h.ob];simp)).trans h.ob⟩
theorem loc_one {b0:Nat}{W:World}{O:Nat→OwQ}{t gh m g5 g8 n k i:Nat}{vp vr:Value}{ts:List Nat}{wv:Nat→B→Value}{es:List EntX}{C:QC}{S:ByteArray}{q:Option Addr}{ms:List B} (h:TblI b0 W O t gh m vp vr ts wv es C) (hE:EB W O g5 S q n k ms) (hz:W.heap[g8]?=some (.cells #[.int .i64 (i:Int),.string S] 127 (0,0))) (ho:O g8= .out) (hlo:b0≤g8):
  ∃ O',TblI b0 W O' t gh m vp vr ts wv es C∧EB W O' g5 S q n k ms∧WB W O' g8 i S:=by
 have hne:∀ b,O b≠ .out→b≠g8:=fun b hb e=>hb (by rw [e];exact ho)
 refine⟨fun b=>if b=g8 then .loc else O b,h.claim (fun b hb=>if_neg (hne b hb)) (fun b hb=>?_) (fun b hb=>?_),?_,⟨hz,if_pos rfl⟩⟩
 · by_cases e:b=g8
   · rw [e];exact lt_of_heap hz
   · rw [if_neg e] at hb;exact h.lt b hb
 · by_cases e:b=g8
   · rw [e];exact hlo
   · rw [if_neg e] at hb;exact h.lo b hb
 · exact⟨hE.bx,by rw [if_neg (hne _ (by rw [hE.ob];simp))];exact hE.ob,hE.tx,fun a o e=>by rw [if_neg (hne _ (by rw [hE.or a o e];simp))];exact hE.or a o e⟩
theorem way_box {b0:Nat}{w2:World}{O:Nat→OwQ}{t gh m g5 g8 n k i:Nat}{vp vr z0 z1:Value}{ts:List Nat}{wv:Nat→B→Value}{es:List EntX}{C:QC}{S:ByteArray}{q:Option Addr}{ms:List B} (h:TblI b0 w2 O t gh m vp vr ts wv es C) (hE:EB w2 O g5 S q n k ms) (hs:b0≤w2.heap.size) (hz:w2.heap[g8]?=some (.cells #[z0,z1] 127 (0,0))) (ho:O g8= .out) (hlo:b0≤g8):
  ∃ O',TblI b0 ((w2.setCell ⟨g8,0,none⟩ (.int .i64 (i:Int))).setCell ⟨g8,1,none⟩ (.string S)) O' t gh m vp vr ts wv es C∧EB ((w2.setCell ⟨g8,0,none⟩ (.int .i64 (i:Int))).setCell ⟨g8,1,none⟩ (.string S)) O' g5 S q n k ms∧WB ((w2.setCell ⟨g8,0,none⟩ (.int .i64 (i:Int))).setCell ⟨g8,1,none⟩ (.string S)) O' g8 i S∧Below b0 w2 ((w2.setCell ⟨g8,0,none⟩ (.int .i64 (i:Int))).setCell ⟨g8,1,none⟩ (.string S)):=by
 have hk:Kept (fun b=>O b= .out) w2 ((w2.setCell ⟨g8,0,none⟩ (.int .i64 (i:Int))).setCell ⟨g8,1,none⟩ (.string S)):=((kept_set w2 g8 0 _).trans (kept_set _ g8 1 _) (fun _ _ h=>h)).mono (fun j _ e=>by rw [e];exact ho);have c:Chg O O w2 ((w2.setCell ⟨g8,0,none⟩ (.int .i64 (i:Int))).setCell ⟨g8,1,none⟩ (.string S)) (fun x=>x= .out):=⟨hk,fun _ _=>rfl,fun b hb=>Nat.lt_of_lt_of_le (h.lt b hb) hk.size,fun _ h1 h2=>absurd h2 h1⟩;obtain⟨O',h1,h2,h3⟩:=loc_one (h.step c hs (fun x hx=>hx)) (hE.keep c h.lt (by simp)) (heap_two hz (.int .i64 (i:Int)) (.string S)) ho hlo;exact⟨O',h1,h2,h3,(((kept_set w2 g8 0 _).trans (kept_set _ g8 1 _) (fun _ _ h=>h)).below hs (fun j e=>by rw [e];exact hlo))⟩
theorem loc_start {b0:Nat}{w X:World}{O:Nat→OwQ}{t gh m:Nat}{vp vr:Value}{ts:List Nat}{wv:Nat→B→Value}{es:List EntX}{C:QC} (h:TblI b0 w O t gh m vp vr ts wv es C) (hs:b0≤w.heap.size) (hb:Below w.heap.size w X):TblI b0 X (takeQ O w.heap.size X.heap.size .loc) t gh m vp vr ts wv es C:=
 h.step (Chg.take (F:=fun _=>False) (Below.kept hb) h.lt .loc) hs (fun _ _ h=>h)
def addC3 (C:QC) (g:Nat) (r:RtC):QC where
 gs:=grpA C.gs (lowH r.host)
 tp:=if C.wy g r.path= [] then (fun j=>if j=g then C.tp g++ [(r.path,(C.es.length:Int))] else C.tp j) else C.tp
 wy:=C.wy
 es:=C.es
 M:=if C.wy g r.path= [] then C.M+1 else C.M
set_option maxRecDepth 20000 in
set_option maxHeartbeats 64000000 in
theorem padd_any {b0:Nat}{w:World}{O:Nat→OwQ}{t gh m:Nat}{vp vr:Value}{ts:List Nat}{wv:Nat→B→Value}{es:List EntX}{C:QC} (h:TblI b0 w O t gh m vp vr ts wv es C) (hs:b0≤w.heap.size) (hx0:0<b0) (hmx:MxAt w) (r:RtC) {x:List B} (hx:patH r.host=some x) (hck:checkP r.path=true) (hl:ts.length=C.gs.length) (h64:lowH r.host∉C.gs→C.gs.length<64) (hgl:C.gs.length≤64) (htp:C.tp C.gs.length= [])
  (hM:C.M≤1000) (hTl:∀ i,(C.tp i).length≤1000) (hWl:∀ i p,(C.wy i p).length≤1000) (hEl:C.es.length≤1000) (hwy:∀ i p y,y∈C.wy i p→∃ k:Nat,y=(k:Int)∧k<C.es.length) (hml:∀ y∈C.es,y.2.length≤140737488355328)
  (q0:Option Addr) (n c0:Nat) (hn:r.ms.length=n) (hnn:n≤4398046511104) (he:∀ y∈r.ms,y.length≤281474976710656) (h2:r.path.length≤4398046511104) (v3 v4 v5 v6 v7 v8 v9 v10 v11 v12:Value) (hT:TxAt w q0 r.ms):
  Calls Tryz.prog 26 #[.pointer (some ⟨t,0,none⟩),.agg #[.string (str r.host),.string (str r.path),.slice q0 n c0,v3,v4,v5,v6,v7,v8,v9,v10,v11,v12]] w fun e w'=>AddAnsQ b0 w t gh m C r e w':=by
 obtain⟨s0,hs0,sy0,sy1,sy2⟩:=info_parts infoS;obtain⟨i0,hi0,iy0,iy1,iy2⟩:=info_parts infoN;obtain⟨e0,he0,ey0,ey1,ey2⟩:=info_parts infoN2;have HCp:=hid (fun W:World=>cloneH r.path W (by omega));have HCm:=hid (fun (W:World) (y:B) (hy:y∈r.ms)=>cloneH y W (he y hy));have HT0:=hid hT;have HN:=hid hn;have HH:=hid h;have HS0:=hid hs;obtain⟨g,hg⟩:∃ g,(grpA C.gs (lowH r.host)).idxOf (lowH r.host)=g:=⟨_,rfl⟩;have hga:=grpA_at C.gs (lowH r.host);have hgsl:(grpA C.gs (lowH r.host)).length≤65:=by
  unfold grpA;split
  · omega
  · rw [List.length_append];simp;omega
 have hGr:=fun (W:World) (O':Nat→OwQ) (hT:TblI b0 W O' t gh m vp vr ts wv es C) (hs:b0≤W.heap.size) (hM:MxAt W)=>pgroup_any hT hs hM r.host hx hl h64 htp
 unfold GrpAns at hGr;rw [hg] at hga hGr;have hgl65:g<65:=by have:=(List.getElem?_eq_some_iff.1 hga).1;omega
 have HGr:=hid hGr;have HGa:=hid hga;have HLk:=hid (fun (W:World) (hW:WayM W m C.M wv)=>hW.look (i:=g) (p:=r.path) ⟨by omega,h2⟩);unfold wayV at HLk;unfold AddAnsQ;rw [hg];have HMx:=hid (fun (W:World) (hb:Below b0 w W)=>mx_b0 hx0 hmx hb);clear hGr hga hg hgsl;obtain⟨SH,hSH⟩:∃ S,str r.host=S:=⟨_,rfl⟩;obtain⟨SP,hSP⟩:∃ S,str r.path=S:=⟨_,rfl⟩;have HSP:=hid hSP;rw [hSP] at HCp HLk;rw [hSH] at HGr;rw [hSH,hSP];have HA:=hid (heap_alloc_new w (.cells #[.string SH,.string SP,.slice q0 n c0,v3,v4,v5,v6,v7,v8,v9,v10,v11,v12] 42 (0,0)));clear hT hn he h hs hSH hSP;go_enter Tryz.func26,Tryz.ntmps26;go_wp2_with (go_at_call 58;(with_reducible refine(HCp.out _).mono ?_);rintro e w1 ⟨rfl,hb1⟩;have HB1:=hid (below_out (below_new w _) hb1);have HA1:=hid (kB hb1 HA.out);have HA2:=hid (((below_new w1 (.cells #[.string SP,.slice none 0 0] 91 (0,0))).block _ (lt_of_heap HA1.out)).trans HA1.out);obtain⟨k0,k1,k2⟩:=cells_r3 HA2.out;clear hb1);have HG5:=hid (heap_alloc_new w1 (.cells #[.string SP,.slice none 0 0] 91 (0,0)));have HBe:=hid (below_out HB1.out (below_new w1 (.cells #[.string SP,.slice none 0 0] 91 (0,0))));obtain⟨W1,hW1⟩:∃ W1,w1.alloc (.cells #[.string SP,.slice none 0 0] 91 (0,0))=W1:=⟨_,rfl⟩;have HL3:=hid (lt_of_heap HA1.out);have HL0:=hid HB1.out.size;obtain⟨g5,hg5⟩:∃ g5,w1.heap.size=g5:=⟨_,rfl⟩;rw [hW1] at HA2 HG5 HBe k0 k1 k2 ⊢;rw [hg5] at HG5 HL3 HL0 ⊢;have HL5:=hid (lt_of_heap HG5.out);clear hW1 hg5 HB1 HA1 w1 k1;go_loopg [20] (n+1) (fun gk s20 wr=>∃ (k ca:Nat) (qa:Option Addr),k≤n∧gk=n-k+1∧s20= .int .i64 (k:Int)∧wr.heap[g5]?=some (.cells #[.string SP,.slice qa k ca] 91 (0,0))∧OwnS wr (g5+1) (.slice qa k ca) (r.ms.take k)∧Below g5 W1 wr)
 case atStart=>exact⟨0,0,none,Nat.zero_le _,rfl,rfl,HG5.out,OwnS.nil _ _,Below.refl _ _⟩
 case round=>
  obtain⟨k,ca,qa,hk,rfl,rfl,hg,ho,hb⟩:=hrel;have HG:=hid hg;have HO:=hid ho;have HB:=hid hb;clear hg ho hb;by_cases hin:k<n
  · have h1:k<r.ms.length:=by rw [HN.out];exact hin
    obtain⟨y,hy⟩:∃ y,r.ms[k]?=some y:=⟨_,List.getElem?_eq_getElem h1⟩;have HB0:=hid (HBe.out.trans (HB.out.mono (by have:=HL3.out;omega)));obtain⟨gq,oq,rfl,q1⟩:=(HT0.out.next HB0.out) k y hy;have HCl:=hid (fun W:World=>HCm.out W y (List.mem_of_getElem? hy));have HTk:=hid (show r.ms.take (k+1)=r.ms.take k++ [y] from by rw [List.take_succ_eq_append_getElem h1,(List.getElem?_eq_some_iff.1 hy).2]);have HLi:=hid (show (r.ms.take k).length=k from by rw [List.length_take];omega);obtain⟨Sy,hSy⟩:∃ S,str y=S:=⟨_,rfl⟩;have HSy:=hid hSy;rw [hSy] at q1 HCl;obtain⟨acc,hacc⟩:∃ acc,r.ms.take k=acc:=⟨_,rfl⟩;rw [hacc] at HO HTk HLi;clear h1 hy hSy hacc k0 k2;go_upto_region 5 with fail
    have hS0a:=(cells_e2 HG.out).2;have HGd:=hid (show wr.drew.heap[g5]?=some (.cells #[.string SP,.slice qa k ca] 91 (0,0)) from HG.out);have HOd:=hid (HO.out.keep (below_drewH wr 1));have HBd:=hid (HB.out.trans ((below_drewH wr 1).mono (by have:=lt_of_heap HG.out;omega)));have hS0b:wr.drew.cell? ⟨g5,1,none⟩=some (.slice qa k ca):=hS0a;obtain⟨X,hX⟩:∃ X,wr.drew=X:=⟨_,rfl⟩;have hX2:wr.drewN 1=X:=hX;rw [hX] at HGd hS0b;rw [hX2] at HOd HBd;refine wp_region_noPanic ?_;refine any_begin 8 (by kernel_rfl) (by kernel_rfl) ?_;rw [hX];refine late_begin (fun U=>U.cell? ⟨g5,1,none⟩=some (.slice qa k ca)) (fun i=>i== 7) hS0b (fun hS=>?_);refine ltk (i:=0) (some 24) rfl rfl (v:= ?v0a) ?hy0a hS ?rest0a
    case hy0a=>intro w0 hSw;go_simp;try with_reducible rfl
    simp only [Act.put,sA,sB,sC];refine ltk (i:=1) (some 25) rfl rfl (v:= ?v1a) ?hy1a hS ?rest1a
    case hy1a=>intro w0 hSw;go_simp;try with_reducible rfl
    simp only [Act.put,sA,sB,sC];refine ltk (i:=2) (some 26) rfl rfl (v:= ?v2a) ?hy2a hS ?rest2a
    case hy2a=>intro w0 hSw;go_simp;try with_reducible rfl
    simp only [Act.put,sA,sB,sC];refine wpAnyD_one (i:=3) (by kernel_rfl) rfl (fun K hK=>?_);go_simp;go_at_call 58
    (with_reducible refine(HCl.out _).mono ?_)
    rintro e w2 ⟨rfl,hb2⟩;have hS1a:w2.cell? ⟨g5,1,none⟩=some (.slice qa k ca):=cell_keep hb2 hS0b;have HG2:=hid (kB hb2 HGd.out);have HO2:=hid (HOd.out.keep hb2);have HB2:=hid (HBd.out.trans (hb2.mono (by have:=lt_of_heap HGd.out;omega)));have hS2a:(w2.alloc (.cells #[.string Sy] 9 (0,0))).cell? ⟨g5,1,none⟩=some (.slice qa k ca):=cell_keep (below_new _ _) hS1a;clear hb2;refine hK _ _ ⟨fun _=>hS1a,?_⟩;clear hK K;try simp only [Act.put,sA,sB,sC]
    refine wpAnyD_one (i:=4) (by kernel_rfl) rfl (fun K hK=>?_);go_simp;refine hK _ _ ⟨fun _=>hS2a,?_⟩;clear hK K;try simp only [Act.put,sA,sB,sC]
    refine wpAnyD_one (i:=5) (by kernel_rfl) rfl (fun K hK=>?_);rw [if_pos (by rfl)];refine wp_append_own_at (.tmp 25) (.tmp 28) 36 rfl (g5+1) 9 s0 _ 1 16 Tryz.underlying36 hs0 sy0 sy1 sy2 rfl (by decide) (.slice qa k ca) k (strC acc) (by go_simp) (by have h8:=HO2.out.alloc (.cells #[.string Sy] 9 (0,0));unfold OwnS at h8;rw [HLi.out] at h8;exact h8) ⟨w2.heap.size,0,none⟩ 1 1 [.string Sy] (by go_simp) rfl (cells_new w2 _ _) (by simp [Value.oneCell']) (by unfold maxLen;omega) (by omega) (by have:=lt_of_heap HG2.out;simp;omega) ?_;intro v7 w7 hown hgr hvv;obtain⟨p7,L7,c7,rfl⟩:=own_slice3 hown;have HO7:=hid (show OwnS w7 (g5+1) (.slice p7 L7 c7) (acc++ [y]) from OwnS.put (by rw [HLi.out,HSy.out];exact hown));obtain⟨hL7,_⟩:L7=k+1∧True:=⟨row_lenH hown,trivial⟩;subst hL7;have hne5:(Value.slice qa k ca).ownBlock≠some g5:=fun e=>by have:=own_ge HO2.out e;omega
    have hb7:w7.heap[g5]?=some (.cells #[.string SP,.slice qa k ca] 91 (0,0)):=(grown_blk hgr (lt_of_heap HG2.out) hne5).trans HG2.out;have HB7:=hid ((HB2.out.trans ((below_new w2 _).mono (by have:=lt_of_heap HG2.out;omega))).trans (OwnS.below ((HO2.out.alloc _).base (by omega)) (by have:=lt_of_heap HG2.out;simp;omega) hgr));have hS3a:=(cells_e2 hb7).2;have hfz7:=frozen_of_row w7 g5 1 _ _ hb7;have HG9:=hid (show (w7.setCell ⟨g5,1,none⟩ (.slice p7 (k+1) c7)).heap[g5]?=some (.cells #[.string SP,.slice p7 (k+1) c7] 91 (0,0)) from heap_setCell_same w7 g5 1 _ _ _ hb7);have HO9:=hid (show OwnS (w7.setCell ⟨g5,1,none⟩ (.slice p7 (k+1) c7)) (g5+1) (.slice p7 (k+1) c7) (acc++ [y]) from ownR_S ((ownS_R HO7.out).set (fun e=>by have:=own_ge HO7.out e;omega)));have HB9:=hid (HB7.out.setCell (Nat.le_refl _) (p:=⟨g5,1,none⟩) (.slice p7 (k+1) c7));clear hown hgr hvv hne5;refine hK _ _ ⟨fun _=>hS3a,?_⟩;clear hK K;simp only [Act.put,sA];refine ltk (i:=6) (some 30) rfl rfl (v:= ?v6a) ?hy6a hS3a ?rest6a
    case hy6a=>intro w0 hSw;go_simp;try with_reducible rfl
    simp only [Act.put];refine wpAnyD_one (i:=7) (by kernel_rfl) rfl (fun K hK=>?_);rw [if_pos (by rfl)];go_simp;refine hK _ _ ⟨fun h=>(by cases h),?_⟩;clear hK K;try simp only [Act.put,sA,sB,sC]
    refine late_done (by kernel_rfl) ?_ _;refine NoPanic.normal ?_;go_wp2;go_roundg (n-(k+1)+1)
    case measure=>omega
    case rel=>exact⟨k+1,c7,p7,by omega,rfl,by push_cast;go_num,HG9.out,by rw [HTk.out];exact HO9.out,HB9.out⟩
  · obtain rfl:n=k:=by omega
    have HTk:=hid (show r.ms.take n=r.ms from List.take_of_length_le (by rw [HN.out];exact Nat.le_refl _));rw [HTk.out] at HO;have HB0:=hid (HBe.out.trans (HB.out.mono (by have:=HL3.out;omega)));have hk0:=HA2.out;go_upto_region 7 with fail
    go_cut [8] from 32 to 38 (fun s8 wx=>∃ g8 O' vp' ts',s8= .pointer (some ⟨g8,0,none⟩)∧TblI b0 wx O' t gh m vp' vr ts' wv es {C with gs:=grpA C.gs (lowH r.host)}∧ts'.length=(grpA C.gs (lowH r.host)).length∧EB wx O' g5 SP qa n ca r.ms∧WB wx O' g8 g SP∧Below b0 w wx)
    case first=>
     have HBX:=hid (show Below w.heap.size w (wr.drewN 1) from below_out HB0.out (below_drewH wr 1));have HGd:=hid (show wr.drew.heap[g5]?=some (.cells #[.string SP,.slice qa n ca] 91 (0,0)) from HG.out);have HOd:=hid (HO.out.keep (below_drewH wr 1));have hs3:wr.drew.cell? ⟨w.heap.size,0,none⟩=some (.string SH):=(cells_r3 (show wr.drew.heap[w.heap.size]?=_ from(HB.out.block _ HL3.out).trans hk0)).1;obtain⟨X,hX⟩:∃ X,wr.drew=X:=⟨_,rfl⟩;have hX2:wr.drewN 1=X:=hX;rw [hX] at HGd hs3;rw [hX2] at HOd HBX;have hsX:=Nat.le_trans HS0.out HBX.out.size;have HT1:=hid (loc_start HH.out HS0.out HBX.out);have HE1:=hid (show EB X (takeQ O w.heap.size X.heap.size .loc) g5 SP qa n ca r.ms from⟨HGd.out,take_new _ _ HL0.out (lt_of_heap HGd.out),HOd.out.tx,fun a o e=>take_new _ _ (by have:=own_ge HOd.out (k:=a) (by rw [e];rfl);have:=HL0.out;omega) (HOd.out.lt (g:=a) (by rw [e];rfl))⟩);have HX1:=hid (show BX3 X (takeQ O w.heap.size X.heap.size .loc) w.heap.size SH from⟨hs3,take_new _ _ (Nat.le_refl _) (lt_of_cell hs3)⟩);have HlX:=hid (lt_of_cell hs3);have HbX:=hid (HBX.out.mono HS0.out);obtain⟨O1,hO1⟩:∃ O1,takeQ O w.heap.size X.heap.size .loc=O1:=⟨_,rfl⟩;rw [hO1] at HT1 HE1 HX1;have hS0b:R7S X w.heap.size g5 SH SP:=⟨HX1.out.c0,(cells_e2 HE1.out.bx).1⟩;clear hO1 HBX hs3 hX2 hk0 k0 k2;refine wp_region_noPanic ?_;refine any_begin 9 (by kernel_rfl) (by kernel_rfl) ?_;rw [hX];refine late_begin (fun U=>R7S U w.heap.size g5 SH SP) (fun i=>i== 8) hS0b (fun hS=>?_);refine ltk (i:=0) (some 32) rfl rfl (v:= ?v0b) ?hy0b hS ?rest0b
     case hy0b=>intro w0 hSw;obtain⟨a0,a1⟩:=hSw;go_simp;try with_reducible rfl
     simp only [Act.put,sA,sB,sC];refine ltk (i:=1) (some 33) rfl rfl (v:= ?v1b) ?hy1b hS ?rest1b
     case hy1b=>intro w0 hSw;obtain⟨a0,a1⟩:=hSw;go_simp;try with_reducible rfl
     simp only [Act.put,sA,sB,sC];refine ltk (i:=2) (some 34) rfl rfl (v:= ?v2b) ?hy2b hS ?rest2b
     case hy2b=>intro w0 hSw;obtain⟨a0,a1⟩:=hSw;go_simp;try with_reducible rfl
     simp only [Act.put,sA,sB,sC];refine ltk (i:=4) (some 36) rfl rfl (v:= ?v4b) ?hy4b hS ?rest4b
     case hy4b=>intro w0 hSw;obtain⟨a0,a1⟩:=hSw;go_simp;try with_reducible rfl
     simp only [Act.put,sA,sB,sC];refine ltk (i:=5) (some 37) rfl rfl (v:= ?v5b) ?hy5b hS ?rest5b
     case hy5b=>intro w0 hSw;obtain⟨a0,a1⟩:=hSw;go_simp;try with_reducible rfl
     simp only [Act.put,sA,sB,sC];refine wpAnyD_two (i:=3) (j:=7) (by kernel_rfl) rfl rfl (fun K hK=>?_) (fun K hK=>?_)
     · skip
       go_simp;go_at_call 59
       (with_reducible refine(HGr.out X O1 HT1.out hsX (HMx.out X HbX.out)).mono ?_)
       rintro e w2 ⟨O2,vp2,ts2,rfl,hT2,hl2,hC2⟩;have HL2:=hid hl2;have hz2:=Nat.le_trans hsX hC2.kept.size;have HX2:=hid (HX1.out.keep hC2 (by simp [FG]));have hE2:=HE1.out.keep hC2 HT1.out.lt (by simp [FG]);have hcN:Chg O2 O2 w2 (w2.alloc (.cells #[.int .i64 (g:Int),.string SP] 127 (0,0))) (fun _=>False):=Chg.of_below (below_new _ _) hT2.lt;have HFin:=hid (loc_one (i:=g) (hT2.next hz2 (below_new w2 (.cells #[.int .i64 (g:Int),.string SP] 127 (0,0)))) (hE2.keep hcN hT2.lt (fun h=>h)) (heap_alloc_new w2 (.cells #[.int .i64 (g:Int),.string SP] 127 (0,0))) (Classical.byContradiction fun h=>absurd (hT2.lt _ h) (Nat.lt_irrefl _)) hz2);have HB2:=hid ((HbX.out.trans (hC2.below hsX HT1.out.lo (by simp [FG]))).trans ((below_new w2 (.cells #[.int .i64 (g:Int),.string SP] 127 (0,0))).mono hz2));have hS1b:R7S w2 w.heap.size g5 SH SP:=⟨HX2.out.c0,(cells_e2 hE2.bx).1⟩;have hS2b:R7S (w2.alloc (.cells #[.int .i64 0,.string ⟨#[]⟩] 127 (0,0))) w.heap.size g5 SH SP:=⟨cell_keep (below_new _ _) hS1b.a0,cell_keep (below_new _ _) hS1b.a1⟩;clear hT2 hl2 hC2 hE2 hcN hz2;refine hK _ _ ⟨fun _=>hS1b,?_⟩;clear hK K;try simp only [Act.put,sA,sB,sC]
       refine ltk (i:=6) (some 38) rfl rfl (v:= ?v6b) ?hy6b hS1b ?rest6b
       case hy6b=>intro w0 hSw;obtain⟨a0,a1⟩:=hSw;go_simp;try with_reducible rfl
       simp only [Act.put,sA,sB,sC];refine wpAnyD_one (i:=7) (by kernel_rfl) rfl (fun K hK=>?_);go_simp;refine hK _ _ ⟨fun _=>hS2b,?_⟩;clear hK K;try simp only [Act.put,sA,sB,sC]
       refine wpAnyD_one (i:=8) (by kernel_rfl) rfl (fun K hK=>?_);rw [if_pos (by rfl)];go_simp;refine hK _ _ ⟨fun h=>(by cases h),?_⟩;clear hK K;try simp only [Act.put,sA,sB,sC]
       refine late_done (by kernel_rfl) ?_ _;refine NoPanic.normal ?_;go_wp2;go_meet
       case rel=>
        obtain⟨O9,h1,h2,h3⟩:=HFin.out;exact⟨_,O9,vp2,ts2,rfl,h1,HL2.out,h2,h3,HB2.out⟩
     · skip
       have hS1b:R7S (X.alloc (.cells #[.int .i64 0,.string ⟨#[]⟩] 127 (0,0))) w.heap.size g5 SH SP:=⟨cell_keep (below_new _ _) hS0b.a0,cell_keep (below_new _ _) hS0b.a1⟩;go_simp;refine hK _ _ ⟨fun _=>hS1b,?_⟩;clear hK K;try simp only [Act.put,sA,sB,sC]
       refine wpAnyD_one (i:=3) (by kernel_rfl) rfl (fun K hK=>?_);go_simp;go_at_call 59;have hT1:=HT1.out.next hsX (below_new X (.cells #[.int .i64 0,.string ⟨#[]⟩] 127 (0,0)))
       have hsY:=Nat.le_trans hsX (below_new X (.cells #[.int .i64 0,.string ⟨#[]⟩] 127 (0,0))).size;have hcN:Chg O1 O1 X (X.alloc (.cells #[.int .i64 0,.string ⟨#[]⟩] 127 (0,0))) (fun _=>False):=Chg.of_below (below_new _ _) HT1.out.lt;have hbY:=HbX.out.trans ((below_new X (.cells #[.int .i64 0,.string ⟨#[]⟩] 127 (0,0))).mono hsX)
       (with_reducible refine(HGr.out _ O1 hT1 hsY (HMx.out _ hbY)).mono ?_)
       rintro e w2 ⟨O2,vp2,ts2,rfl,hT2,hl2,hC2⟩;have HL2:=hid hl2;have hX2:=(HX1.out.keep hcN (fun h=>h)).keep hC2 (by simp [FG]);have hE2:=(HE1.out.keep hcN HT1.out.lt (fun h=>h)).keep hC2 hT1.lt (by simp [FG]);have hoX:O1 X.heap.size= .out:=Classical.byContradiction fun h=>absurd (HT1.out.lt _ h) (Nat.lt_irrefl _)
       have hgX:X.heap.size<(X.alloc (.cells #[.int .i64 0,.string ⟨#[]⟩] 127 (0,0))).heap.size:=lt_of_heap (heap_alloc_new X (.cells #[.int .i64 0,.string ⟨#[]⟩] 127 (0,0)));have hzX:w2.heap[X.heap.size]?=some (.cells #[.int .i64 0,.string ⟨#[]⟩] 127 (0,0)):=(hC2.kept.block _ hgX (by rw [hoX];simp [FG])).trans (heap_alloc_new X (.cells #[.int .i64 0,.string ⟨#[]⟩] 127 (0,0)));have HFin:=hid (way_box (i:=g) hT2 hE2 (Nat.le_trans hsY hC2.kept.size) hzX ((hC2.same hgX).trans hoX) hsX);have HB2:=hid (hbY.trans (hC2.below hsY hT1.lo (by simp [FG])));have hS2b:R7S w2 w.heap.size g5 SH SP:=⟨hX2.c0,(cells_e2 hE2.bx).1⟩;have hz0:=frozen_of_row w2 X.heap.size 0 _ _ hzX;have hz1:=(cells_e2 hzX).1;have hzY:=heap_set1 hzX (o:=0) (v:=.int .i64 (g:Int));have hz3:=(cells_e2 hzY).2;have hz4:=frozen_of_row _ X.heap.size 1 _ _ hzY;clear hT2 hl2 hC2 hE2 hcN hX2 hT1 hgX hoX hzX hzY;refine hK _ _ ⟨fun _=>hS2b,?_⟩;clear hK K;try simp only [Act.put,sA,sB,sC]
       refine ltk (i:=6) (some 38) rfl rfl (v:= ?v6c) ?hy6c hS2b ?rest6c
       case hy6c=>intro w0 hSw;obtain⟨a0,a1⟩:=hSw;go_simp;try with_reducible rfl
       simp only [Act.put,sA,sB,sC];refine wpAnyD_one (i:=8) (by kernel_rfl) rfl (fun K hK=>?_);rw [if_pos (by rfl)];go_simp;refine hK _ _ ⟨fun h=>(by cases h),?_⟩;clear hK K;try simp only [Act.put,sA,sB,sC]
       refine late_done (by kernel_rfl) ?_ _;refine NoPanic.normal ?_;go_wp2;go_meet
       case rel=>
        obtain⟨O9,h1,h2,h3,h4⟩:=HFin.out;exact⟨_,O9,vp2,ts2,rfl,h1,HL2.out,h2,h3,HB2.out.trans h4⟩
    case rest=>
     obtain⟨g8,O8,vp8,ts8,rfl,hT8,hl8,hE8,hW8,hb8⟩:=hcut;have hsh:shW g r.path:=⟨by omega,h2⟩;obtain⟨q9,n9,c9,hv9⟩:=own_slice3 (hT8.way g r.path hsh).1;have hw9:=(hT8.way g r.path hsh);rw [hv9] at hw9;have hn9:n9=(C.wy g r.path).length:=row_lenH hw9.1;have hlk:=HLk.out wc hT8.map;rw [hv9] at hlk;obtain⟨pp,np,cp,rfl⟩:=own_slice3 hT8.pth;have hnp:np=ts8.length:=row_lenH hT8.pth;obtain⟨pr,nr,cr,rfl⟩:=own_slice3 hT8.rts;have hnr:nr=es.length:=row_lenH hT8.rts;have hel:es.length=C.es.length:=by rw [←hT8.esc,List.length_map]
     have hgt:g<ts8.length:=by rw [hl8];exact(List.getElem?_eq_some_iff.1 HGa.out).1
     have HT8:=hid hT8;have HL8:=hid hl8;have HE8:=hid hE8;have HW8:=hid hW8;have HB8:=hid hb8;have HV9:=hid hv9;have HN9:=hid hn9;have HNp:=hid hnp;have HNr:=hid (hnr.trans hel);have HEl:=hid hel;have hn9l:n9≤1000000→True:=fun _=>trivial
     have hgnp:g<np:=by omega
     have hnr64:nr≤1000:=by omega
     have hsc:=Nat.le_trans HS0.out hb8.size;have hS8:R8S wc.drew t g8 m g SP (.slice q9 n9 c9):=⟨(idx_cells hT8.bx).2.2.1,(cells_e2 hW8.bx).1,(cells_e2 hW8.bx).2,by
      have hd:WayM wc.drew m C.M wv:=hT8.map;have:=HLk.out wc.drew hd
      rwa [hv9] at this⟩
     clear hn9 hT8 hl8 hE8 hW8 hv9 hw9 hlk hnp hnr hel hgt k0 k2 hk0 HG HO HB HB0 HTk hn9l hb8;go_upto_region 8 with fail
     refine wp_region_noPanic ?_;refine any_begin 7 (by kernel_rfl) (by kernel_rfl) ?_;refine late_begin (fun U=>R8S U t g8 m g SP (.slice q9 n9 c9)) (fun _=>false) hS8 (fun hS=>?_);refine ltk (i:=0) (some 39) rfl rfl (v:= ?v0d) ?hy0d hS ?rest0d
     case hy0d=>intro w0 hSw;obtain⟨a0,a1,a2,a3⟩:=hSw;go_simp;try with_reducible rfl
     simp only [Act.put,sA,sB,sC];refine ltk (i:=1) (some 40) rfl rfl (v:= ?v1d) ?hy1d hS ?rest1d
     case hy1d=>intro w0 hSw;obtain⟨a0,a1,a2,a3⟩:=hSw;go_simp;try with_reducible rfl
     simp only [Act.put,sA,sB,sC];refine ltk (i:=2) (some 41) rfl rfl (v:= ?v2d) ?hy2d hS ?rest2d
     case hy2d=>intro w0 hSw;obtain⟨a0,a1,a2,a3⟩:=hSw;go_simp;try with_reducible rfl
     simp only [Act.put,sA,sB,sC];refine ltk (i:=3) (some 42) rfl rfl (v:= ?v3d) ?hy3d hS ?rest3d
     case hy3d=>intro w0 hSw;obtain⟨a0,a1,a2,a3⟩:=hSw;go_simp;try with_reducible rfl
     simp only [Act.put,sA,sB,sC];refine ltk (i:=4) (some 43) rfl rfl (v:= ?v4d) ?hy4d hS ?rest4d
     case hy4d=>intro w0 hSw;obtain⟨a0,a1,a2,a3⟩:=hSw;go_simp;try with_reducible rfl
     simp only [Act.put,sA,sB,sC];refine late_take (i:=5) (some 44) rfl rfl (by kernel_rfl) (by kernel_rfl) (by kernel_rfl) (by kernel_rfl) (by kernel_rfl) (fun _ _ _ h=>h) (by rfl) (v:=.slice q9 n9 c9) ?hy5d hS ?rest5d
     case hy5d=>intro w0 hSw;exact exec_lookup rfl rfl rfl hSw.look
     simp only [Act.put,sA,sB,sC];refine ltk (i:=6) (some 9) rfl rfl (v:= ?v6d) ?hy6d hS ?rest6d
     case hy6d=>intro w0 hSw;obtain⟨a0,a1,a2,a3⟩:=hSw;go_simp;try with_reducible rfl
     simp only [Act.put,sA,sB,sC];refine late_done (by kernel_rfl) ?_ _;refine NoPanic.normal ?_;go_upto_if 47 with fail
     have HTX:=hid (HT8.out.next hsc (below_drewH wc 1));have HEX:=hid (HE8.out.keep (Chg.of_below (F:=fun _=>False) (below_drewH wc 1) HT8.out.lt) HT8.out.lt (fun h=>h));have HWX:=hid (HW8.out.keep (Chg.of_below (F:=fun _=>False) (below_drewH wc 1) HT8.out.lt) (fun h=>h));have HBX:=hid (HB8.out.trans ((below_drewH wc 1).mono hsc));obtain⟨X,hX⟩:∃ X,wc.drewN 1=X:=⟨_,rfl⟩;have hX2:wc.drew=X:=hX;rw [hX] at HTX HEX HWX HBX;rw [hX2];have hsX:=Nat.le_trans HS0.out HBX.out.size;clear hX hX2 hsc HT8 HE8 HW8 HB8 hS8;go_cut [10] from 47 to 66 (fun _ wx=>∃ O',TblI b0 wx O' t gh m (.slice pp np cp) (.slice pr nr cr) ts8 wv es (addC3 C g r)∧EB wx O' g5 SP qa n ca r.ms∧WB wx O' g8 g SP∧Below b0 w wx∧(C.wy g r.path= []→addE_r (C.tp g) r.path=0))
     case first=>
      by_cases hw:C.wy g r.path= []
      · have hn0:((n9:Int)== 0)=true:=by rw [HN9.out,hw];rfl
        obtain⟨tb,htb⟩:∃ tb,ts8[g]?=some tb:=⟨_,List.getElem?_eq_getElem (by rw [←HNp.out];exact hgnp)⟩;obtain⟨Mi,hMi,hTr⟩:=HTX.out.tri g tb htb;have HAd:=hid (fun (W:World) (hT:TrX W (fun k=>O8 k= .tri g) tb (C.tp g) Mi) (hM:MxAt W)=>addX_any_r hT hM (by have:Mi≤64*C.M:=hMi;omega) (by have:=hTl g;omega) r.path (by omega) (nr:Int));rw [HSP.out] at HAd;have HTb:=hid htb;have HMi:=hid hMi;have HTr:=hid hTr;have HC3:=hid (show addC3 C g r={gs:=grpA C.gs (lowH r.host),tp:=fun j=>if j=g then C.tp g++ [(r.path,(nr:Int))] else C.tp j,wy:=C.wy,es:=C.es,M:=C.M+1} from by unfold addC3;rw [if_pos hw,if_pos hw,HNr.out]);have HHi:=hid (show addHit C g r=decide (addE_r (C.tp g) r.path≠0) from by unfold addHit;rw [if_pos hw]);have HW0:=hid hw;clear hw htb hMi hTr;rcases addE_two (P:=C.tp g) hck with he6|he6
        · have HAp:=hid (show addP_r (C.tp g) r.path (nr:Int)=C.tp g++ [(r.path,(nr:Int))] from by unfold addP_r;rw [he6,if_pos rfl]);rw [he6,HAp.out,show errOf 0= .nilIface from rfl] at HAd;have HE6:=hid he6;clear he6;go_upto_region 10 with fail
          obtain⟨gp,rfl,hpb⟩:=OwnA.cell HTX.out.pth HTb.out;have hS0e:R10S X.drew t g5 g8 gp g tb SP (.slice (some ⟨gp,0,none⟩) np cp) (.slice pr nr cr):=⟨(idx_cells HTX.out.bx).2.1,(idx_cells HTX.out.bx).2.2.2.1,(cells_e2 HWX.out.bx).1,(cells_e2 HEX.out.bx).1,hpb⟩;have HTY:=hid (HTX.out.next hsX (below_drewH X 1));have HRY:=hid (show TrX (X.drewN 1) (fun k=>O8 k= .tri g) tb (C.tp g) Mi from HTr.out.keep (fun _ _ _=>rfl));have HEY:=hid (HEX.out.keep (Chg.of_below (F:=fun _=>False) (below_drewH X 1) HTX.out.lt) HTX.out.lt (fun h=>h));have HWY:=hid (HWX.out.keep (Chg.of_below (F:=fun _=>False) (below_drewH X 1) HTX.out.lt) (fun h=>h));have HBY:=hid (HBX.out.trans ((below_drewH X 1).mono hsX));obtain⟨Y,hY⟩:∃ Y,X.drewN 1=Y:=⟨_,rfl⟩;have hY2:X.drew=Y:=hY;rw [hY] at HTY HRY HEY HWY HBY;rw [hY2] at hS0e;have hsY:=Nat.le_trans HS0.out HBY.out.size;clear hpb hY;refine wp_region_noPanic ?_;refine any_begin 17 (by kernel_rfl) (by kernel_rfl) ?_;rw [hY2];refine late_begin (fun U=>R10S U t g5 g8 gp g tb SP (.slice (some ⟨gp,0,none⟩) np cp) (.slice pr nr cr)) (fun _=>false) hS0e (fun hS=>?_);refine ltk (i:=0) (some 48) rfl rfl (v:= ?v0e) ?hy0e hS ?rest0e
          case hy0e=>intro w0 hSw;obtain⟨a0,a1,a2,a3,a4⟩:=hSw;go_simp;try with_reducible rfl
          simp only [Act.put,sA,sB,sC];refine ltk (i:=1) (some 49) rfl rfl (v:= ?v1e) ?hy1e hS ?rest1e
          case hy1e=>intro w0 hSw;obtain⟨a0,a1,a2,a3,a4⟩:=hSw;go_simp;try with_reducible rfl
          simp only [Act.put,sA,sB,sC];refine ltk (i:=2) (some 50) rfl rfl (v:= ?v2e) ?hy2e hS ?rest2e
          case hy2e=>intro w0 hSw;obtain⟨a0,a1,a2,a3,a4⟩:=hSw;go_simp;try with_reducible rfl
          simp only [Act.put,sA,sB,sC];refine ltk (i:=3) (some 51) rfl rfl (v:= ?v3e) ?hy3e hS ?rest3e
          case hy3e=>intro w0 hSw;obtain⟨a0,a1,a2,a3,a4⟩:=hSw;go_simp;try with_reducible rfl
          simp only [Act.put,sA,sB,sC];refine ltk (i:=4) (some 52) rfl rfl (v:= ?v4e) ?hy4e hS ?rest4e
          case hy4e=>intro w0 hSw;obtain⟨a0,a1,a2,a3,a4⟩:=hSw;go_simp;try with_reducible rfl
          simp only [Act.put,sA,sB,sC];refine ltk (i:=5) (some 53) rfl rfl (v:= ?v5e) ?hy5e hS ?rest5e
          case hy5e=>intro w0 hSw;obtain⟨a0,a1,a2,a3,a4⟩:=hSw;go_simp;try with_reducible rfl
          simp only [Act.put,sA,sB,sC];refine ltk (i:=6) (some 54) rfl rfl (v:= ?v6e) ?hy6e hS ?rest6e
          case hy6e=>intro w0 hSw;obtain⟨a0,a1,a2,a3,a4⟩:=hSw;go_simp;try with_reducible rfl
          simp only [Act.put,sA,sB,sC];refine ltk (i:=7) (some 55) rfl rfl (v:= ?v7e) ?hy7e hS ?rest7e
          case hy7e=>intro w0 hSw;obtain⟨a0,a1,a2,a3,a4⟩:=hSw;go_simp;try with_reducible rfl
          simp only [Act.put,sA,sB,sC];refine ltk (i:=8) (some 56) rfl rfl (v:= ?v8e) ?hy8e hS ?rest8e
          case hy8e=>intro w0 hSw;obtain⟨a0,a1,a2,a3,a4⟩:=hSw;go_simp;try with_reducible rfl
          simp only [Act.put,sA,sB,sC];refine ltk (i:=9) (some 57) rfl rfl (v:= ?v9e) ?hy9e hS ?rest9e
          case hy9e=>intro w0 hSw;obtain⟨a0,a1,a2,a3,a4⟩:=hSw;go_simp;try with_reducible rfl
          simp only [Act.put,sA,sB,sC];refine ltk (i:=10) (some 58) rfl rfl (v:= ?v10e) ?hy10e hS ?rest10e
          case hy10e=>intro w0 hSw;obtain⟨a0,a1,a2,a3,a4⟩:=hSw;go_simp;try with_reducible rfl
          simp only [Act.put,sA,sB,sC];refine ltk (i:=11) (some 59) rfl rfl (v:= ?v11e) ?hy11e hS ?rest11e
          case hy11e=>intro w0 hSw;obtain⟨a0,a1,a2,a3,a4⟩:=hSw;go_simp;try with_reducible rfl
          simp only [Act.put,sA,sB,sC];refine ltk (i:=12) (some 60) rfl rfl (v:= ?v12e) ?hy12e hS ?rest12e
          case hy12e=>intro w0 hSw;obtain⟨a0,a1,a2,a3,a4⟩:=hSw;go_simp;try with_reducible rfl
          simp only [Act.put,sA,sB,sC];refine ltk (i:=13) (some 61) rfl rfl (v:= ?v13e) ?hy13e hS ?rest13e
          case hy13e=>intro w0 hSw;obtain⟨a0,a1,a2,a3,a4⟩:=hSw;go_simp;try with_reducible rfl
          simp only [Act.put,sA,sB,sC];refine ltk (i:=14) (some 62) rfl rfl (v:= ?v14e) ?hy14e hS ?rest14e
          case hy14e=>intro w0 hSw;obtain⟨a0,a1,a2,a3,a4⟩:=hSw;go_simp;try with_reducible rfl
          simp only [Act.put,sA,sB,sC];refine wpAnyD_one (i:=15) (by kernel_rfl) rfl (fun K hK=>?_);go_simp;go_at_call 60
          (with_reducible refine(HAd.out Y HRY.out (HMx.out Y HBY.out)).mono ?_)
          rintro e w2 ⟨rfl,hR2,hK2⟩;obtain⟨hT2,hC2⟩:=HTY.out.addTrie hsY HTb.out HMi.out hR2 hK2;have HE2:=hid (HEY.out.keep hC2 HTY.out.lt (by simp));have HW2:=hid (HWY.out.keep hC2 (by simp));have HB2:=hid (HBY.out.trans (hC2.below hsY HTY.out.lo (by simp)));obtain⟨gp2,hgp2,hpb2⟩:=OwnA.cell hT2.pth HTb.out;injection hgp2 with hgp2
          injection hgp2 with hgp2 _ _
          subst hgp2;have hS2e:R10S w2 t g5 g8 gp g tb SP (.slice (some ⟨gp,0,none⟩) np cp) (.slice pr nr cr):=⟨(idx_cells hT2.bx).2.1,(idx_cells hT2.bx).2.2.2.1,(cells_e2 HW2.out.bx).1,(cells_e2 HE2.out.bx).1,hpb2⟩;have HT2:=hid hT2;clear hT2 hC2 hR2 hK2 hpb2;refine hK _ _ ⟨fun _=>hS2e,?_⟩;clear hK K;try simp only [Act.put,sA,sB,sC]
          refine ltk (i:=16) (some 10) rfl rfl (v:= ?v16e) ?hy16e hS2e ?rest16e
          case hy16e=>intro w0 hSw;obtain⟨a0,a1,a2,a3,a4⟩:=hSw;go_simp;try with_reducible rfl
          simp only [Act.put,sA,sB,sC];refine late_done (by kernel_rfl) ?_ _;refine NoPanic.normal ?_;go_wp2;go_meet
          case rel=>exact⟨_,by rw [HC3.out];exact HT2.out,HE2.out,HW2.out,HB2.out,fun _=>HE6.out⟩
        · have HAp:=hid (show addP_r (C.tp g) r.path (nr:Int)=C.tp g from by unfold addP_r;rw [he6];rfl);rw [he6,HAp.out,show errOf 6= .iface 74 (.int .i64 6) from rfl] at HAd;have HE6:=hid he6;clear he6;go_upto_region 10 with fail
          obtain⟨gp,rfl,hpb⟩:=OwnA.cell HTX.out.pth HTb.out;have hS0f:R10S X.drew t g5 g8 gp g tb SP (.slice (some ⟨gp,0,none⟩) np cp) (.slice pr nr cr):=⟨(idx_cells HTX.out.bx).2.1,(idx_cells HTX.out.bx).2.2.2.1,(cells_e2 HWX.out.bx).1,(cells_e2 HEX.out.bx).1,hpb⟩;have HTY:=hid (HTX.out.next hsX (below_drewH X 1));have HRY:=hid (show TrX (X.drewN 1) (fun k=>O8 k= .tri g) tb (C.tp g) Mi from HTr.out.keep (fun _ _ _=>rfl));have HEY:=hid (HEX.out.keep (Chg.of_below (F:=fun _=>False) (below_drewH X 1) HTX.out.lt) HTX.out.lt (fun h=>h));have HWY:=hid (HWX.out.keep (Chg.of_below (F:=fun _=>False) (below_drewH X 1) HTX.out.lt) (fun h=>h));have HBY:=hid (HBX.out.trans ((below_drewH X 1).mono hsX));obtain⟨Y,hY⟩:∃ Y,X.drewN 1=Y:=⟨_,rfl⟩;have hY2:X.drew=Y:=hY;rw [hY] at HTY HRY HEY HWY HBY;rw [hY2] at hS0f;have hsY:=Nat.le_trans HS0.out HBY.out.size;clear hpb hY;refine wp_region_noPanic ?_;refine any_begin 17 (by kernel_rfl) (by kernel_rfl) ?_;rw [hY2];refine late_begin (fun U=>R10S U t g5 g8 gp g tb SP (.slice (some ⟨gp,0,none⟩) np cp) (.slice pr nr cr)) (fun _=>false) hS0f (fun hS=>?_);refine ltk (i:=0) (some 48) rfl rfl (v:= ?v0f) ?hy0f hS ?rest0f
          case hy0f=>intro w0 hSw;obtain⟨a0,a1,a2,a3,a4⟩:=hSw;go_simp;try with_reducible rfl
          simp only [Act.put,sA,sB,sC];refine ltk (i:=1) (some 49) rfl rfl (v:= ?v1f) ?hy1f hS ?rest1f
          case hy1f=>intro w0 hSw;obtain⟨a0,a1,a2,a3,a4⟩:=hSw;go_simp;try with_reducible rfl
          simp only [Act.put,sA,sB,sC];refine ltk (i:=2) (some 50) rfl rfl (v:= ?v2f) ?hy2f hS ?rest2f
          case hy2f=>intro w0 hSw;obtain⟨a0,a1,a2,a3,a4⟩:=hSw;go_simp;try with_reducible rfl
          simp only [Act.put,sA,sB,sC];refine ltk (i:=3) (some 51) rfl rfl (v:= ?v3f) ?hy3f hS ?rest3f
          case hy3f=>intro w0 hSw;obtain⟨a0,a1,a2,a3,a4⟩:=hSw;go_simp;try with_reducible rfl
          simp only [Act.put,sA,sB,sC];refine ltk (i:=4) (some 52) rfl rfl (v:= ?v4f) ?hy4f hS ?rest4f
          case hy4f=>intro w0 hSw;obtain⟨a0,a1,a2,a3,a4⟩:=hSw;go_simp;try with_reducible rfl
          simp only [Act.put,sA,sB,sC];refine ltk (i:=5) (some 53) rfl rfl (v:= ?v5f) ?hy5f hS ?rest5f
          case hy5f=>intro w0 hSw;obtain⟨a0,a1,a2,a3,a4⟩:=hSw;go_simp;try with_reducible rfl
          simp only [Act.put,sA,sB,sC];refine ltk (i:=6) (some 54) rfl rfl (v:= ?v6f) ?hy6f hS ?rest6f
          case hy6f=>intro w0 hSw;obtain⟨a0,a1,a2,a3,a4⟩:=hSw;go_simp;try with_reducible rfl
          simp only [Act.put,sA,sB,sC];refine ltk (i:=7) (some 55) rfl rfl (v:= ?v7f) ?hy7f hS ?rest7f
          case hy7f=>intro w0 hSw;obtain⟨a0,a1,a2,a3,a4⟩:=hSw;go_simp;try with_reducible rfl
          simp only [Act.put,sA,sB,sC];refine ltk (i:=8) (some 56) rfl rfl (v:= ?v8f) ?hy8f hS ?rest8f
          case hy8f=>intro w0 hSw;obtain⟨a0,a1,a2,a3,a4⟩:=hSw;go_simp;try with_reducible rfl
          simp only [Act.put,sA,sB,sC];refine ltk (i:=9) (some 57) rfl rfl (v:= ?v9f) ?hy9f hS ?rest9f
          case hy9f=>intro w0 hSw;obtain⟨a0,a1,a2,a3,a4⟩:=hSw;go_simp;try with_reducible rfl
          simp only [Act.put,sA,sB,sC];refine ltk (i:=10) (some 58) rfl rfl (v:= ?v10f) ?hy10f hS ?rest10f
          case hy10f=>intro w0 hSw;obtain⟨a0,a1,a2,a3,a4⟩:=hSw;go_simp;try with_reducible rfl
          simp only [Act.put,sA,sB,sC];refine ltk (i:=11) (some 59) rfl rfl (v:= ?v11f) ?hy11f hS ?rest11f
          case hy11f=>intro w0 hSw;obtain⟨a0,a1,a2,a3,a4⟩:=hSw;go_simp;try with_reducible rfl
          simp only [Act.put,sA,sB,sC];refine ltk (i:=12) (some 60) rfl rfl (v:= ?v12f) ?hy12f hS ?rest12f
          case hy12f=>intro w0 hSw;obtain⟨a0,a1,a2,a3,a4⟩:=hSw;go_simp;try with_reducible rfl
          simp only [Act.put,sA,sB,sC];refine ltk (i:=13) (some 61) rfl rfl (v:= ?v13f) ?hy13f hS ?rest13f
          case hy13f=>intro w0 hSw;obtain⟨a0,a1,a2,a3,a4⟩:=hSw;go_simp;try with_reducible rfl
          simp only [Act.put,sA,sB,sC];refine ltk (i:=14) (some 62) rfl rfl (v:= ?v14f) ?hy14f hS ?rest14f
          case hy14f=>intro w0 hSw;obtain⟨a0,a1,a2,a3,a4⟩:=hSw;go_simp;try with_reducible rfl
          simp only [Act.put,sA,sB,sC];refine wpAnyD_one (i:=15) (by kernel_rfl) rfl (fun K hK=>?_);go_simp;go_at_call 60
          (with_reducible refine(HAd.out Y HRY.out (HMx.out Y HBY.out)).mono ?_)
          rintro e w2 ⟨rfl,hR2,hK2⟩;obtain⟨hT2,hC2⟩:=HTY.out.addTrie hsY HTb.out HMi.out hR2 hK2;have HE2:=hid (HEY.out.keep hC2 HTY.out.lt (by simp));have HW2:=hid (HWY.out.keep hC2 (by simp));have HB2:=hid (HBY.out.trans (hC2.below hsY HTY.out.lo (by simp)));obtain⟨gp2,hgp2,hpb2⟩:=OwnA.cell hT2.pth HTb.out;injection hgp2 with hgp2
          injection hgp2 with hgp2 _ _
          subst hgp2;have hS2f:R10S w2 t g5 g8 gp g tb SP (.slice (some ⟨gp,0,none⟩) np cp) (.slice pr nr cr):=⟨(idx_cells hT2.bx).2.1,(idx_cells hT2.bx).2.2.2.1,(cells_e2 HW2.out.bx).1,(cells_e2 HE2.out.bx).1,hpb2⟩;have HT2:=hid hT2;clear hT2 hC2 hR2 hK2 hpb2;refine hK _ _ ⟨fun _=>hS2f,?_⟩;clear hK K;try simp only [Act.put,sA,sB,sC]
          refine ltk (i:=16) (some 10) rfl rfl (v:= ?v16f) ?hy16f hS2f ?rest16f
          case hy16f=>intro w0 hSw;obtain⟨a0,a1,a2,a3,a4⟩:=hSw;go_simp;try with_reducible rfl
          simp only [Act.put,sA,sB,sC];refine late_done (by kernel_rfl) ?_ _;refine NoPanic.normal ?_;go_wp2;go_ret;exact .inl ⟨by rw [HHi.out,HE6.out];rfl,rfl,HB2.out⟩
      · have hn0:((n9:Int)== 0)=false:=by
         have:(C.wy g r.path).length≠0:=fun e=>hw (List.length_eq_zero_iff.1 e)
         rw [beq_eq_false_iff_ne];have:=HN9.out;omega
        have HC3:=hid (show addC3 C g r={gs:=grpA C.gs (lowH r.host),tp:=C.tp,wy:=C.wy,es:=C.es,M:=C.M} from by unfold addC3;rw [if_neg hw,if_neg hw]);have HW0:=hid hw;clear hw;go_wp2;go_meet
        case rel=>exact⟨_,by rw [HC3.out];exact HTX.out,HEX.out,HWX.out,HBX.out,fun h=>absurd h HW0.out⟩
     case rest=>
      obtain⟨O3,hT3,hE3,hW3,hb3,hA3⟩:=hcut;have hsh:shW g r.path:=⟨by omega,h2⟩;have hw9:=hT3.way g r.path hsh;rw [HV9.out] at hw9;have HT3:=hid hT3;have HE3:=hid hE3;have HW3:=hid hW3;have HB3:=hid hb3;have HA3:=hid hA3;have HW9:=hid (show OwnN wc 0 (.slice q9 n9 c9) (C.wy g r.path)∧∀ b,(Value.slice q9 n9 c9).ownBlock=some b→O3 b= .way g r.path from hw9);have HSh:=hid hsh;have hsc:=Nat.le_trans HS0.out hb3.size;have hn9b:n9≤1000:=by rw [HN9.out];exact hWl g r.path
      clear hT3 hE3 hW3 hb3 hA3 hw9 hsh HTX HEX HWX HBX hsX;go_wp2;go_loopg [69] (n9+1) (fun gk s69 wr=>∃ k:Nat,k≤n9∧gk=n9-k+1∧s69= .int .i64 (k:Int)∧(∀ y∈(C.wy g r.path).take k,hit1 C.es r.ms y=false)∧Below wc.heap.size wc wr)
      case atStart=>exact⟨0,Nat.zero_le _,rfl,rfl,by simp,Below.refl _ _⟩
      case round=>
       obtain⟨k,hk,rfl,rfl,hno,hbk⟩:=hrel;have HNo:=hid hno;have HBk:=hid hbk;have HTk:=hid (HT3.out.next hsc hbk);have hEc:=Chg.of_below (F:=fun _=>False) hbk HT3.out.lt;have HEk:=hid (HE3.out.keep hEc HT3.out.lt (fun h=>h));have HWk:=hid (HW3.out.keep hEc (fun h=>h));have HBb:=hid (HB3.out.trans (hbk.mono hsc));have H9k:=hid (HW9.out.1.keep hbk);have hsk:=Nat.le_trans hsc hbk.size;clear hno hbk hEc;by_cases hin:k<n9
       · obtain⟨y,hy⟩:∃ y,(C.wy g r.path)[k]?=some y:=⟨_,List.getElem?_eq_getElem (by rw [←HN9.out];exact hin)⟩;obtain⟨j,rfl,hj⟩:=hwy g r.path y (List.mem_of_getElem? hy);obtain⟨g9,rfl,q1⟩:=OwnN.num (H9k.out.lower (Nat.zero_le _)) hy;obtain⟨z,hz⟩:∃ z,es[j]?=some z:=⟨_,List.getElem?_eq_getElem (by rw [HEl.out];exact hj)⟩;obtain⟨gr,rfl,z0,z1⟩:=OwnE_q.cells HTk.out.rts hz;have hjn:j<nr:=by rw [HNr.out];exact hj
         have hzm:z.ms.length≤140737488355328:=by
          have h9:(z.path,z.ms)∈C.es:=by
           have:=HTk.out.esc;rw [show (addC3 C g r).es=C.es from rfl] at this;rw [←this];exact List.mem_map.2 ⟨z,List.mem_of_getElem? hz,rfl⟩
          exact hml _ h9
         have HMe:=hid (fun (W:World) (hb:Below wr.heap.size wr W)=>pmeets_any r.ms z.ms qa z.q n ca z.ms.length z.k HN.out rfl (by omega) hzm SP (str z.path) W (HEk.out.tx.next hb) ((HTk.out.ems z (List.mem_of_getElem? hz)).1.next hb));have HH1:=hid (hit1_at (E:=C.es) (by have:=HTk.out.esc;rwa [show (addC3 C g r).es=C.es from rfl] at this) hz r.ms);have HMm:=hid (List.mem_of_getElem? hy);have HTk1:=hid (show (C.wy g r.path).take (k+1)=(C.wy g r.path).take k++ [(j:Int)] from by rw [List.take_add_one,hy];rfl);obtain⟨SQ,hSQ⟩:∃ S,str z.path=S:=⟨_,rfl⟩;obtain⟨zn,hzn⟩:∃ zn,z.ms.length=zn:=⟨_,rfl⟩;rw [hSQ,hzn] at HMe;rw [hSQ] at z0;rw [hzn] at z1;obtain⟨v,hv⟩:∃ v,meetR r.ms z.ms=v:=⟨_,rfl⟩;rw [hv] at HMe HH1;have hS16:R16S wr.drew t g5 gr j SP SQ (.slice (some ⟨gr,0,none⟩) nr cr) (.slice qa n ca) (.slice z.q zn z.k):=⟨(idx_cells HTk.out.bx).2.2.2.1,(cells_e2 HEk.out.bx).1,(cells_e2 HEk.out.bx).2,z0,z1⟩;clear hy hj hz z0 z1 hzm hSQ hzn hv HEk HTk H9k;cases v with
         |true=>
          have HHt:=hid (show addHit C g r=true from by
           unfold addHit;rw [if_neg (fun e=>by have:=HMm.out;rw [e] at this;cases this)];exact List.any_eq_true.2 ⟨_,HMm.out,HH1.out⟩)
          go_upto_region 16 with fail
          have HBY:=hid (HBb.out.trans ((below_drewH wr 1).mono hsk));have hKY:Below wr.heap.size wr (wr.drewN 1):=below_drewH wr 1;have HBK:=hid (HBk.out.trans (hKY.mono HBk.out.size));obtain⟨Y,hY⟩:∃ Y,wr.drewN 1=Y:=⟨_,rfl⟩;have hY2:wr.drew=Y:=hY;rw [hY] at HBY hKY HBK;rw [hY2] at hS16;clear hY;refine wp_region_noPanic ?_;refine any_begin 9 (by kernel_rfl) (by kernel_rfl) ?_;rw [hY2];refine late_begin (fun U=>R16S U t g5 gr j SP SQ (.slice (some ⟨gr,0,none⟩) nr cr) (.slice qa n ca) (.slice z.q zn z.k)) (fun _=>false) hS16 (fun hS=>?_);refine ltk (i:=0) (some 73) rfl rfl (v:= ?v0g) ?hy0g hS ?rest0g
          case hy0g=>intro w0 hSw;obtain⟨a0,a1,a2,a3,a4⟩:=hSw;go_simp;try with_reducible rfl
          simp only [Act.put,sA,sB,sC];refine ltk (i:=1) (some 74) rfl rfl (v:= ?v1g) ?hy1g hS ?rest1g
          case hy1g=>intro w0 hSw;obtain⟨a0,a1,a2,a3,a4⟩:=hSw;go_simp;try with_reducible rfl
          simp only [Act.put,sA,sB,sC];refine ltk (i:=2) (some 75) rfl rfl (v:= ?v2g) ?hy2g hS ?rest2g
          case hy2g=>intro w0 hSw;obtain⟨a0,a1,a2,a3,a4⟩:=hSw;go_simp;try with_reducible rfl
          simp only [Act.put,sA,sB,sC];refine ltk (i:=3) (some 76) rfl rfl (v:= ?v3g) ?hy3g hS ?rest3g
          case hy3g=>intro w0 hSw;obtain⟨a0,a1,a2,a3,a4⟩:=hSw;go_simp;try with_reducible rfl
          simp only [Act.put,sA,sB,sC];refine ltk (i:=4) (some 77) rfl rfl (v:= ?v4g) ?hy4g hS ?rest4g
          case hy4g=>intro w0 hSw;obtain⟨a0,a1,a2,a3,a4⟩:=hSw;go_simp;try with_reducible rfl
          simp only [Act.put,sA,sB,sC];refine ltk (i:=5) (some 78) rfl rfl (v:= ?v5g) ?hy5g hS ?rest5g
          case hy5g=>intro w0 hSw;obtain⟨a0,a1,a2,a3,a4⟩:=hSw;go_simp;try with_reducible rfl
          simp only [Act.put,sA,sB,sC];refine ltk (i:=6) (some 79) rfl rfl (v:= ?v6g) ?hy6g hS ?rest6g
          case hy6g=>intro w0 hSw;obtain⟨a0,a1,a2,a3,a4⟩:=hSw;go_simp;try with_reducible rfl
          simp only [Act.put,sA,sB,sC];refine ltk (i:=7) (some 80) rfl rfl (v:= ?v7g) ?hy7g hS ?rest7g
          case hy7g=>intro w0 hSw;obtain⟨a0,a1,a2,a3,a4⟩:=hSw;go_simp;try with_reducible rfl
          simp only [Act.put,sA,sB,sC];refine wpAnyD_one (i:=8) (by kernel_rfl) rfl (fun K hK=>?_);go_simp;go_at_call 61
          (with_reducible refine(HMe.out Y hKY).mono ?_)
          rintro e w2 ⟨rfl,hb2⟩;have HB2:=hid (HBY.out.trans (hb2.mono (Nat.le_trans hsk hKY.size)));have hS2:R16S w2 t g5 gr j SP SQ (.slice (some ⟨gr,0,none⟩) nr cr) (.slice qa n ca) (.slice z.q zn z.k):=⟨cell_keep hb2 hS16.c3,cell_keep hb2 hS16.e0,cell_keep hb2 hS16.e1,cell_keep hb2 hS16.x0,cell_keep hb2 hS16.x1⟩;clear hb2;refine hK _ _ ⟨fun _=>hS2,?_⟩;clear hK K;try simp only [Act.put,sA,sB,sC]
          refine late_done (by kernel_rfl) ?_ _;refine NoPanic.normal ?_;go_wp2;go_ret;exact .inl ⟨HHt.out,rfl,HB2.out⟩
         |false=>
          go_upto_region 16 with fail
          have HBY:=hid (HBb.out.trans ((below_drewH wr 1).mono hsk));have hKY:Below wr.heap.size wr (wr.drewN 1):=below_drewH wr 1;have HBK:=hid (HBk.out.trans (hKY.mono HBk.out.size));obtain⟨Y,hY⟩:∃ Y,wr.drewN 1=Y:=⟨_,rfl⟩;have hY2:wr.drew=Y:=hY;rw [hY] at HBY hKY HBK;rw [hY2] at hS16;clear hY;refine wp_region_noPanic ?_;refine any_begin 9 (by kernel_rfl) (by kernel_rfl) ?_;rw [hY2];refine late_begin (fun U=>R16S U t g5 gr j SP SQ (.slice (some ⟨gr,0,none⟩) nr cr) (.slice qa n ca) (.slice z.q zn z.k)) (fun _=>false) hS16 (fun hS=>?_);refine ltk (i:=0) (some 73) rfl rfl (v:= ?v0h) ?hy0h hS ?rest0h
          case hy0h=>intro w0 hSw;obtain⟨a0,a1,a2,a3,a4⟩:=hSw;go_simp;try with_reducible rfl
          simp only [Act.put,sA,sB,sC];refine ltk (i:=1) (some 74) rfl rfl (v:= ?v1h) ?hy1h hS ?rest1h
          case hy1h=>intro w0 hSw;obtain⟨a0,a1,a2,a3,a4⟩:=hSw;go_simp;try with_reducible rfl
          simp only [Act.put,sA,sB,sC];refine ltk (i:=2) (some 75) rfl rfl (v:= ?v2h) ?hy2h hS ?rest2h
          case hy2h=>intro w0 hSw;obtain⟨a0,a1,a2,a3,a4⟩:=hSw;go_simp;try with_reducible rfl
          simp only [Act.put,sA,sB,sC];refine ltk (i:=3) (some 76) rfl rfl (v:= ?v3h) ?hy3h hS ?rest3h
          case hy3h=>intro w0 hSw;obtain⟨a0,a1,a2,a3,a4⟩:=hSw;go_simp;try with_reducible rfl
          simp only [Act.put,sA,sB,sC];refine ltk (i:=4) (some 77) rfl rfl (v:= ?v4h) ?hy4h hS ?rest4h
          case hy4h=>intro w0 hSw;obtain⟨a0,a1,a2,a3,a4⟩:=hSw;go_simp;try with_reducible rfl
          simp only [Act.put,sA,sB,sC];refine ltk (i:=5) (some 78) rfl rfl (v:= ?v5h) ?hy5h hS ?rest5h
          case hy5h=>intro w0 hSw;obtain⟨a0,a1,a2,a3,a4⟩:=hSw;go_simp;try with_reducible rfl
          simp only [Act.put,sA,sB,sC];refine ltk (i:=6) (some 79) rfl rfl (v:= ?v6h) ?hy6h hS ?rest6h
          case hy6h=>intro w0 hSw;obtain⟨a0,a1,a2,a3,a4⟩:=hSw;go_simp;try with_reducible rfl
          simp only [Act.put,sA,sB,sC];refine ltk (i:=7) (some 80) rfl rfl (v:= ?v7h) ?hy7h hS ?rest7h
          case hy7h=>intro w0 hSw;obtain⟨a0,a1,a2,a3,a4⟩:=hSw;go_simp;try with_reducible rfl
          simp only [Act.put,sA,sB,sC];refine wpAnyD_one (i:=8) (by kernel_rfl) rfl (fun K hK=>?_);go_simp;go_at_call 61
          (with_reducible refine(HMe.out Y hKY).mono ?_)
          rintro e w2 ⟨rfl,hb2⟩;have HB2:=hid (HBK.out.trans (hb2.mono (Nat.le_trans HBk.out.size hKY.size)));have hS2:R16S w2 t g5 gr j SP SQ (.slice (some ⟨gr,0,none⟩) nr cr) (.slice qa n ca) (.slice z.q zn z.k):=⟨cell_keep hb2 hS16.c3,cell_keep hb2 hS16.e0,cell_keep hb2 hS16.e1,cell_keep hb2 hS16.x0,cell_keep hb2 hS16.x1⟩;clear hb2;refine hK _ _ ⟨fun _=>hS2,?_⟩;clear hK K;try simp only [Act.put,sA,sB,sC]
          refine late_done (by kernel_rfl) ?_ _;refine NoPanic.normal ?_;go_wp2;go_roundg (n9-(k+1)+1)
          case measure=>omega
          case rel=>
           refine⟨k+1,by omega,rfl,by push_cast;go_num,?_,HB2.out⟩;intro u hu;rw [HTk1.out,List.mem_append,List.mem_singleton] at hu;rcases hu with hu|hu
           · exact HNo.out u hu
           · rw [hu];exact HH1.out
       · obtain rfl:n9=k:=by omega
         have HCf:=hid (show ({gs:=(addC3 C g r).gs,tp:=(addC3 C g r).tp,wy:=fun j p=>if j=g∧p=r.path then C.wy g r.path++ [(nr:Int)] else (addC3 C g r).wy j p,es:=(addC3 C g r).es++ [(r.path,r.ms)],M:=(addC3 C g r).M+1}:QC)=addC C g r from by
          unfold addC3 addC;rw [HNr.out];dsimp only;split <;> rfl)
         have HHf:=hid (show addHit C g r=false from by
          unfold addHit;split
          · rename_i h;rw [HA3.out h];rfl
          · exact hitW_no HN9.out.symm HNo.out)
         have hS19:R19S wr.drew t g8 m g SP (.slice pr nr cr):=⟨(idx_cells HTk.out.bx).2.2.1,(idx_cells HTk.out.bx).2.2.2.1,(cells_e2 HWk.out.bx).1,(cells_e2 HWk.out.bx).2⟩;have hcN:=Chg.of_below (F:=fun _=>False) (below_drewH wr 1) HTk.out.lt;have HTX:=hid (HTk.out.next hsk (below_drewH wr 1));have HEX:=hid (HEk.out.keep hcN HTk.out.lt (fun h=>h));have HWX:=hid (HWk.out.keep hcN (fun h=>h));have HBX:=hid (HBb.out.trans ((below_drewH wr 1).mono hsk));have H9X:=hid (H9k.out.keep (below_drewH wr 1));obtain⟨X,hX⟩:∃ X,wr.drewN 1=X:=⟨_,rfl⟩;have hX2:wr.drew=X:=hX;rw [hX] at HTX HEX HWX HBX H9X;have hsX:=Nat.le_trans HS0.out HBX.out.size;have hMM:(addC3 C g r).M<1000000:=by unfold addC3;dsimp only;split <;> omega
         clear hX hcN HTk HEk HWk H9k;go_upto_region 19 with fail
         rw [hX2] at hS19;refine wp_region_noPanic ?_;refine any_begin 14 (by kernel_rfl) (by kernel_rfl) ?_;rw [hX2];refine late_begin (fun U=>R19S U t g8 m g SP (.slice pr nr cr)) (fun i=>i== 13) hS19 (fun hS=>?_);refine ltk (i:=0) (some 84) rfl rfl (v:= ?v0i) ?hy0i hS ?rest0i
         case hy0i=>intro w0 hSw;obtain⟨a0,a1,a2,a3⟩:=hSw;go_simp;try with_reducible rfl
         simp only [Act.put,sA,sB,sC];refine ltk (i:=1) (some 85) rfl rfl (v:= ?v1i) ?hy1i hS ?rest1i
         case hy1i=>intro w0 hSw;obtain⟨a0,a1,a2,a3⟩:=hSw;go_simp;try with_reducible rfl
         simp only [Act.put,sA,sB,sC];refine ltk (i:=2) (some 86) rfl rfl (v:= ?v2i) ?hy2i hS ?rest2i
         case hy2i=>intro w0 hSw;obtain⟨a0,a1,a2,a3⟩:=hSw;go_simp;try with_reducible rfl
         simp only [Act.put,sA,sB,sC];refine ltk (i:=3) (some 87) rfl rfl (v:= ?v3i) ?hy3i hS ?rest3i
         case hy3i=>intro w0 hSw;obtain⟨a0,a1,a2,a3⟩:=hSw;go_simp;try with_reducible rfl
         simp only [Act.put,sA,sB,sC];refine ltk (i:=4) (some 88) rfl rfl (v:= ?v4i) ?hy4i hS ?rest4i
         case hy4i=>intro w0 hSw;obtain⟨a0,a1,a2,a3⟩:=hSw;go_simp;try with_reducible rfl
         simp only [Act.put,sA,sB,sC];refine ltk (i:=5) (some 89) rfl rfl (v:= ?v5i) ?hy5i hS ?rest5i
         case hy5i=>intro w0 hSw;obtain⟨a0,a1,a2,a3⟩:=hSw;go_simp;try with_reducible rfl
         simp only [Act.put,sA,sB,sC];refine ltk (i:=6) (some 90) rfl rfl (v:= ?v6i) ?hy6i hS ?rest6i
         case hy6i=>intro w0 hSw;obtain⟨a0,a1,a2,a3⟩:=hSw;go_simp;try with_reducible rfl
         simp only [Act.put,sA,sB,sC];refine ltk (i:=7) (some 91) rfl rfl (v:= ?v7i) ?hy7i hS ?rest7i
         case hy7i=>intro w0 hSw;obtain⟨a0,a1,a2,a3⟩:=hSw;go_simp;try with_reducible rfl
         simp only [Act.put,sA,sB,sC];refine ltk (i:=8) (some 92) rfl rfl (v:= ?v8i) ?hy8i hS ?rest8i
         case hy8i=>intro w0 hSw;obtain⟨a0,a1,a2,a3⟩:=hSw;go_simp;try with_reducible rfl
         simp only [Act.put,sA,sB,sC];refine ltk (i:=9) (some 93) rfl rfl (v:= ?v9i) ?hy9i hS ?rest9i
         case hy9i=>intro w0 hSw;obtain⟨a0,a1,a2,a3⟩:=hSw;go_simp;try with_reducible rfl
         simp only [Act.put,sA,sB,sC];refine ltk (i:=10) (some 94) rfl rfl (v:= ?v10i) ?hy10i hS ?rest10i
         case hy10i=>intro w0 hSw;obtain⟨a0,a1,a2,a3⟩:=hSw;go_simp;try with_reducible rfl
         simp only [Act.put,sA,sB,sC];refine wpAnyD_one (i:=11) (by kernel_rfl) rfl (fun K hK=>?_);have hS2i:R19S (X.alloc (.cells #[.int .i64 (nr:Int)] 3 (0,0))) t g8 m g SP (.slice pr nr cr):=⟨cell_keep (below_new _ _) hS19.c2,cell_keep (below_new _ _) hS19.c3,cell_keep (below_new _ _) hS19.a0,cell_keep (below_new _ _) hS19.a1⟩;go_simp;refine hK _ _ ⟨fun _=>hS2i,?_⟩;clear hK K;try simp only [Act.put,sA,sB,sC]
         refine wpAnyD_one (i:=12) (by kernel_rfl) rfl (fun K hK=>?_);rw [if_pos (by rfl)];refine wp_append_own_at (.tmp 89) (.tmp 95) 87 rfl 0 3 i0 _ 1 8 Tryz.underlying87 hi0 iy0 iy1 iy2 rfl (by decide) (.slice q9 n9 c9) n9 ((C.wy g r.path).flatMap fun x:Int=>[.int .i64 x]) (by go_simp) (by have h8:=H9X.out.alloc (.cells #[.int .i64 (nr:Int)] 3 (0,0));unfold OwnN OwnR at h8;rw [←HN9.out] at h8;exact h8) ⟨X.heap.size,0,none⟩ 1 1 [.int .i64 (nr:Int)] (by go_simp) rfl (cells_new X _ _) (by simp [Value.oneCell']) (by unfold maxLen;omega) (by omega) (Nat.zero_le _) ?_;intro v7 w7 hown hgr hvv;obtain⟨p7,L7,c7,rfl⟩:=own_slice3 hown;have HO7:=hid (show OwnN w7 0 (.slice p7 L7 c7) (C.wy g r.path++ [(nr:Int)]) from OwnR.put HN9.out.symm hown);have hb7:=(grown_blk hgr (lt_of_heap HTX.out.bx) (fun e=>by have:=HW9.out.2 t e;have h9:=HTX.out.ot;rw [h9] at this;cases this)).trans HTX.out.bx;have hw7:=(grown_blk hgr (lt_of_heap HWX.out.bx) (fun e=>by have:=HW9.out.2 g8 e;have h9:=HWX.out.ob;rw [h9] at this;cases this)).trans HWX.out.bx;have hm7:WayM w7 m (addC3 C g r).M wv:=HTX.out.map.keep (grown_blk hgr HTX.out.map.lt (fun e=>by have:=HW9.out.2 m e;have h9:=HTX.out.om;rw [h9] at this;cases this));have hS3i:R19S w7 t g8 m g SP (.slice pr nr cr):=⟨(idx_cells hb7).2.2.1,(idx_cells hb7).2.2.2.1,(cells_e2 hw7).1,(cells_e2 hw7).2⟩;obtain⟨w8,hrun,hm8,hg8⟩:=hm7.put hMM HSh.out (q:=p7) (n:=L7) (c:=c7);rw [show wayV g r.path= .agg #[.int .i64 (g:Int),.string SP] from by rw [←HSP.out];rfl] at hrun;have hvw:wv g r.path= .slice q9 n9 c9:=HV9.out;obtain⟨hT8,hC8⟩:=HTX.out.addWay hsX HSh.out (by rw [hvw];exact hgr) HO7.out (by rw [hvw];exact hvv) hm8 hg8;have HT8:=hid hT8;have HE8:=hid (HEX.out.keep hC8 HTX.out.lt (by simp));have HB8:=hid (HBX.out.trans (hC8.below hsX HTX.out.lo (by simp)));have HRun:=hid hrun;obtain⟨O8',hO8⟩:∃ O8',takeQ O3 X.heap.size w8.heap.size (.way g r.path)=O8':=⟨_,rfl⟩;rw [hO8] at HT8 HE8;clear hown hgr hvv hb7 hw7 hm7 hm8 hg8 hT8 hC8 hvw hO8 hrun;refine hK _ _ ⟨fun _=>hS3i,?_⟩;clear hK K;simp only [Act.put,sA];refine wpAnyD_one (i:=13) (by kernel_rfl) rfl (fun K hK=>?_);rw [if_pos (by rfl)];refine wp_mapUpdate rfl rfl rfl rfl HRun.out ?_;refine hK _ _ ⟨fun h=>(by cases h),?_⟩;clear hK K;try simp only [Act.put]
         refine late_done (by kernel_rfl) ?_ _;refine NoPanic.normal ?_;go_upto_region 20 with fail
         have hS20:R20S w8.drew t g5 SP (.slice pr nr cr) (.slice qa n ca):=⟨(idx_cells HT8.out.bx).2.2.2.1,(cells_e2 HE8.out.bx).1,(cells_e2 HE8.out.bx).2⟩;have hs8:=Nat.le_trans HS0.out HB8.out.size;have HTY:=hid (HT8.out.next hs8 (below_drewH w8 1));have HEY:=hid (HE8.out.keep (Chg.of_below (F:=fun _=>False) (below_drewH w8 1) HT8.out.lt) HT8.out.lt (fun h=>h));have HBY:=hid (HB8.out.trans ((below_drewH w8 1).mono hs8));obtain⟨Y,hY⟩:∃ Y,w8.drewN 1=Y:=⟨_,rfl⟩;have hY2:w8.drew=Y:=hY;rw [hY] at HTY HEY HBY;rw [hY2] at hS20;have hsY:=Nat.le_trans HS0.out HBY.out.size;have HNr2:=hid (HNr.out.trans HEl.out.symm);have hnr1:nr≤1000:=hnr64;clear hY HT8 HE8 HB8 hs8;refine wp_region_noPanic ?_;refine any_begin 11 (by kernel_rfl) (by kernel_rfl) ?_;rw [hY2];refine late_begin (fun U=>R20S U t g5 SP (.slice pr nr cr) (.slice qa n ca)) (fun i=>i== 10) hS20 (fun hS=>?_);refine ltk (i:=0) (some 97) rfl rfl (v:= ?v0j) ?hy0j hS ?rest0j
         case hy0j=>intro w0 hSw;obtain⟨a0,a1,a2⟩:=hSw;go_simp;try with_reducible rfl
         simp only [Act.put];refine ltk (i:=1) (some 98) rfl rfl (v:= ?v1j) ?hy1j hS ?rest1j
         case hy1j=>intro w0 hSw;obtain⟨a0,a1,a2⟩:=hSw;go_simp;try with_reducible rfl
         simp only [Act.put];refine ltk (i:=2) (some 99) rfl rfl (v:= ?v2j) ?hy2j hS ?rest2j
         case hy2j=>intro w0 hSw;obtain⟨a0,a1,a2⟩:=hSw;go_simp;try with_reducible rfl
         simp only [Act.put];refine ltk (i:=3) (some 100) rfl rfl (v:= ?v3j) ?hy3j hS ?rest3j
         case hy3j=>intro w0 hSw;obtain⟨a0,a1,a2⟩:=hSw;go_simp;try with_reducible rfl
         simp only [Act.put];refine ltk (i:=4) (some 101) rfl rfl (v:= ?v4j) ?hy4j hS ?rest4j
         case hy4j=>intro w0 hSw;obtain⟨a0,a1,a2⟩:=hSw;go_simp;try with_reducible rfl
         simp only [Act.put];refine ltk (i:=5) (some 102) rfl rfl (v:= ?v5j) ?hy5j hS ?rest5j
         case hy5j=>intro w0 hSw;obtain⟨a0,a1,a2⟩:=hSw;go_simp;try with_reducible rfl
         simp only [Act.put];refine wpAnyD_one (i:=6) (by kernel_rfl) rfl (fun K hK=>?_);have hS2j:R20S (Y.alloc (.cells #[.string SP,.slice qa n ca] 91 (0,0))) t g5 SP (.slice pr nr cr) (.slice qa n ca):=⟨cell_keep (below_new _ _) hS20.c3,cell_keep (below_new _ _) hS20.e0,cell_keep (below_new _ _) hS20.e1⟩;go_simp;refine hK _ _ ⟨fun _=>hS2j,?_⟩;clear hK K;try simp only [Act.put,sA,sB,sC]
         refine wpAnyD_one (i:=7) (by kernel_rfl) rfl (fun K hK=>?_);rw [if_pos (by rfl)];refine wp_append_own_at (.tmp 101) (.tmp 103) 80 rfl 0 91 e0 _ 2 40 Tryz.underlying80 he0 ey0 ey1 ey2 rfl (by decide) (.slice pr nr cr) nr (es.flatMap entF) (by go_simp) (by have h8:=HTY.out.rts.alloc (.cells #[.string SP,.slice qa n ca] 91 (0,0));unfold OwnE_q OwnR at h8;rw [←HNr2.out] at h8;exact h8) ⟨Y.heap.size,0,none⟩ 1 1 [.string SP,.slice qa n ca] (by go_simp) rfl (cells_new Y _ _) (by simp [Value.oneCell']) (by unfold maxLen;omega) (by omega) (Nat.zero_le _) ?_;intro v9 w9 hown hgr hvv;obtain⟨p9,L9,c9',rfl⟩:=own_slice3 hown;have HO9:=hid (show OwnE_q w9 0 (.slice p9 L9 c9') (es++ [⟨r.path,r.ms,qa,ca⟩]) from OwnR.put HNr2.out.symm (by rw [show entF ⟨r.path,r.ms,qa,ca⟩= [.string SP,.slice qa n ca] from by unfold entF;rw [HSP.out,HN.out]];exact hown));have hb9:=(grown_blk hgr (lt_of_heap HTY.out.bx) (fun e=>by have:=HTY.out.ort t e;have h9:=HTY.out.ot;rw [h9] at this;cases this)).trans HTY.out.bx;obtain⟨hT9,hC9⟩:=HTY.out.addEnt hsY (x:=⟨r.path,r.ms,qa,ca⟩) ⟨HEY.out.tx,HEY.out.or⟩ hgr HO9.out hvv;have he9:w9.heap[g5]?=_:=(grown_blk hgr (lt_of_heap HEY.out.bx) (fun e=>by have:=HTY.out.ort g5 e;have h9:=HEY.out.ob;rw [h9] at this;cases this)).trans HEY.out.bx;have hS3j:R20S w9 t g5 SP (.slice pr nr cr) (.slice qa n ca):=⟨(idx_cells hb9).2.2.2.1,(cells_e2 he9).1,(cells_e2 he9).2⟩;have hfz9:=(idx_cells hb9).2.2.2.2 3;have hc9:=hS3j.c3;have HT20:=hid hT9;have HB20:=hid (HBY.out.trans (hC9.below hsY HTY.out.lo (by simp)));clear hown hgr hvv hb9 he9 hT9 hC9;refine hK _ _ ⟨fun _=>hS3j,?_⟩;clear hK K;simp only [Act.put,sA];refine wpAnyD_one (i:=8) (by kernel_rfl) rfl (fun K hK=>?_);go_simp;refine hK _ _ ⟨fun _=>hS3j,?_⟩;clear hK K;try simp only [Act.put,sA,sB,sC]
         refine ltk (i:=9) (some 106) rfl rfl (v:= ?v9j) ?hy9j hS3j ?rest9j
         case hy9j=>intro w0 hSw;obtain⟨a0,a1,a2⟩:=hSw;go_simp;try with_reducible rfl
         simp only [Act.put,sA,sB,sC];refine wpAnyD_one (i:=10) (by kernel_rfl) rfl (fun K hK=>?_);rw [if_pos (by rfl)];go_simp;refine hK _ _ ⟨fun h=>(by cases h),?_⟩;clear hK K;try simp only [Act.put,sA,sB,sC]
         refine late_done (by kernel_rfl) ?_ _;refine NoPanic.normal ?_;go_wp2;go_ret;have hf:=HT20.out;rw [HCf.out] at hf;exact .inr ⟨HHf.out,rfl,HB20.out,_,_,_,_,_,_,hf,HL8.out⟩
end Go.Proofs.YtlmlljlappjjjaaGreatDoor
