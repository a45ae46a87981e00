/- Two tables and a row of numbers side by side. -/
import Derived.Test.YtlmlljlappjjjaaGreatDoorQWay
namespace Go.Proofs.YtlmlljlappjjjaaGreatDoor
set_option maxRecDepth 20000
set_option maxHeartbeats 8000000
open Go.RowKit Go.Maps
def TabX (w:World) (X:Nat→Prop) (t:Nat) (P:List (B×Int)):Prop:=∃ m v1 v2 L,Tab w t P m v1 v2 L∧∀ i,Ft t m v1 v2 i→X i
theorem TabX.keep {w w':World}{X:Nat→Prop}{t:Nat}{P:List (B×Int)} (h:TabX w X t P) (hk:∀ i,X i→i<w.heap.size→w'.heap[i]?=w.heap[i]?):TabX w' X t P:=by
 obtain⟨m,v1,v2,L,h1,h2⟩:=h;exact⟨m,v1,v2,L,h1.keep (fun i hi hl=>hk i (h2 i hi) hl),h2⟩
theorem addX_any {w:World}{X:Nat→Prop}{t:Nat}{P:List (B×Int)} (h:TabX w X t P) (hmx:MxAt w) (p:B) (hp:p.length≤9223372036854775807) (id:Int) (hw:(Lit.int .i64 id).wf=true):
  Calls Tryz.prog 102 #[.pointer (some ⟨t,0,none⟩),.string (str p),.int .i64 id] w fun e w'=>e= .returned (errOf (addE P p))∧TabX w' (fun i=>X i∨(w.heap.size≤i∧i<w'.heap.size)) t (addP P p id)∧Kept X w w':=by
 obtain⟨m,v1,v2,L,h1,h2⟩:=h;refine(add_any h1 hmx p hp id hw).mono ?_;rintro e w' ⟨he,m',v1',v2',L',k1,k2⟩;exact⟨he,⟨m',v1',v2',L',k1,fun i hi=>(k2.fp i hi).elim (fun h=>.inl (h2 i h)) (fun e1=>.inr ⟨e1,k1.tab.lt hi⟩)⟩,k2.kept.mono (fun i _ h=>h2 i h)⟩
abbrev OwnN:=OwnR 3 1 (fun x:Int=>[.int .i64 x])
theorem infoN:(Tryz.prog.info? 3).map (fun i=>(i.zero,i.size,i.bytes))=some (some (.int .i64 0),1,8):=by kernel_rfl
theorem OwnN.num {w:World}{b n c j:Nat}{p:Option Addr}{l:List Int}{x:Int} (h:OwnN w b (.slice p n c) l) (hj:l[j]?=some x):∃ g,p=some ⟨g,0,none⟩∧w.cell? ⟨g,j,none⟩=some (.int .i64 x):=by
 obtain⟨g,e,hc⟩:=OwnR.at (sz:=1) (f:=fun x:Int=>[Value.int .i64 x]) (fun _=>rfl) h hj;refine⟨g,e,?_⟩;have:=hc 0 _ rfl
 rwa [Nat.one_mul,Nat.add_zero] at this
inductive OwQ where
 |out|tbl|hst|pth|tri (i:Nat)|map|way (i:Nat) (p:B)|rts|loc
structure EntX where
 path:B
 ms:List B
 q:Option Addr
 k:Nat
abbrev entF (x:EntX):List Value:=[.string (str x.path),.slice x.q x.ms.length x.k]
abbrev OwnE_q:=OwnR 91 2 entF
abbrev OwnA:=OwnR 128 1 (fun b:Nat=>[.pointer (some ⟨b,0,none⟩)])
structure QC where
 gs:List B
 tp:Nat→List (B×Int)
 wy:Nat→B→List Int
 es:List (B×List B)
 M:Nat
structure TblI (b0:Nat) (w:World) (O:Nat→OwQ) (t gh m:Nat) (vp vr:Value) (ts:List Nat) (wv:Nat→B→Value) (es:List EntX) (C:QC):Prop where
 bx:w.heap[t]?=some (.cells #[.pointer (some ⟨gh,0,none⟩),vp,.map (some m),vr] 82 (0,0))
 ot:O t= .tbl
 hst:TabX w (fun b=>O b= .hst) gh (idxP C.gs)
 pth:OwnA w 0 vp ts
 opt:∀ b,vp.ownBlock=some b→O b= .pth
 tri:∀ i b,ts[i]?=some b→∃ Mi,Mi≤64*C.M∧TrX w (fun k=>O k= .tri i) b (C.tp i) Mi
 map:WayM w m C.M wv
 om:O m= .map
 way:∀ i p,shW i p→OwnN w 0 (wv i p) (C.wy i p)∧∀ b,(wv i p).ownBlock=some b→O b= .way i p
 rts:OwnE_q w 0 vr es
 ort:∀ b,vr.ownBlock=some b→O b= .rts
 esc:es.map (fun x=>(x.path,x.ms))=C.es
 ems:∀ x∈es,TxAt w x.q x.ms∧∀ g o,x.q=some ⟨g,o,none⟩→O g= .loc
 lt:∀ b,O b≠ .out→b<w.heap.size
 lo:∀ b,O b≠ .out→b0≤b
structure Chg (O O':Nat→OwQ) (w w':World) (F:OwQ→Prop):Prop where
 kept:Kept (fun b=>F (O b)) w w'
 own:∀ b,O b≠ .out→O' b=O b
 lt:∀ b,O' b≠ .out→b<w'.heap.size
 new:∀ b,O' b≠ .out→O b= .out→w.heap.size≤b
section
variable {O O' O'' : Nat → OwQ} {w w' w'' : World} {F G : OwQ → Prop} {b0 t gh m : Nat} {vp vr : Value} {ts : List Nat} {wv : Nat → B → Value} {es : List EntX} {C : QC}
theorem Chg.same (c:Chg O O' w w' F) {i:Nat} (hi:i<w.heap.size):O' i=O i:=by
 by_cases h:O i= .out
 · rw [h];refine Classical.byContradiction fun h2=>?_
   have:=c.new i h2 h;omega
 · exact c.own i h
theorem Chg.trans (c:Chg O O' w w' F) (d:Chg O' O'' w' w'' F):Chg O O'' w w'' F where
 kept:=c.kept.trans d.kept (fun i hi h=>by rw [c.same hi] at h;exact h)
 own:=fun b hb=>(d.own b (by rw [c.own b hb];exact hb)).trans (c.own b hb)
 lt:=d.lt
 new:=fun b hb hb2=>by
  by_cases h:O' b= .out
  · exact Nat.le_trans c.kept.size (d.new b hb h)
  · exact c.new b h hb2
theorem Chg.mono (c:Chg O O' w w' F) (h:∀ x,F x→G x):Chg O O' w w' G:=⟨c.kept.mono (fun _ _ hf=>h _ hf),c.own,c.lt,c.new⟩
theorem Chg.below (c:Chg O O' w w' F) (hs:b0≤w.heap.size) (hlo:∀ b,O b≠ .out→b0≤b) (hF:¬F .out):Below b0 w w':=c.kept.below hs (fun i hi=>hlo i (fun e=>hF (by rw [←e];exact hi)))
theorem Chg.of_below (hb:Below w.heap.size w w') (hlt:∀ b,O b≠ .out→b<w.heap.size):Chg O O w w' F:=
 ⟨Below.kept hb,fun _ _=>rfl,fun b h=>Nat.lt_of_lt_of_le (hlt b h) hb.size,fun _ h h2=>absurd h2 h⟩
theorem Chg.blk (c:Chg O O' w w' F) {b:Nat}{x:OwQ} (hb:b<w.heap.size) (ho:O b=x) (hx:¬F x):w'.heap[b]?=w.heap[b]?:=c.kept.block b hb (by rw [ho];exact hx)
theorem TabX.wide {X Y:Nat→Prop}{P:List (B×Int)} (h:TabX w X t P) (hXY:∀ i,X i→Y i):TabX w Y t P:=by
 obtain⟨m,v1,v2,L,h1,h2⟩:=h;exact⟨m,v1,v2,L,h1,fun i hi=>hXY i (h2 i hi)⟩
theorem TrX.wide {X Y:Nat→Prop}{P:List (B×Int)}{M:Nat} (h:TrX w X t P M) (hXY:∀ i,X i→Y i):TrX w Y t P M:=by
 obtain⟨G,es,v,h1,h2⟩:=h;exact⟨G,es,v,h1,fun i hi=>hXY i (h2 i hi)⟩
theorem tx_keepB {p:Option Addr}{l:List B} (h:TxAt w p l) (hk:∀ g o,p=some ⟨g,o,none⟩→w'.heap[g]?=w.heap[g]?):TxAt w' p l:=by
 intro j x hj;obtain⟨g,o,e,hc⟩:=h j x hj;exact⟨g,o,e,cell_same hc (hk g o e)⟩
theorem tx_lt {p:Option Addr}{l:List B} (h:TxAt w p l) {g o:Nat} (e:p=some ⟨g,o,none⟩) (hl:l≠ []):g<w.heap.size:=by
 obtain⟨x,r,rfl⟩:=List.exists_cons_of_ne_nil hl;obtain⟨g1,o1,e1,hc⟩:=h 0 x rfl;rw [e] at e1;injection e1 with e1
 injection e1 with e1 _ _
 subst e1;exact lt_of_cell hc
section
variable (h : TblI b0 w O t gh m vp vr ts wv es C) (c : Chg O O' w w' F)
include h c
theorem TblI.kBx (hF:¬F .tbl):w'.heap[t]?=some (.cells #[.pointer (some ⟨gh,0,none⟩),vp,.map (some m),vr] 82 (0,0)):=(c.blk (lt_of_heap h.bx) h.ot hF).trans h.bx
theorem TblI.kOt:O' t= .tbl:=(c.own t (by rw [h.ot];simp)).trans h.ot
theorem TblI.kHst (hF:¬F .hst):TabX w' (fun b=>O' b= .hst) gh (idxP C.gs):=
 (h.hst.keep (fun i hi hl=>c.blk hl hi hF)).wide (fun i hi=>(c.own i (by rw [show O i= .hst from hi];simp)).trans hi)
theorem TblI.kPth (hF:¬F .pth):OwnA w' 0 vp ts:=h.pth.keepB (fun g e=>c.blk (h.pth.lt e) (h.opt g e) hF)
theorem TblI.kOpt:∀ b,vp.ownBlock=some b→O' b= .pth:=fun b e=>(c.own b (by rw [h.opt b e];simp)).trans (h.opt b e)
theorem TblI.kTri {i b:Nat} (hb:ts[i]?=some b) (hF:¬F (.tri i)):∃ Mi,Mi≤64*C.M∧TrX w' (fun k=>O' k= .tri i) b (C.tp i) Mi:=by
 obtain⟨Mi,h1,h2⟩:=h.tri i b hb;exact⟨Mi,h1,(h2.keep (fun k hk hl=>c.blk hl hk hF)).wide (fun k hk=>(c.own k (by rw [show O k= .tri i from hk];simp)).trans hk)⟩
theorem TblI.kMap (hF:¬F .map):WayM w' m C.M wv:=h.map.keep (c.blk h.map.lt h.om hF)
theorem TblI.kOm:O' m= .map:=(c.own m (by rw [h.om];simp)).trans h.om
theorem TblI.kWay {i:Nat}{p:B} (hs:shW i p) (hF:¬F (.way i p)):OwnN w' 0 (wv i p) (C.wy i p)∧∀ b,(wv i p).ownBlock=some b→O' b= .way i p:=
 ⟨(h.way i p hs).1.keepB (fun g e=>c.blk ((h.way i p hs).1.lt e) ((h.way i p hs).2 g e) hF),fun b e=>(c.own b (by rw [(h.way i p hs).2 b e];simp)).trans ((h.way i p hs).2 b e)⟩
theorem TblI.kRts (hF:¬F .rts):OwnE_q w' 0 vr es:=h.rts.keepB (fun g e=>c.blk (h.rts.lt e) (h.ort g e) hF)
theorem TblI.kOrt:∀ b,vr.ownBlock=some b→O' b= .rts:=fun b e=>(c.own b (by rw [h.ort b e];simp)).trans (h.ort b e)
theorem TblI.kEms (hF:¬F .loc):∀ x∈es,TxAt w' x.q x.ms∧∀ g o,x.q=some ⟨g,o,none⟩→O' g= .loc:=fun x hx=>by
 obtain⟨h1,h2⟩:=h.ems x hx;exact⟨tx_keepB h1 (fun g o e=>c.blk (h.lt g (by rw [h2 g o e];simp)) (h2 g o e) hF),fun g o e=>(c.own g (by rw [h2 g o e];simp)).trans (h2 g o e)⟩
theorem TblI.kLo (hs:b0≤w.heap.size):∀ b,O' b≠ .out→b0≤b:=fun b hb=>by
 by_cases e:O b= .out
 · exact Nat.le_trans hs (c.new b hb e)
 · exact h.lo b e
theorem TblI.step (hs:b0≤w.heap.size) (hF:∀ x,x≠ .out→¬F x):TblI b0 w' O' t gh m vp vr ts wv es C:=
 ⟨h.kBx c (hF _ (by simp)),h.kOt c,h.kHst c (hF _ (by simp)),h.kPth c (hF _ (by simp)),h.kOpt c,fun _ _ hb=>h.kTri c hb (hF _ (by simp)),h.kMap c (hF _ (by simp)),h.kOm c,fun _ _ hp=>h.kWay c hp (hF _ (by simp)),h.kRts c (hF _ (by simp)),h.kOrt c,h.esc,h.kEms c (hF _ (by simp)),c.lt,h.kLo c hs⟩
end
theorem TblI.next (h:TblI b0 w O t gh m vp vr ts wv es C) (hs:b0≤w.heap.size) (hb:Below w.heap.size w w'):TblI b0 w' O t gh m vp vr ts wv es C:=
 h.step (F:=fun _=>False) (Chg.of_below hb h.lt) hs (fun _ _ h=>h)
theorem TblI.claim (h:TblI b0 w O t gh m vp vr ts wv es C) (own:∀ b,O b≠ .out→O' b=O b) (lt:∀ b,O' b≠ .out→b<w.heap.size) (lo:∀ b,O' b≠ .out→b0≤b):TblI b0 w O' t gh m vp vr ts wv es C where
 bx:=h.bx
 ot:=(own t (by rw [h.ot];simp)).trans h.ot
 hst:=h.hst.wide (fun i hi=>(own i (by rw [show O i= .hst from hi];simp)).trans hi)
 pth:=h.pth
 opt:=fun b e=>(own b (by rw [h.opt b e];simp)).trans (h.opt b e)
 tri:=fun i b hb=>by
  obtain⟨Mi,h1,h2⟩:=h.tri i b hb;exact⟨Mi,h1,h2.wide (fun k hk=>(own k (by rw [show O k= .tri i from hk];simp)).trans hk)⟩
 map:=h.map
 om:=(own m (by rw [h.om];simp)).trans h.om
 way:=fun i p hs=>⟨(h.way i p hs).1,fun b e=>(own b (by rw [(h.way i p hs).2 b e];simp)).trans ((h.way i p hs).2 b e)⟩
 rts:=h.rts
 ort:=fun b e=>(own b (by rw [h.ort b e];simp)).trans (h.ort b e)
 esc:=h.esc
 ems:=fun x hx=>⟨(h.ems x hx).1,fun g o e=>(own g (by rw [(h.ems x hx).2 g o e];simp)).trans ((h.ems x hx).2 g o e)⟩
 lt:=lt
 lo:=lo
def takeQ (O:Nat→OwQ) (n n':Nat) (x:OwQ):Nat→OwQ:=fun b=>if n≤b∧b<n' then x else O b
theorem Chg.take (hk:Kept (fun b=>F (O b)) w w') (hlt:∀ b,O b≠ .out→b<w.heap.size) (x:OwQ):Chg O (takeQ O w.heap.size w'.heap.size x) w w' F where
 kept:=hk
 own:=fun b hb=>if_neg (fun h=>by have:=hlt b hb;omega)
 lt:=fun b hb=>by
  unfold takeQ at hb;split at hb
  · omega
  · exact Nat.lt_of_lt_of_le (hlt b hb) hk.size
 new:=fun b hb h=>by
  unfold takeQ at hb;split at hb
  · omega
  · exact absurd h hb
theorem take_new (O:Nat→OwQ) {n n':Nat} (x:OwQ) {b:Nat} (h1:n≤b) (h2:b<n'):takeQ O n n' x b=x:=if_pos ⟨h1,h2⟩
end
section
variable {O : Nat → OwQ} {w w1 w2 w' : World} {b0 t gh m : Nat} {vp vr v' : Value} {ts : List Nat} {wv : Nat → B → Value} {es : List EntX} {C : QC}
theorem WayM.mono {M M':Nat}{v:Nat→B→Value} (h:WayM w m M v) (hM:M≤M'):WayM w m M' v:=by
 obtain⟨n,D,h1,h2,h3⟩:=h;exact⟨n,D,h1,Nat.le_trans h2 hM,h3⟩
theorem TblI.addHost (h:TblI b0 w O t gh m vp vr ts wv es C) (hs:b0≤w.heap.size) {gs:List B} (hT:TabX w' (fun i=>O i= .hst∨(w.heap.size≤i∧i<w'.heap.size)) gh (idxP gs)) (hk:Kept (fun i=>O i= .hst) w w'):
  TblI b0 w' (takeQ O w.heap.size w'.heap.size .hst) t gh m vp vr ts wv es {C with gs:=gs}∧Chg O (takeQ O w.heap.size w'.heap.size .hst) w w' (fun x=>x= .hst):=by
 have c:Chg O (takeQ O w.heap.size w'.heap.size .hst) w w' (fun x=>x= .hst):=Chg.take hk h.lt .hst;refine⟨⟨h.kBx c (by simp),h.kOt c,hT.wide (fun i hi=>?_),h.kPth c (by simp),h.kOpt c,fun _ _ hb=>h.kTri c hb (by simp),h.kMap c (by simp),h.kOm c,fun _ _ hp=>h.kWay c hp (by simp),h.kRts c (by simp),h.kOrt c,h.esc,h.kEms c (by simp),c.lt,h.kLo c hs⟩,c⟩;rcases hi with hi|⟨h1,h2⟩
 · exact(c.own i (by rw [hi];simp)).trans hi
 · exact take_new O _ h1 h2
theorem TblI.addTrie (h:TblI b0 w O t gh m vp vr ts wv es C) (hs:b0≤w.heap.size) {i b Mi:Nat}{P:List (B×Int)} (hb:ts[i]?=some b) (hM:Mi≤64*C.M) (hT:TrX w' (fun k=>O k= .tri i∨(w.heap.size≤k∧k<w'.heap.size)) b P (Mi+64)) (hk:Kept (fun k=>O k= .tri i) w w'):
  TblI b0 w' (takeQ O w.heap.size w'.heap.size (.tri i)) t gh m vp vr ts wv es {C with tp:=fun j=>if j=i then P else C.tp j,M:=C.M+1}∧Chg O (takeQ O w.heap.size w'.heap.size (.tri i)) w w' (fun x=>x= .tri i):=by
 have c:Chg O (takeQ O w.heap.size w'.heap.size (.tri i)) w w' (fun x=>x= .tri i):=Chg.take hk h.lt _;refine⟨⟨h.kBx c (by simp),h.kOt c,h.kHst c (by simp),h.kPth c (by simp),h.kOpt c,fun j d hd=>?_,(h.kMap c (by simp)).mono (Nat.le_succ _),h.kOm c,fun _ _ hp=>h.kWay c hp (by simp),h.kRts c (by simp),h.kOrt c,h.esc,h.kEms c (by simp),c.lt,h.kLo c hs⟩,c⟩;by_cases e:j=i
 · subst e;rw [hb] at hd;injection hd with hd
   subst hd;refine⟨Mi+64,by show _≤64*(C.M+1);omega,?_⟩;show TrX w' _ b (if j=j then P else C.tp j) _;rw [if_pos rfl];refine hT.wide (fun k hk2=>?_);rcases hk2 with hi|⟨h1,h2⟩
   · exact(c.own k (by rw [hi];simp)).trans hi
   · exact take_new O _ h1 h2
 · obtain⟨Mj,g1,g2⟩:=h.kTri c hd (by simpa using e);refine⟨Mj,by show _≤64*(C.M+1);omega,?_⟩;show TrX w' _ d (if j=i then P else C.tp j) _;rw [if_neg e];exact g2
theorem set_box4 {b:Nat}{a0 a1 a2 a3:Value}{T:TypeId} (h:w.heap[b]?=some (.cells #[a0,a1,a2,a3] T (0,0))) (u:Value):(w.setCell ⟨b,1,none⟩ u).heap[b]?=some (.cells #[a0,u,a2,a3] T (0,0))∧(w.setCell ⟨b,3,none⟩ u).heap[b]?=some (.cells #[a0,a1,a2,u] T (0,0)):=
 ⟨heap_setCell_same w b 1 _ T u h,heap_setCell_same w b 3 _ T u h⟩
theorem kept_app {o:Obj}{v:Value}{x:OwQ}{k:Nat} (hot:O t= .tbl) (hx:∀ b,v.ownBlock=some b→O b=x) (hg:(w.alloc o).grownBy w2 v.ownBlock) (u:Value):Kept (fun b=>O b=x∨O b= .tbl) w (w2.setCell ⟨t,k,none⟩ u):=
 ((Below.kept (F:=fun b=>O b=x∨O b= .tbl) (below_new w o)).trans ((kept_grown hg).mono (fun i _ e=>.inl (hx i e))) (fun i _ h=>h)).trans ((kept_set w2 t k u).mono (fun i _ e=>.inr (by rw [e];exact hot))) (fun i _ h=>h)
theorem grown_blk {o:Obj}{r:Option Nat} (hg:(w.alloc o).grownBy w2 r) {b:Nat} (hb:b<w.heap.size) (hne:r≠some b):w2.heap[b]?=w.heap[b]?:=
 (hg.block b (by simp;omega) (fun e=>hne e.symm)).trans ((below_new w o).block b hb)
theorem TblI.addPath (h:TblI b0 w O t gh m vp vr ts wv es C) (hs:b0≤w.heap.size) {o:Obj}{tr Mi:Nat} (hT:TrX w (fun k=>O k= .tri ts.length) tr (C.tp ts.length) Mi) (hM:Mi≤64*C.M) (hg:(w.alloc o).grownBy w2 vp.ownBlock) (ho:OwnA w2 0 v' (ts++ [tr])) (hv:v'.ownBlock=vp.ownBlock∨v'.ownBlock=some (w.alloc o).heap.size):
  TblI b0 (w2.setCell ⟨t,1,none⟩ v') (takeQ O w.heap.size w2.heap.size .pth) t gh m v' vr (ts++ [tr]) wv es C∧Chg O (takeQ O w.heap.size w2.heap.size .pth) w (w2.setCell ⟨t,1,none⟩ v') (fun x=>x= .pth∨x= .tbl):=by
 have hsz:(w2.setCell ⟨t,1,none⟩ v').heap.size=w2.heap.size:=World.size_setCell _ _ _;have c:Chg O (takeQ O w.heap.size w2.heap.size .pth) w (w2.setCell ⟨t,1,none⟩ v') (fun x=>x= .pth∨x= .tbl):=by
  have:=Chg.take (F:=fun x=>x= .pth∨x= .tbl) (kept_app (k:=1) h.ot h.opt hg v') h.lt .pth
  rwa [hsz] at this
 have hbt:w2.heap[t]?=some (.cells #[.pointer (some ⟨gh,0,none⟩),vp,.map (some m),vr] 82 (0,0)):=(grown_blk hg (lt_of_heap h.bx) (fun e=>by have:=h.opt t e;rw [h.ot] at this;cases this)).trans h.bx;have hnt:v'.ownBlock≠some t:=fun e=>by
  rcases hv with h9|h9
  · rw [h9] at e;have:=h.opt t e;rw [h.ot] at this;cases this
  · rw [h9] at e;injection e with e
    have:=lt_of_heap h.bx;simp at e;omega
 refine⟨⟨(set_box4 hbt v').1,h.kOt c,h.kHst c (by simp),ho.set hnt,fun b e=>?_,fun j d hd=>?_,h.kMap c (by simp),h.kOm c,fun _ _ hp=>h.kWay c hp (by simp),h.kRts c (by simp),h.kOrt c,h.esc,h.kEms c (by simp),c.lt,h.kLo c hs⟩,c⟩
 · rcases hv with h9|h9
   · rw [h9] at e;exact h.kOpt c b e
   · have hlt:=ho.lt e;rw [h9] at e;injection e with e
     simp at e;exact take_new O _ (by omega) hlt
 · by_cases hj:j<ts.length
   · rw [List.getElem?_append_left hj] at hd;exact h.kTri c hd (by simp)
   · rw [List.getElem?_append_right (by omega)] at hd;obtain⟨e1,e2⟩:=List.getElem?_eq_some_iff.1 hd;simp at e1 e2;have e3:j=ts.length:=by omega
     subst e3;rw [←e2];exact⟨Mi,hM,(hT.keep (fun k hk hl=>c.blk hl hk (by simp))).wide (fun k hk=>(c.own k (by rw [show O k= .tri ts.length from hk];simp)).trans hk)⟩
theorem TblI.addEnt (h:TblI b0 w O t gh m vp vr ts wv es C) (hs:b0≤w.heap.size) {o:Obj}{x:EntX} (hx:TxAt w x.q x.ms∧∀ g o,x.q=some ⟨g,o,none⟩→O g= .loc) (hg:(w.alloc o).grownBy w2 vr.ownBlock) (ho:OwnE_q w2 0 v' (es++ [x])) (hv:v'.ownBlock=vr.ownBlock∨v'.ownBlock=some (w.alloc o).heap.size):
  TblI b0 (w2.setCell ⟨t,3,none⟩ v') (takeQ O w.heap.size w2.heap.size .rts) t gh m vp v' ts wv (es++ [x]) {C with es:=C.es++ [(x.path,x.ms)]}∧Chg O (takeQ O w.heap.size w2.heap.size .rts) w (w2.setCell ⟨t,3,none⟩ v') (fun x=>x= .rts∨x= .tbl):=by
 have hsz:(w2.setCell ⟨t,3,none⟩ v').heap.size=w2.heap.size:=World.size_setCell _ _ _;have c:Chg O (takeQ O w.heap.size w2.heap.size .rts) w (w2.setCell ⟨t,3,none⟩ v') (fun x=>x= .rts∨x= .tbl):=by
  have:=Chg.take (F:=fun x=>x= .rts∨x= .tbl) (kept_app (k:=3) h.ot h.ort hg v') h.lt .rts
  rwa [hsz] at this
 have hbt:w2.heap[t]?=some (.cells #[.pointer (some ⟨gh,0,none⟩),vp,.map (some m),vr] 82 (0,0)):=(grown_blk hg (lt_of_heap h.bx) (fun e=>by have:=h.ort t e;rw [h.ot] at this;cases this)).trans h.bx;have hnt:v'.ownBlock≠some t:=fun e=>by
  rcases hv with h9|h9
  · rw [h9] at e;have:=h.ort t e;rw [h.ot] at this;cases this
  · rw [h9] at e;injection e with e
    have:=lt_of_heap h.bx;simp at e;omega
 refine⟨⟨(set_box4 hbt v').2,h.kOt c,h.kHst c (by simp),h.kPth c (by simp),h.kOpt c,fun _ _ hb=>h.kTri c hb (by simp),h.kMap c (by simp),h.kOm c,fun _ _ hp=>h.kWay c hp (by simp),ho.set hnt,fun b e=>?_,by rw [List.map_append,h.esc];rfl,fun y hy=>?_,c.lt,h.kLo c hs⟩,c⟩
 · rcases hv with h9|h9
   · rw [h9] at e;exact h.kOrt c b e
   · have hlt:=ho.lt e;rw [h9] at e;injection e with e
     simp at e;exact take_new O _ (by omega) hlt
 · rcases List.mem_append.1 hy with hy|hy
   · exact h.kEms c (by simp) y hy
   · rw [List.mem_singleton.1 hy];exact⟨tx_keepB hx.1 (fun g o e=>c.blk (h.lt g (by rw [hx.2 g o e];simp)) (hx.2 g o e) (by simp)),fun g o e=>(c.own g (by rw [hx.2 g o e];simp)).trans (hx.2 g o e)⟩
theorem TblI.addWay (h:TblI b0 w O t gh m vp vr ts wv es C) (hs:b0≤w.heap.size) {o:Obj}{i:Nat}{p:B} (hp:shW i p) {l:List Int} (hg:(w.alloc o).grownBy w1 (wv i p).ownBlock) (ho:OwnN w1 0 v' l) (hv:v'.ownBlock=(wv i p).ownBlock∨v'.ownBlock=some (w.alloc o).heap.size)
  (hm:WayM w2 m (C.M+1) (fun j r=>if j=i∧r=p then v' else wv j r)) (hg2:w1.grownBy w2 (some m)):
  TblI b0 w2 (takeQ O w.heap.size w2.heap.size (.way i p)) t gh m vp vr ts (fun j r=>if j=i∧r=p then v' else wv j r) es {C with wy:=fun j r=>if j=i∧r=p then l else C.wy j r,M:=C.M+1}∧Chg O (takeQ O w.heap.size w2.heap.size (.way i p)) w w2 (fun x=>x= .way i p∨x= .map):=by
 have c:Chg O (takeQ O w.heap.size w2.heap.size (.way i p)) w w2 (fun x=>x= .way i p∨x= .map):=
  Chg.take (F:=fun x=>x= .way i p∨x= .map) (((Below.kept (F:=fun b=>O b= .way i p∨O b= .map) (below_new w o)).trans ((kept_grown hg).mono (fun k _ e=>.inl ((h.way i p hp).2 k e))) (fun i _ h=>h)).trans ((kept_grown hg2).mono (fun k _ e=>.inr (by injection e with e;rw [←e];exact h.om))) (fun i _ h=>h)) h.lt _
 have hmt:∀ b,v'.ownBlock=some b→b≠m:=fun b e e2=>by
  subst e2;rcases hv with h9|h9
  · rw [h9] at e;have:=(h.way i p hp).2 b e;rw [h.om] at this;cases this
  · rw [h9] at e;injection e with e
    have:=h.map.lt;simp at e;omega
 refine⟨⟨h.kBx c (by simp),h.kOt c,h.kHst c (by simp),h.kPth c (by simp),h.kOpt c,fun j b hb=>?_,hm,h.kOm c,fun j r hr=>?_,h.kRts c (by simp),h.kOrt c,h.esc,h.kEms c (by simp),c.lt,h.kLo c hs⟩,c⟩
 · obtain⟨Mi,g1,g2⟩:=h.kTri c hb (by simp);exact⟨Mi,by show _≤64*(C.M+1);omega,g2⟩
 · by_cases e:j=i∧r=p
   · dsimp only;rw [if_pos e,if_pos e];obtain⟨rfl,rfl⟩:=e;refine⟨ho.keepB (fun g e1=>hg2.block g (ho.lt e1) (fun e2=>hmt g e1 (by injection e2))),fun b e1=>?_⟩;rcases hv with h9|h9
     · rw [h9] at e1;exact(c.own b (by rw [(h.way j r hp).2 b e1];simp)).trans ((h.way j r hp).2 b e1)
     · have hlt:=ho.lt e1;rw [h9] at e1;injection e1 with e1
       simp at e1;exact take_new O _ (by omega) (Nat.lt_of_lt_of_le hlt hg2.size)
   · dsimp only;rw [if_neg e,if_neg e];refine h.kWay c hr ?_;rintro (e1|e1)
     · injection e1 with e1 e2
       exact e ⟨e1,e2⟩
     · cases e1
end
open Go.RowKit
theorem any_hit {l:List B}{f:B→Bool}{i:Nat}{x:B} (hx:l[i]?=some x) (h:f x=true):l.any f=true:=List.any_eq_true.2 ⟨x,List.mem_of_getElem? hx,h⟩
theorem any_none {l:List B}{f:B→Bool}{i:Nat} (hi:i=l.length) (h:∀ z∈l.take i,f z=false):l.any f=false:=by
 subst hi;rw [List.take_length] at h;rw [←Bool.not_eq_true,List.any_eq_true];rintro ⟨z,h1,h2⟩;rw [h z h1] at h2;cases h2
theorem pmidx_any (a b:List B) (p q:Option Addr) (n c m d:Nat) (hn:a.length=n) (hm:b.length=m) (hnn:n≤140737488355328) (hmm:m≤140737488355328) (P:ByteArray) (w:World) (hT:TxAt w p a) (hU:TxAt w q b):Calls Tryz.prog 137 #[.slice p n c,.func (.func 32) #[.agg #[.string P,.slice q m d]] #[]] w fun e w'=>(∃ I:Int,e= .returned (.int .i64 I)∧decide (0≤I)=a.any (takesR b))∧Below w.heap.size w w':=by
 have HN:=hid hn;have HT:=hid hT;have HTk:=hid (fun (y:B) (W:World) (hb:Below w.heap.size w W)=>ptakes_any b q m d hm hmm P y W (hU.next hb));clear hn hm hT hU;go_enter Tryz.func137,Tryz.ntmps137;go_wp2;go_loopg [8] (n+1) (fun gk s8 wr=>∃ i:Nat,i≤n∧gk=n-i+1∧s8= .int .i64 (i:Int)∧(∀ y∈a.take i,takesR b y=false)∧Below w.heap.size w wr)
 case atStart=>exact⟨0,by omega,rfl,rfl,by simp,Below.refl _ _⟩
 case round=>
  obtain⟨i,hi,rfl,rfl,hE,hb⟩:=hrel;have HE:=hid hE;have HB:=hid hb;clear hE hb;by_cases hin:i<n
  case neg=>
   have HR:=hid (any_none (show i=a.length by rw [HN.out];omega) HE.out);go_wp2;go_ret;exact⟨⟨-1,rfl,by rw [HR.out];rfl⟩,HB.out⟩
  have h1:i<a.length:=by rw [HN.out];exact hin
  obtain⟨x,hx⟩:∃ x,a[i]?=some x:=⟨_,List.getElem?_eq_getElem h1⟩;have HX:=hid hx;obtain⟨g1,o1,rfl,q1⟩:=(HT.out.next HB.out) i x hx;have HC:=hid (HTk.out x wr HB.out);obtain⟨v,hv⟩:∃ v,takesR b x=v:=⟨_,rfl⟩;have HBt:=hid hv;rw [hv] at HC;clear h1 hx hv;obtain⟨X,hX⟩:∃ X,str x=X:=⟨_,rfl⟩;rw [hX] at q1 HC;clear hX;cases v with
  |true=>
   have HR:=hid (any_hit HX.out HBt.out);go_wp2_with (go_at_call 32;(with_reducible refine HC.out.mono ?_);rintro e w1 ⟨rfl,hw1⟩;have HB1:=hid (below_out HB.out hw1);clear hw1);go_ret;exact⟨⟨_,rfl,by rw [HR.out];simp⟩,HB1.out⟩
  |false=>
   go_wp2_with (go_at_call 32;(with_reducible refine HC.out.mono ?_);rintro e w1 ⟨rfl,hw1⟩;have HB1:=hid (below_out HB.out hw1);clear hw1);go_roundg (n-(i+1)+1)
   case measure=>omega
   case rel=>
    refine⟨i+1,by omega,by omega,by go_num,?_,HB1.out⟩;intro z hz;rw [take_snoc_q a i x HX.out,List.mem_append,List.mem_singleton] at hz;rcases hz with hz|hz
    · exact HE.out z hz
    · rw [hz];exact HBt.out
theorem meet_takes (a b:List B):meetR a b=(a.isEmpty || a.any (takesR b)):=by
 unfold meetR;cases a with
 |nil=>rfl
 |cons x l=>
  cases b with
  |nil=>simp [takesR]
  |cons y k=>
   have e:takesR (y::k)=fun x=>(y::k).contains x:=by
    funext z;simp [takesR]
   rw [e];rfl
theorem cells_e2 {U:World}{g:Nat}{a b:Value}{T:TypeId} (h:U.heap[g]?=some (.cells #[a,b] T (0,0))):U.cell? ⟨g,0,none⟩=some a∧U.cell? ⟨g,1,none⟩=some b:=by
 refine⟨?_,?_⟩ <;> simp [World.cell?,h]
theorem pmhas_any (a b:List B) (p q:Option Addr) (n c m d:Nat) (hn:a.length=n) (hm:b.length=m) (hnn:n≤140737488355328) (hmm:m≤140737488355328) (P:ByteArray) (w:World) (hT:TxAt w p a) (hU:TxAt w q b):Calls Tryz.prog 105 #[.slice p n c,.func (.func 32) #[.agg #[.string P,.slice q m d]] #[]] w fun e w'=>e= .returned (.bool (a.any (takesR b)))∧Below w.heap.size w w':=by
 have HI:=hid (pmidx_any a b p q n c m d hn hm hnn hmm P w hT hU);obtain⟨v,hv⟩:∃ v,a.any (takesR b)=v:=⟨_,rfl⟩;rw [hv] at HI ⊢;clear hv hT hU hn hm;go_enter Tryz.func105,Tryz.ntmps105;go_wp2_with (go_at_call 137;(with_reducible refine HI.out.mono ?_);rintro e w1 ⟨⟨I,rfl,hI⟩,hw1⟩;have HB1:=hid hw1;have HIv:=hid hI;clear hw1 hI);go_ret;exact⟨ret_bool (by rw [←HIv.out]),HB1.out⟩
theorem pmeets_any (a b:List B) (p q:Option Addr) (n c m d:Nat) (hn:a.length=n) (hm:b.length=m) (hnn:n≤140737488355328) (hmm:m≤140737488355328) (P Q:ByteArray) (w:World) (hT:TxAt w p a) (hU:TxAt w q b):Calls Tryz.prog 61 #[.agg #[.string P,.slice p n c],.agg #[.string Q,.slice q m d]] w fun e w'=>e= .returned (.bool (meetR a b))∧Below w.heap.size w w':=by
 have HC:=hid (fun (W:World) (hb:Below w.heap.size w W)=>pmhas_any a b p q n c m d hn hm hnn hmm Q W (hT.next hb) (hU.next hb));rw [meet_takes];obtain⟨v,hv⟩:∃ v,a.any (takesR b)=v:=⟨_,rfl⟩;rw [hv] at HC ⊢;have HB:=hid (BxR.new w (.cells #[.string P,.slice p n c] 91 (0,0)) (.cells #[.string Q,.slice q m d] 91 (0,0)));clear hv hT hU hm;by_cases h0:n=0
 · subst h0;rw [List.length_eq_zero_iff.1 hn];clear hn;go_enter Tryz.func61,Tryz.ntmps61;go_wp2;go_ret;exact⟨rfl,HB.out.low⟩
 · have HV:=hid (show a.isEmpty=false from by cases a with|nil=>exact absurd hn (by simp;omega)|cons x l=>rfl);have hb1:((n:Int)== 0)=false:=by rw [beq_eq_false_iff_ne];omega
   rw [HV.out,Bool.false_or];clear hn;go_enter Tryz.func61,Tryz.ntmps61;go_wp2_with (go_at_call 105;(with_reducible refine(HC.out _ HB.out.low).mono ?_);rintro e w1 ⟨rfl,hw1⟩;have HB1:=hid (below_out HB.out.low hw1);clear hw1);go_ret;exact⟨rfl,HB1.out⟩
end Go.Proofs.YtlmlljlappjjjaaGreatDoor
