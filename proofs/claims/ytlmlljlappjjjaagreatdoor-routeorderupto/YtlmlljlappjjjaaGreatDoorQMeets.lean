/- A table of routes in memory: what each step of laying a route in does to it. -/
import Derived.Test.YtlmlljlappjjjaaGreatDoorQTbl
namespace Go.Proofs.YtlmlljlappjjjaaGreatDoor
set_option maxRecDepth 20000
set_option maxHeartbeats 8000000
open Go.RowKit Go.Maps
section
variable {O : Nat → OwQ} {w w1 w2 w' : World} {b0 t gh m : Nat} {vp vr v' : Value} {ts : List Nat} {wv : Nat → B → Value} {es : List EntX} {C : QC}
theorem WayM.mono {M M':Nat}{v:Nat→B→Value} (h:WayM w m M v) (hM:M≤M'):WayM w m M' v:=by
 obtain⟨n,D,h1,h2,h3⟩:=h;exact⟨n,D,h1,Nat.le_trans h2 hM,h3⟩
theorem TblI.addHost (h:TblI b0 w O t gh m vp vr ts wv es C) (hs:b0≤w.heap.size) {gs:List B} (hT:TabX w' (fun i=>O i= .hst∨(w.heap.size≤i∧i<w'.heap.size)) gh (idxP gs)) (hk:Kept (fun i=>O i= .hst) w w'):
  TblI b0 w' (takeQ O w.heap.size w'.heap.size .hst) t gh m vp vr ts wv es {C with gs:=gs}∧Chg O (takeQ O w.heap.size w'.heap.size .hst) w w' (fun x=>x= .hst):=by
 have c:Chg O (takeQ O w.heap.size w'.heap.size .hst) w w' (fun x=>x= .hst):=Chg.take hk h.lt .hst;refine⟨⟨h.kBx c (by simp),h.kOt c,hT.wide (fun i hi=>?_),h.kPth c (by simp),h.kOpt c,fun _ _ hb=>h.kTri c hb (by simp),h.kMap c (by simp),h.kOm c,fun _ _ hp=>h.kWay c hp (by simp),h.kRts c (by simp),h.kOrt c,h.esc,h.kEms c (by simp),c.lt,h.kLo c hs⟩,c⟩;rcases hi with hi|⟨h1,h2⟩
 · exact(c.own i (by rw [hi];simp)).trans hi
 · exact take_new O _ h1 h2
theorem TblI.addTrie (h:TblI b0 w O t gh m vp vr ts wv es C) (hs:b0≤w.heap.size) {i b Mi:Nat}{P:List (B×Int)} (hb:ts[i]?=some b) (hM:Mi≤64*C.M) (hT:TrX w' (fun k=>O k= .tri i∨(w.heap.size≤k∧k<w'.heap.size)) b P (Mi+64)) (hk:Kept (fun k=>O k= .tri i) w w'):
  TblI b0 w' (takeQ O w.heap.size w'.heap.size (.tri i)) t gh m vp vr ts wv es {C with tp:=fun j=>if j=i then P else C.tp j,M:=C.M+1}∧Chg O (takeQ O w.heap.size w'.heap.size (.tri i)) w w' (fun x=>x= .tri i):=by
 have c:Chg O (takeQ O w.heap.size w'.heap.size (.tri i)) w w' (fun x=>x= .tri i):=Chg.take hk h.lt _;refine⟨⟨h.kBx c (by simp),h.kOt c,h.kHst c (by simp),h.kPth c (by simp),h.kOpt c,fun j d hd=>?_,(h.kMap c (by simp)).mono (Nat.le_succ _),h.kOm c,fun _ _ hp=>h.kWay c hp (by simp),h.kRts c (by simp),h.kOrt c,h.esc,h.kEms c (by simp),c.lt,h.kLo c hs⟩,c⟩;by_cases e:j=i
 · subst e;rw [hb] at hd;injection hd with hd
   subst hd;refine⟨Mi+64,by show _≤64*(C.M+1);omega,?_⟩;show TrX w' _ b (if j=j then P else C.tp j) _;rw [if_pos rfl];refine hT.wide (fun k hk2=>?_);rcases hk2 with hi|⟨h1,h2⟩
   · exact(c.own k (by rw [hi];simp)).trans hi
   · exact take_new O _ h1 h2
 · obtain⟨Mj,g1,g2⟩:=h.kTri c hd (by simpa using e);refine⟨Mj,by show _≤64*(C.M+1);omega,?_⟩;show TrX w' _ d (if j=i then P else C.tp j) _;rw [if_neg e];exact g2
theorem set_box4 {b:Nat}{a0 a1 a2 a3:Value}{T:TypeId} (h:w.heap[b]?=some (.cells #[a0,a1,a2,a3] T (0,0))) (u:Value):(w.setCell ⟨b,1,none⟩ u).heap[b]?=some (.cells #[a0,u,a2,a3] T (0,0))∧(w.setCell ⟨b,3,none⟩ u).heap[b]?=some (.cells #[a0,a1,a2,u] T (0,0)):=
 ⟨heap_setCell_same w b 1 _ T u h,heap_setCell_same w b 3 _ T u h⟩
theorem kept_app {o:Obj}{v:Value}{x:OwQ}{k:Nat} (hot:O t= .tbl) (hx:∀ b,v.ownBlock=some b→O b=x) (hg:(w.alloc o).grownBy w2 v.ownBlock) (u:Value):Kept (fun b=>O b=x∨O b= .tbl) w (w2.setCell ⟨t,k,none⟩ u):=
 ((Below.kept (F:=fun b=>O b=x∨O b= .tbl) (below_new w o)).trans ((kept_grown hg).mono (fun i _ e=>.inl (hx i e))) (fun i _ h=>h)).trans ((kept_set w2 t k u).mono (fun i _ e=>.inr (by rw [e];exact hot))) (fun i _ h=>h)
theorem grown_blk {o:Obj}{r:Option Nat} (hg:(w.alloc o).grownBy w2 r) {b:Nat} (hb:b<w.heap.size) (hne:r≠some b):w2.heap[b]?=w.heap[b]?:=
 (hg.block b (by simp;omega) (fun e=>hne e.symm)).trans ((below_new w o).block b hb)
theorem TblI.addPath (h:TblI b0 w O t gh m vp vr ts wv es C) (hs:b0≤w.heap.size) {o:Obj}{tr Mi:Nat} (hT:TrX w (fun k=>O k= .tri ts.length) tr (C.tp ts.length) Mi) (hM:Mi≤64*C.M) (hg:(w.alloc o).grownBy w2 vp.ownBlock) (ho:OwnA w2 0 v' (ts++ [tr])) (hv:v'.ownBlock=vp.ownBlock∨v'.ownBlock=some (w.alloc o).heap.size):
  TblI b0 (w2.setCell ⟨t,1,none⟩ v') (takeQ O w.heap.size w2.heap.size .pth) t gh m v' vr (ts++ [tr]) wv es C∧Chg O (takeQ O w.heap.size w2.heap.size .pth) w (w2.setCell ⟨t,1,none⟩ v') (fun x=>x= .pth∨x= .tbl):=by
 have hsz:(w2.setCell ⟨t,1,none⟩ v').heap.size=w2.heap.size:=World.size_setCell _ _ _;have c:Chg O (takeQ O w.heap.size w2.heap.size .pth) w (w2.setCell ⟨t,1,none⟩ v') (fun x=>x= .pth∨x= .tbl):=by
  have:=Chg.take (F:=fun x=>x= .pth∨x= .tbl) (kept_app (k:=1) h.ot h.opt hg v') h.lt .pth
  rwa [hsz] at this
 have hbt:w2.heap[t]?=some (.cells #[.pointer (some ⟨gh,0,none⟩),vp,.map (some m),vr] 82 (0,0)):=(grown_blk hg (lt_of_heap h.bx) (fun e=>by have:=h.opt t e;rw [h.ot] at this;cases this)).trans h.bx;have hnt:v'.ownBlock≠some t:=fun e=>by
  rcases hv with h9|h9
  · rw [h9] at e;have:=h.opt t e;rw [h.ot] at this;cases this
  · rw [h9] at e;injection e with e
    have:=lt_of_heap h.bx;simp at e;omega
 refine⟨⟨(set_box4 hbt v').1,h.kOt c,h.kHst c (by simp),ho.set hnt,fun b e=>?_,fun j d hd=>?_,h.kMap c (by simp),h.kOm c,fun _ _ hp=>h.kWay c hp (by simp),h.kRts c (by simp),h.kOrt c,h.esc,h.kEms c (by simp),c.lt,h.kLo c hs⟩,c⟩
 · rcases hv with h9|h9
   · rw [h9] at e;exact h.kOpt c b e
   · have hlt:=ho.lt e;rw [h9] at e;injection e with e
     simp at e;exact take_new O _ (by omega) hlt
 · by_cases hj:j<ts.length
   · rw [List.getElem?_append_left hj] at hd;exact h.kTri c hd (by simp)
   · rw [List.getElem?_append_right (by omega)] at hd;obtain⟨e1,e2⟩:=List.getElem?_eq_some_iff.1 hd;simp at e1 e2;have e3:j=ts.length:=by omega
     subst e3;rw [←e2];exact⟨Mi,hM,(hT.keep (fun k hk hl=>c.blk hl hk (by simp))).wide (fun k hk=>(c.own k (by rw [show O k= .tri ts.length from hk];simp)).trans hk)⟩
theorem TblI.addEnt (h:TblI b0 w O t gh m vp vr ts wv es C) (hs:b0≤w.heap.size) {o:Obj}{x:EntX} (hx:TxAt w x.q x.ms∧∀ g o,x.q=some ⟨g,o,none⟩→O g= .loc) (hg:(w.alloc o).grownBy w2 vr.ownBlock) (ho:OwnE_q w2 0 v' (es++ [x])) (hv:v'.ownBlock=vr.ownBlock∨v'.ownBlock=some (w.alloc o).heap.size):
  TblI b0 (w2.setCell ⟨t,3,none⟩ v') (takeQ O w.heap.size w2.heap.size .rts) t gh m vp v' ts wv (es++ [x]) {C with es:=C.es++ [(x.path,x.ms)]}∧Chg O (takeQ O w.heap.size w2.heap.size .rts) w (w2.setCell ⟨t,3,none⟩ v') (fun x=>x= .rts∨x= .tbl):=by
 have hsz:(w2.setCell ⟨t,3,none⟩ v').heap.size=w2.heap.size:=World.size_setCell _ _ _;have c:Chg O (takeQ O w.heap.size w2.heap.size .rts) w (w2.setCell ⟨t,3,none⟩ v') (fun x=>x= .rts∨x= .tbl):=by
  have:=Chg.take (F:=fun x=>x= .rts∨x= .tbl) (kept_app (k:=3) h.ot h.ort hg v') h.lt .rts
  rwa [hsz] at this
 have hbt:w2.heap[t]?=some (.cells #[.pointer (some ⟨gh,0,none⟩),vp,.map (some m),vr] 82 (0,0)):=(grown_blk hg (lt_of_heap h.bx) (fun e=>by have:=h.ort t e;rw [h.ot] at this;cases this)).trans h.bx;have hnt:v'.ownBlock≠some t:=fun e=>by
  rcases hv with h9|h9
  · rw [h9] at e;have:=h.ort t e;rw [h.ot] at this;cases this
  · rw [h9] at e;injection e with e
    have:=lt_of_heap h.bx;simp at e;omega
 refine⟨⟨(set_box4 hbt v').2,h.kOt c,h.kHst c (by simp),h.kPth c (by simp),h.kOpt c,fun _ _ hb=>h.kTri c hb (by simp),h.kMap c (by simp),h.kOm c,fun _ _ hp=>h.kWay c hp (by simp),ho.set hnt,fun b e=>?_,by rw [List.map_append,h.esc];rfl,fun y hy=>?_,c.lt,h.kLo c hs⟩,c⟩
 · rcases hv with h9|h9
   · rw [h9] at e;exact h.kOrt c b e
   · have hlt:=ho.lt e;rw [h9] at e;injection e with e
     simp at e;exact take_new O _ (by omega) hlt
 · rcases List.mem_append.1 hy with hy|hy
   · exact h.kEms c (by simp) y hy
   · rw [List.mem_singleton.1 hy];exact⟨tx_keepB hx.1 (fun g o e=>c.blk (h.lt g (by rw [hx.2 g o e];simp)) (hx.2 g o e) (by simp)),fun g o e=>(c.own g (by rw [hx.2 g o e];simp)).trans (hx.2 g o e)⟩
theorem TblI.addWay (h:TblI b0 w O t gh m vp vr ts wv es C) (hs:b0≤w.heap.size) {o:Obj}{i:Nat}{p:B} (hp:shW i p) {l:List Int} (hg:(w.alloc o).grownBy w1 (wv i p).ownBlock) (ho:OwnN w1 0 v' l) (hv:v'.ownBlock=(wv i p).ownBlock∨v'.ownBlock=some (w.alloc o).heap.size)
  (hm:WayM w2 m (C.M+1) (fun j r=>if j=i∧r=p then v' else wv j r)) (hg2:w1.grownBy w2 (some m)):
  TblI b0 w2 (takeQ O w.heap.size w2.heap.size (.way i p)) t gh m vp vr ts (fun j r=>if j=i∧r=p then v' else wv j r) es {C with wy:=fun j r=>if j=i∧r=p then l else C.wy j r,M:=C.M+1}∧Chg O (takeQ O w.heap.size w2.heap.size (.way i p)) w w2 (fun x=>x= .way i p∨x= .map):=by
 have c:Chg O (takeQ O w.heap.size w2.heap.size (.way i p)) w w2 (fun x=>x= .way i p∨x= .map):=
  Chg.take (F:=fun x=>x= .way i p∨x= .map) (((Below.kept (F:=fun b=>O b= .way i p∨O b= .map) (below_new w o)).trans ((kept_grown hg).mono (fun k _ e=>.inl ((h.way i p hp).2 k e))) (fun i _ h=>h)).trans ((kept_grown hg2).mono (fun k _ e=>.inr (by injection e with e;rw [←e];exact h.om))) (fun i _ h=>h)) h.lt _
 have hmt:∀ b,v'.ownBlock=some b→b≠m:=fun b e e2=>by
  subst e2;rcases hv with h9|h9
  · rw [h9] at e;have:=(h.way i p hp).2 b e;rw [h.om] at this;cases this
  · rw [h9] at e;injection e with e
    have:=h.map.lt;simp at e;omega
 refine⟨⟨h.kBx c (by simp),h.kOt c,h.kHst c (by simp),h.kPth c (by simp),h.kOpt c,fun j b hb=>?_,hm,h.kOm c,fun j r hr=>?_,h.kRts c (by simp),h.kOrt c,h.esc,h.kEms c (by simp),c.lt,h.kLo c hs⟩,c⟩
 · obtain⟨Mi,g1,g2⟩:=h.kTri c hb (by simp);exact⟨Mi,by show _≤64*(C.M+1);omega,g2⟩
 · by_cases e:j=i∧r=p
   · dsimp only;rw [if_pos e,if_pos e];obtain⟨rfl,rfl⟩:=e;refine⟨ho.keepB (fun g e1=>hg2.block g (ho.lt e1) (fun e2=>hmt g e1 (by injection e2))),fun b e1=>?_⟩;rcases hv with h9|h9
     · rw [h9] at e1;exact(c.own b (by rw [(h.way j r hp).2 b e1];simp)).trans ((h.way j r hp).2 b e1)
     · have hlt:=ho.lt e1;rw [h9] at e1;injection e1 with e1
       simp at e1;exact take_new O _ (by omega) (Nat.lt_of_lt_of_le hlt hg2.size)
   · dsimp only;rw [if_neg e,if_neg e];refine h.kWay c hr ?_;rintro (e1|e1)
     · injection e1 with e1 e2
       exact e ⟨e1,e2⟩
     · cases e1
end
open Go.RowKit
theorem any_hit {l:List B}{f:B→Bool}{i:Nat}{x:B} (hx:l[i]?=some x) (h:f x=true):l.any f=true:=List.any_eq_true.2 ⟨x,List.mem_of_getElem? hx,h⟩
theorem any_none {l:List B}{f:B→Bool}{i:Nat} (hi:i=l.length) (h:∀ z∈l.take i,f z=false):l.any f=false:=by
 subst hi;rw [List.take_length] at h;rw [←Bool.not_eq_true,List.any_eq_true];rintro ⟨z,h1,h2⟩;rw [h z h1] at h2;cases h2
theorem pmidx_any (a b:List B) (p q:Option Addr) (n c m d:Nat) (hn:a.length=n) (hm:b.length=m) (hnn:n≤140737488355328) (hmm:m≤140737488355328) (P:ByteArray) (w:World) (hT:TxAt w p a) (hU:TxAt w q b):Calls Tryz.prog 137 #[.slice p n c,.func (.func 32) #[.agg #[.string P,.slice q m d]] #[]] w fun e w'=>(∃ I:Int,e= .returned (.int .i64 I)∧decide (0≤I)=a.any (takesR b))∧Below w.heap.size w w':=by
 have HN:=hid hn;have HT:=hid hT;have HTk:=hid (fun (y:B) (W:World) (hb:Below w.heap.size w W)=>ptakes_any b q m d hm hmm P y W (hU.next hb));clear hn hm hT hU;go_enter Tryz.func137,Tryz.ntmps137;go_wp2;go_loopg [8] (n+1) (fun gk s8 wr=>∃ i:Nat,i≤n∧gk=n-i+1∧s8= .int .i64 (i:Int)∧(∀ y∈a.take i,takesR b y=false)∧Below w.heap.size w wr)
 case atStart=>exact⟨0,by omega,rfl,rfl,by simp,Below.refl _ _⟩
 case round=>
  obtain⟨i,hi,rfl,rfl,hE,hb⟩:=hrel;have HE:=hid hE;have HB:=hid hb;clear hE hb;by_cases hin:i<n
  case neg=>
   have HR:=hid (any_none (show i=a.length by rw [HN.out];omega) HE.out);go_wp2;go_ret;exact⟨⟨-1,rfl,by rw [HR.out];rfl⟩,HB.out⟩
  have h1:i<a.length:=by rw [HN.out];exact hin
  obtain⟨x,hx⟩:∃ x,a[i]?=some x:=⟨_,List.getElem?_eq_getElem h1⟩;have HX:=hid hx;obtain⟨g1,o1,rfl,q1⟩:=(HT.out.next HB.out) i x hx;have HC:=hid (HTk.out x wr HB.out);obtain⟨v,hv⟩:∃ v,takesR b x=v:=⟨_,rfl⟩;have HBt:=hid hv;rw [hv] at HC;clear h1 hx hv;obtain⟨X,hX⟩:∃ X,str x=X:=⟨_,rfl⟩;rw [hX] at q1 HC;clear hX;cases v with
  |true=>
   have HR:=hid (any_hit HX.out HBt.out);go_wp2_with (go_at_call 32;(with_reducible refine HC.out.mono ?_);rintro e w1 ⟨rfl,hw1⟩;have HB1:=hid (below_out HB.out hw1);clear hw1);go_ret;exact⟨⟨_,rfl,by rw [HR.out];simp⟩,HB1.out⟩
  |false=>
   go_wp2_with (go_at_call 32;(with_reducible refine HC.out.mono ?_);rintro e w1 ⟨rfl,hw1⟩;have HB1:=hid (below_out HB.out hw1);clear hw1);go_roundg (n-(i+1)+1)
   case measure=>omega
   case rel=>
    refine⟨i+1,by omega,by omega,by go_num,?_,HB1.out⟩;intro z hz;rw [take_snoc_q a i x HX.out,List.mem_append,List.mem_singleton] at hz;rcases hz with hz|hz
    · exact HE.out z hz
    · rw [hz];exact HBt.out
theorem meet_takes (a b:List B):meetR a b=(a.isEmpty || a.any (takesR b)):=by
 unfold meetR;cases a with
 |nil=>rfl
 |cons x l=>
  cases b with
  |nil=>simp [takesR]
  |cons y k=>
   have e:takesR (y::k)=fun x=>(y::k).contains x:=by
    funext z;simp [takesR]
   rw [e];rfl
theorem cells_e2 {U:World}{g:Nat}{a b:Value}{T:TypeId} (h:U.heap[g]?=some (.cells #[a,b] T (0,0))):U.cell? ⟨g,0,none⟩=some a∧U.cell? ⟨g,1,none⟩=some b:=by
 refine⟨?_,?_⟩ <;> simp [World.cell?,h]
theorem pmhas_any (a b:List B) (p q:Option Addr) (n c m d:Nat) (hn:a.length=n) (hm:b.length=m) (hnn:n≤140737488355328) (hmm:m≤140737488355328) (P:ByteArray) (w:World) (hT:TxAt w p a) (hU:TxAt w q b):Calls Tryz.prog 105 #[.slice p n c,.func (.func 32) #[.agg #[.string P,.slice q m d]] #[]] w fun e w'=>e= .returned (.bool (a.any (takesR b)))∧Below w.heap.size w w':=by
 have HI:=hid (pmidx_any a b p q n c m d hn hm hnn hmm P w hT hU);obtain⟨v,hv⟩:∃ v,a.any (takesR b)=v:=⟨_,rfl⟩;rw [hv] at HI ⊢;clear hv hT hU hn hm;go_enter Tryz.func105,Tryz.ntmps105;go_wp2_with (go_at_call 137;(with_reducible refine HI.out.mono ?_);rintro e w1 ⟨⟨I,rfl,hI⟩,hw1⟩;have HB1:=hid hw1;have HIv:=hid hI;clear hw1 hI);go_ret;exact⟨ret_bool (by rw [←HIv.out]),HB1.out⟩
theorem pmeets_any (a b:List B) (p q:Option Addr) (n c m d:Nat) (hn:a.length=n) (hm:b.length=m) (hnn:n≤140737488355328) (hmm:m≤140737488355328) (P Q:ByteArray) (w:World) (hT:TxAt w p a) (hU:TxAt w q b):Calls Tryz.prog 61 #[.agg #[.string P,.slice p n c],.agg #[.string Q,.slice q m d]] w fun e w'=>e= .returned (.bool (meetR a b))∧Below w.heap.size w w':=by
 have HC:=hid (fun (W:World) (hb:Below w.heap.size w W)=>pmhas_any a b p q n c m d hn hm hnn hmm Q W (hT.next hb) (hU.next hb));rw [meet_takes];obtain⟨v,hv⟩:∃ v,a.any (takesR b)=v:=⟨_,rfl⟩;rw [hv] at HC ⊢;have HB:=hid (BxR.new w (.cells #[.string P,.slice p n c] 91 (0,0)) (.cells #[.string Q,.slice q m d] 91 (0,0)));clear hv hT hU hm;by_cases h0:n=0
 · subst h0;rw [List.length_eq_zero_iff.1 hn];clear hn;go_enter Tryz.func61,Tryz.ntmps61;go_wp2;go_ret;exact⟨rfl,HB.out.low⟩
 · have HV:=hid (show a.isEmpty=false from by cases a with|nil=>exact absurd hn (by simp;omega)|cons x l=>rfl);have hb1:((n:Int)== 0)=false:=by rw [beq_eq_false_iff_ne];omega
   rw [HV.out,Bool.false_or];clear hn;go_enter Tryz.func61,Tryz.ntmps61;go_wp2_with (go_at_call 105;(with_reducible refine(HC.out _ HB.out.low).mono ?_);rintro e w1 ⟨rfl,hw1⟩;have HB1:=hid (below_out HB.out.low hw1);clear hw1);go_ret;exact⟨rfl,HB1.out⟩
end Go.Proofs.YtlmlljlappjjjaaGreatDoor
