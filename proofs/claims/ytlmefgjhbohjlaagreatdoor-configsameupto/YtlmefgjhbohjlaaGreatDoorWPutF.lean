/- The rows of a configuration that was read, as Valid asks for them. -/
import Derived.Test.YtlmefgjhbohjlaaGreatDoorWCfg
namespace Go.Proofs.YtlmefgjhbohjlaaGreatDoor
open Go.RowKit
theorem own_cap {α:Type}{T:TypeId}{sz:Nat}{f:α→List Value}{w:World}{b n c:Nat}{p:Option Addr}{l:List α} (h:OwnR T sz f w b (.slice p n c) l):l.length≤c:=by
 rcases h.2 with ⟨h1,h2⟩|⟨g,cap,cur,h1,_,_,h4,_⟩
 · injection h1 with _ _ h3;omega
 · injection h1 with _ _ h3;omega
theorem off_mul (sz j t:Nat):sz*j+t=0+j*sz+t:=by rw [Nat.zero_add,Nat.mul_comm]
theorem own_ts {w:World}{b n c:Nat}{p:Option Addr}{l:List B} (h:OwnR 9 1 strF w b (.slice p n c) l):TsAt w p l:=by
 intro j t hj;obtain⟨g,e,hc⟩:=OwnR.at (f:=strF) (fun _=>rfl) h hj;have h1:=hc 0 _ rfl;rw [off_mul] at h1;exact⟨g,0,e,by rw [Nat.add_zero,Nat.mul_one] at h1;exact h1⟩
theorem own_bk {w:World}{b n c:Nat}{p:Option Addr}{l:List BackC} (h:OwnR 145 2 backXF w b (.slice p n c) l):BkAt w p l:=by
 intro j x hj;obtain⟨g,e,hc⟩:=OwnR.at (f:=backXF) (fun _=>rfl) h hj;have h0:=hc 0 _ rfl;have h1:=hc 1 _ rfl;rw [off_mul] at h0 h1;exact⟨g,0,e,h0,h1⟩
theorem own_ky {w:World}{b n c:Nat}{p:Option Addr}{l:List KeyC} (h:OwnR 72 2 keyXF w b (.slice p n c) l):KyAt w p l:=by
 intro j x hj;obtain⟨g,e,hc⟩:=OwnR.at (f:=keyXF) (fun _=>rfl) h hj;have h0:=hc 0 _ rfl;have h1:=hc 1 _ rfl;rw [off_mul] at h0 h1;exact⟨g,0,e,h0,h1⟩
theorem map_at {α β:Type}{f:α→β}{l:List α}{j:Nat}{y:β} (h:(l.map f)[j]?=some y):∃ x,l[j]?=some x∧f x=y:=by
 rw [List.getElem?_map] at h;cases hx:l[j]? with
 |none=>rw [hx] at h;cases h
 |some x=>rw [hx] at h;exact⟨x,rfl,by simpa using h⟩
theorem own_po {w:World}{b m n c:Nat}{p:Option Addr}{l:List PoolX} (h:OwnR 83 12 poolXF w b (.slice p n c) l) (hm:∀ x∈l,PoolXM m w x):PoAtC w p (l.map PoolX.c):=by
 intro j a hj;obtain⟨x,hx,rfl⟩:=map_at hj;obtain⟨g,e,hc⟩:=OwnR.at (f:=poolXF) (fun _=>rfl) h hx;have hM:=hm x (List.mem_of_getElem? hx);have h0:=hc 0 _ rfl;have h1:=hc 1 _ rfl;have h2:=hc 2 _ rfl;have h3:=hc 3 _ rfl;have h4:=hc 4 _ rfl;have h5:=hc 5 _ rfl;have h6:=hc 6 _ rfl;have h7:=hc 7 _ rfl;have h8:=hc 8 _ rfl;have h9:=hc 9 _ rfl;have h10:=hc 10 _ rfl;have h11:=hc 11 _ rfl;rw [off_mul] at h0 h1 h2 h3 h4 h5 h6 h7 h8 h9 h10 h11;exact⟨g,0,x.q,x.k,e,⟨h0,by rw [hM.1];exact h1,h2,h3,h4,h5,h6,h7,h8,h9,h10,h11⟩,own_bk hM.2,own_cap hM.2⟩
theorem own_ro {w:World}{b m n c:Nat}{p:Option Addr}{l:List RouteX} (h:OwnR 91 13 routeXF w b (.slice p n c) l) (hm:∀ x∈l,RouteXM m w x):RoAt w p (l.map RouteX.c):=by
 intro j a hj;obtain⟨x,hx,rfl⟩:=map_at hj;obtain⟨g,e,hc⟩:=OwnR.at (f:=routeXF) (fun _=>rfl) h hx;have hM:=hm x (List.mem_of_getElem? hx);have h0:=hc 0 _ rfl;have h1:=hc 1 _ rfl;have h2:=hc 2 _ rfl;have h3:=hc 3 _ rfl;have h4:=hc 4 _ rfl;have h5:=hc 5 _ rfl;have h6:=hc 6 _ rfl;have h7:=hc 7 _ rfl;have h8:=hc 8 _ rfl;have h9:=hc 9 _ rfl;have h10:=hc 10 _ rfl;have h11:=hc 11 _ rfl;have h12:=hc 12 _ rfl;rw [off_mul] at h0 h1 h2 h3 h4 h5 h6 h7 h8 h9 h10 h11 h12;exact⟨g,0,x.q,x.k,x.q2,x.k2,e,⟨h0,h1,by rw [hM.1.1];exact h2,h3,h4,h5,h6,by rw [hM.2.1];exact h7,h8,h9,h10,h11,h12⟩,own_ts hM.1.2,own_ts hM.2.2,own_cap hM.1.2,own_cap hM.2.2⟩
theorem CfgRows.at {W:World}{m:Nat}{kq:Option Addr}{kn kk:Nat}{pq:Option Addr}{pn pk:Nat}{rq:Option Addr}{rn rk:Nat}{ks:List KeyC}{ps:List PoolX}{rs:List RouteX} (h:CfgRows W m kq kn kk pq pn pk rq rn rk ks ps rs) (m1 m2 m3 m4 m5:Int):CfgAt W ⟨ks,ps.map PoolX.c,rs.map RouteX.c,m1,m2,m3,m4,m5⟩ kq kk pq pk rq rk:=
 ⟨own_ky h.ok,own_po h.op h.mp,own_ro h.or h.mr,own_cap h.ok,by rw [List.length_map];exact own_cap h.op,by rw [List.length_map];exact own_cap h.or⟩
theorem CfgRows.next {W W':World}{m:Nat}{kq:Option Addr}{kn kk:Nat}{pq:Option Addr}{pn pk:Nat}{rq:Option Addr}{rn rk:Nat}{ks:List KeyC}{ps:List PoolX}{rs:List RouteX} (h:CfgRows W m kq kn kk pq pn pk rq rn rk ks ps rs) (hb:Below W.heap.size W W'):CfgRows W' m kq kn kk pq pn pk rq rn rk ks ps rs:=
 ⟨h.nk,h.np,h.nr,h.ok.keep hb,h.op.keep hb,h.or.keep hb,fun x hx=>(h.mp x hx).keep hb,fun x hx=>(h.mr x hx).keep hb⟩
theorem CfgRows.low {W:World}{m m':Nat}{kq:Option Addr}{kn kk:Nat}{pq:Option Addr}{pn pk:Nat}{rq:Option Addr}{rn rk:Nat}{ks:List KeyC}{ps:List PoolX}{rs:List RouteX} (h:CfgRows W m kq kn kk pq pn pk rq rn rk ks ps rs) (hm:m'≤m):CfgRows W m' kq kn kk pq pn pk rq rn rk ks ps rs:=
 ⟨h.nk,h.np,h.nr,OwnR.lower h.ok hm,OwnR.lower h.op hm,OwnR.lower h.or hm,fun x hx=>(h.mp x hx).low hm,fun x hx=>(h.mr x hx).low hm⟩
theorem CfgRows.nil (W:World) (m:Nat):CfgRows W m none 0 0 none 0 0 none 0 0 [] [] []:=⟨rfl,rfl,rfl,OwnR.nil _ _,OwnR.nil _ _,OwnR.nil _ _,(by simp),(by simp)⟩
def RowG {α:Type} (w:World) (sz:Nat) (f:α→List Value) (p:Option Addr) (l:List α):Prop:=∀ (j:Nat) (x:α),l[j]?=some x→∃ g o,p=some ⟨g,o,none⟩∧∀ (t:Nat) (u:Value),(f x)[t]?=some u→w.cell? ⟨g,o+j*sz+t,none⟩=some u
section
variable {α : Type} {sz : Nat} {f : α → List Value}
theorem RowG.next {w w':World}{p:Option Addr}{l:List α} (h:RowG w sz f p l) (hb:Below w.heap.size w w'):RowG w' sz f p l:=by
 intro j x hj;obtain⟨g,o,e,h1⟩:=h j x hj;exact⟨g,o,e,fun t u hu=>cell_keep hb (h1 t u hu)⟩
theorem flat_part (hf:∀ x,(f x).length=sz) (hs:0<sz):∀ (l:List α) (k:Nat) (u:Value),(l.flatMap f)[k]?=some u→∃ x,l[k / sz]?=some x∧(f x)[k % sz]?=some u
 | [],k,u,h=>by simp at h
 |y::l,k,u,h=>by
  rw [List.flatMap_cons] at h;by_cases hk:k<sz
  · rw [List.getElem?_append_left (by rw [hf];exact hk)] at h;exact⟨y,by rw [Nat.div_eq_of_lt hk];rfl,by rw [Nat.mod_eq_of_lt hk];exact h⟩
  · rw [List.getElem?_append_right (by rw [hf];omega),hf] at h;obtain⟨x,h1,h2⟩:=flat_part hf hs l (k-sz) u h;refine⟨x,?_,?_⟩
    · rw [Nat.div_eq_sub_div hs (by omega)];simpa using h1
    · rw [Nat.mod_eq_sub_mod (by omega)];exact h2
theorem flat_len (hf:∀ x,(f x).length=sz):∀ l:List α,(l.flatMap f).length=l.length*sz
 | []=>by simp
 |y::l=>by rw [List.flatMap_cons,List.length_append,flat_len hf l,hf,List.length_cons,Nat.succ_mul,Nat.add_comm]
theorem infoKy:(Tryz.prog.info? 72).map (fun i=>(i.zero,i.size,i.bytes))=some (some (.agg #[.string ⟨#[]⟩,.string ⟨#[]⟩]),2,32):=by kernel_rfl
theorem addr_add (g o k:Nat):(⟨g,o,none⟩:Addr).add k=⟨g,o+k,none⟩:=by
 unfold Addr.add;split <;> simp_all
theorem RowG.news {w:World}{ad:Addr}{l:List α} (hf:∀ x,(f x).length=sz) (hs:0<sz) (h:RowG w sz f (some ad) l):∀ (k:Nat) (u:Value),(l.flatMap f)[k]?=some u→w.cell? (ad.add k)=some u:=by
 intro k u hk;obtain⟨x,h1,h2⟩:=flat_part hf hs l k u hk;obtain⟨g,o,e,h3⟩:=h _ x h1;injection e with e
 subst e;have h4:=h3 _ u h2;rw [Nat.add_assoc,Nat.div_add_mod'] at h4;have ha:(⟨g,o,none⟩:Addr).add k=⟨g,o+k,none⟩:=addr_add g o k;rw [ha];exact h4
theorem flat_one (h1:∀ x,∀ u∈f x,u.oneCell'=true) (l:List α):∀ u∈l.flatMap f,u.oneCell'=true:=by
 intro u hu;obtain⟨x,_,hx⟩:=List.mem_flatMap.1 hu;exact h1 x u hx
theorem wp_append_rowG {w:World}{ops:Array Oper}{rest:List Oper}{o:Oper}{a:Act}{Q:Exit→Act→World→Prop} (hgd:o.guard=none) (s x:Operand) (t:TypeId)
  (ho:o.op= .call {callee:=.builtin .append,args:=#[s,x],argTypes:=#[t,t]}) (e:TypeId) (i:TypeInfo) (z:Value) (bytes:Nat) (ht:Tryz.prog.underlying t=some (.slice e)) (hi:Tryz.prog.info? e=some i) (hz:i.zero=some z)
  (hsize:i.size=sz) (hby:i.bytes=bytes) (hzs:z.cells.size=sz) (hsz:0<sz) (hs:a.eval s= .slice none 0 0) (hf:∀ x,(f x).length=sz) (h1:∀ x,∀ u∈f x,u.oneCell'=true)
  (p:Option Addr) (n c:Nat) (l:List α) (hx:a.eval x= .slice p n c) (hn:l.length=n) (hp:p=none→c=0) (hr:RowG w sz f p l) (hm:n≤1048576) (hby2:bytes≤1024)
  (h:∀ (q:Option Addr) (d:Nat) (w':World),OwnR e sz f w' w.heap.size (.slice q n d) l→Below w.heap.size w w'→wpList Tryz.prog ops Q rest (a.put o.dst (.slice q n d)) w'):wpList Tryz.prog ops Q (o::rest) a w:=by
 cases p with
 |none=>
  have hl:l= []:=by
   cases l with
   |nil=>rfl
   |cons y l=>obtain⟨g,o,e1,_⟩:=hr 0 y rfl;cases e1
  subst hl;subst hn;rw [hp rfl] at hx;exact wpList_append_own_none hgd s x t ho w.heap.size e i sz ht hi (.slice none 0 0) 0 [] hs ⟨by simp,.inl ⟨rfl,rfl⟩⟩ hx (h none 0 w (OwnR.nil _ _) (Below.refl _ _))
 |some ad=>
  have hb:n*bytes≤1048576*1024:=Nat.mul_le_mul hm hby2;refine wpList_append_own_at w hgd s x t ho w.heap.size e i z sz bytes ht hi hz hsize hby hzs hsz (.slice none 0 0) 0 [] hs ⟨by simp,.inl ⟨rfl,rfl⟩⟩ ad n c (l.flatMap f) hx (by rw [flat_len hf,hn]) (hr.news hf hsz) (flat_one h1 l) (by unfold maxLen;omega) (by rw [Nat.zero_add];omega) (Nat.le_refl _) ?_;intro v' w' hown hgr _ _;rw [Nat.zero_add,List.nil_append] at hown;obtain⟨q,L,d,rfl⟩:=own_slice3 hown;obtain rfl:L=n:=row_len hown;exact h q d w' (by unfold OwnR;rw [hn];exact hown) (below_grown hgr)
theorem OwnR.rowG {T:TypeId}{w:World}{b n c:Nat}{p:Option Addr}{l:List α} (hf:∀ x,(f x).length=sz) (h:OwnR T sz f w b (.slice p n c) l):RowG w sz f p l:=by
 intro j x hj;obtain⟨g,e,hc⟩:=OwnR.at hf h hj;exact⟨g,0,e,fun t u hu=>by have h1:=hc t u hu;rw [off_mul] at h1;exact h1⟩
end
theorem rowG_ts {w:World}{p:Option Addr}{l:List B} (h:RowG w 1 strF p l):TsAt w p l:=by
 intro j t hj;obtain⟨g,o,e,hc⟩:=h j t hj;have h1:=hc 0 _ rfl;rw [Nat.mul_one,Nat.add_zero] at h1;exact⟨g,o,e,h1⟩
theorem rowG_bk {w:World}{p:Option Addr}{l:List BackC} (h:RowG w 2 backXF p l):BkAt w p l:=by
 intro j x hj;obtain⟨g,o,e,hc⟩:=h j x hj;exact⟨g,o,e,hc 0 _ rfl,hc 1 _ rfl⟩
theorem rowG_ky {w:World}{p:Option Addr}{l:List KeyC} (h:RowG w 2 keyXF p l):KyAt w p l:=by
 intro j x hj;obtain⟨g,o,e,hc⟩:=h j x hj;exact⟨g,o,e,hc 0 _ rfl,hc 1 _ rfl⟩
structure PoolIn (W:World) (x:PoolX):Prop where
 n:x.c.backs.length=x.n
 k:x.n≤x.k
 z:x.q=none→x.k=0
 r:RowG W 2 backXF x.q x.c.backs
structure RouteIn (W:World) (x:RouteX):Prop where
 n:x.c.methods.length=x.n
 k:x.n≤x.k
 z:x.q=none→x.k=0
 r:RowG W 1 strF x.q x.c.methods
 n2:x.c.auth.scopes.length=x.n2
 k2:x.n2≤x.k2
 z2:x.q2=none→x.k2=0
 r2:RowG W 1 strF x.q2 x.c.auth.scopes
theorem PoolIn.next {W W':World}{x:PoolX} (h:PoolIn W x) (hb:Below W.heap.size W W'):PoolIn W' x:=⟨h.n,h.k,h.z,h.r.next hb⟩
theorem RouteIn.next {W W':World}{x:RouteX} (h:RouteIn W x) (hb:Below W.heap.size W W'):RouteIn W' x:=⟨h.n,h.k,h.z,h.r.next hb,h.n2,h.k2,h.z2,h.r2.next hb⟩
structure CfgIn (W:World) (kq:Option Addr) (kn kk:Nat) (pq:Option Addr) (pn pk:Nat) (rq:Option Addr) (rn rk:Nat) (ks:List KeyC) (ps:List PoolX) (rs:List RouteX):Prop where
 nk:ks.length=kn
 np:ps.length=pn
 nr:rs.length=rn
 ck:kn≤kk
 cp:pn≤pk
 cr:rn≤rk
 zk:kq=none→kk=0
 ok:RowG W 2 keyXF kq ks
 op:RowG W 12 poolXF pq ps
 or:RowG W 13 routeXF rq rs
 mp:∀ x∈ps,PoolIn W x
 mr:∀ x∈rs,RouteIn W x
theorem CfgIn.next {W W':World}{kq:Option Addr}{kn kk:Nat}{pq:Option Addr}{pn pk:Nat}{rq:Option Addr}{rn rk:Nat}{ks:List KeyC}{ps:List PoolX}{rs:List RouteX} (h:CfgIn W kq kn kk pq pn pk rq rn rk ks ps rs) (hb:Below W.heap.size W W'):CfgIn W' kq kn kk pq pn pk rq rn rk ks ps rs:=
 ⟨h.nk,h.np,h.nr,h.ck,h.cp,h.cr,h.zk,h.ok.next hb,h.op.next hb,h.or.next hb,fun x hx=>(h.mp x hx).next hb,fun x hx=>(h.mr x hx).next hb⟩
theorem poC_at {w:World}{g o j:Nat}{x:PoolX} (hn:x.c.backs.length=x.n) (hc:∀ (t:Nat) (u:Value),(poolXF x)[t]?=some u→w.cell? ⟨g,o+j*12+t,none⟩=some u):PoC w g (o+j*12) x.c x.q x.k:=
 ⟨hc 0 _ rfl,by rw [hn];exact hc 1 _ rfl,hc 2 _ rfl,hc 3 _ rfl,hc 4 _ rfl,hc 5 _ rfl,hc 6 _ rfl,hc 7 _ rfl,hc 8 _ rfl,hc 9 _ rfl,hc 10 _ rfl,hc 11 _ rfl⟩
theorem roC_at {w:World}{g o j:Nat}{x:RouteX} (hn:x.c.methods.length=x.n) (hn2:x.c.auth.scopes.length=x.n2) (hc:∀ (t:Nat) (u:Value),(routeXF x)[t]?=some u→w.cell? ⟨g,o+j*13+t,none⟩=some u):RoC w g (o+j*13) x.c x.q x.k x.q2 x.k2:=
 ⟨hc 0 _ rfl,hc 1 _ rfl,by rw [hn];exact hc 2 _ rfl,hc 3 _ rfl,hc 4 _ rfl,hc 5 _ rfl,hc 6 _ rfl,by rw [hn2];exact hc 7 _ rfl,hc 8 _ rfl,hc 9 _ rfl,hc 10 _ rfl,hc 11 _ rfl,hc 12 _ rfl⟩
theorem CfgIn.at {W:World}{kq:Option Addr}{kn kk:Nat}{pq:Option Addr}{pn pk:Nat}{rq:Option Addr}{rn rk:Nat}{ks:List KeyC}{ps:List PoolX}{rs:List RouteX} (h:CfgIn W kq kn kk pq pn pk rq rn rk ks ps rs) (m1 m2 m3 m4 m5:Int):CfgAt W ⟨ks,ps.map PoolX.c,rs.map RouteX.c,m1,m2,m3,m4,m5⟩ kq kk pq pk rq rk:=by
 refine⟨rowG_ky h.ok,?_,?_,by show ks.length≤kk;rw [h.nk];exact h.ck,by show (ps.map PoolX.c).length≤pk;rw [List.length_map,h.np];exact h.cp,by show (rs.map RouteX.c).length≤rk;rw [List.length_map,h.nr];exact h.cr⟩
 · intro j a hj;obtain⟨x,hx,rfl⟩:=map_at hj;obtain⟨g,o,e,hc⟩:=h.op j x hx;have hM:=h.mp x (List.mem_of_getElem? hx);exact⟨g,o,x.q,x.k,e,poC_at hM.n hc,rowG_bk hM.r,by rw [hM.n];exact hM.k⟩
 · intro j a hj;obtain⟨x,hx,rfl⟩:=map_at hj;obtain⟨g,o,e,hc⟩:=h.or j x hx;have hM:=h.mr x (List.mem_of_getElem? hx);exact⟨g,o,x.q,x.k,x.q2,x.k2,e,roC_at hM.n hM.n2 hc,rowG_ts hM.r,rowG_ts hM.r2,by rw [hM.n];exact hM.k,by rw [hM.n2];exact hM.k2⟩
theorem below_putL {B b:Nat}{w:World} (hb:B≤b):∀ (vs:List Value) (k:Nat) {W:World},Below B w W→Below B w (putL W b k vs)
 | [],_,_,h=>h
 |v::vs,k,_,h=>below_putL hb vs (k+1) (h.setCell hb v)
end Go.Proofs.YtlmefgjhbohjlaaGreatDoor
