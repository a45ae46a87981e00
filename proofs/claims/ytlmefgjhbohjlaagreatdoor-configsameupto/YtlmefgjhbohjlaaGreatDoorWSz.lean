/- A configuration with lists of its own (the law's give). -/
import Derived.Test.YtlmefgjhbohjlaaGreatDoorWPutF
import Derived.Lib.SlBytesConst
namespace Go.Proofs.YtlmefgjhbohjlaaGreatDoor
open Go.RowKit
structure GW (w W:World) (c z x:Obj):Prop where
 h0:W.heap[w.heap.size]?=some c
 h1:W.heap[w.heap.size+1]?=some z
 h2:W.heap[w.heap.size+1+1]?=some x
 bl:Below w.heap.size w W
section
variable {w W W' : World} {c z x : Obj}
theorem GW.on (h:GW w W c z x) (hb:Below (w.heap.size+3) W W'):GW w W' c z x:=
 ⟨(hb.block _ (by omega)).trans h.h0,(hb.block _ (by omega)).trans h.h1,(hb.block _ (by omega)).trans h.h2,h.bl.trans (hb.mono (by omega))⟩
theorem GW.size (h:GW w W c z x):w.heap.size+3≤W.heap.size:=by
 have:=lt_of_heap h.h2;omega
theorem GW.next (h:GW w W c z x) (hb:Below W.heap.size W W'):GW w W' c z x:=h.on (hb.mono h.size)
theorem GW.new (w:World) (c z x:Obj):GW w (((w.alloc c).alloc z).alloc x) c z x:=by
 obtain⟨h1,h2,h3⟩:=two_new_v w c z;have hb:=below_new ((w.alloc c).alloc z) x;have hs:((w.alloc c).alloc z).heap.size=w.heap.size+1+1:=by simp
 refine⟨(hb.block _ (by omega)).trans h2,(hb.block _ (by omega)).trans h3,?_,below_out h1 hb⟩;rw [←hs];exact heap_alloc_new _ x
theorem GW.set2 {ar:Array Value}{T:TypeId} (h:GW w W c z (.cells ar T (0,0))) (k:Nat) (v:Value):GW w (W.setCell ⟨w.heap.size+1+1,k,none⟩ v) c z (.cells (ar.setIfInBounds k v) T (0,0)):=
 ⟨(Below.heap_setCell W ⟨w.heap.size+1+1,k,none⟩ v _ (by show _≠w.heap.size+1+1;omega)).trans h.h0,(Below.heap_setCell W ⟨w.heap.size+1+1,k,none⟩ v _ (by show _≠w.heap.size+1+1;omega)).trans h.h1,heap_setCell_same W _ k ar T v h.h2,h.bl.setCell (by show w.heap.size≤w.heap.size+1+1;omega) v⟩
end
theorem setCell_keepR {α:Type}{T:TypeId}{sz:Nat}{f:α→List Value}{W:World}{m b o:Nat}{v u:Value}{l:List α} (h:OwnR T sz f W m v l) (hb:b<m):OwnR T sz f (W.setCell ⟨b,o,none⟩ u) m v l:=h.set fun e=>by have:=own_ge h e;omega
section
variable {W W' : World} {m : Nat} {kq : Option Addr} {kn kk : Nat} {pq : Option Addr} {pn pk : Nat} {rq : Option Addr} {rn rk : Nat} {ks : List KeyC} {ps : List PoolX} {rs : List RouteX}
theorem CfgRows.set (h:CfgRows W m kq kn kk pq pn pk rq rn rk ks ps rs) {b o:Nat} (hb:b<m) (v:Value):CfgRows (W.setCell ⟨b,o,none⟩ v) m kq kn kk pq pn pk rq rn rk ks ps rs:=
 ⟨h.nk,h.np,h.nr,setCell_keepR h.ok hb,setCell_keepR h.op hb,setCell_keepR h.or hb,fun x hx=>⟨(h.mp x hx).1,setCell_keepR (h.mp x hx).2 hb⟩,fun x hx=>⟨⟨(h.mr x hx).1.1,setCell_keepR (h.mr x hx).1.2 hb⟩,(h.mr x hx).2.1,setCell_keepR (h.mr x hx).2.2 hb⟩⟩
theorem CfgRows.putL {b:Nat} (hb:b<m):∀ (vs:List Value) (k:Nat) {W:World},CfgRows W m kq kn kk pq pn pk rq rn rk ks ps rs→CfgRows (putL W b k vs) m kq kn kk pq pn pk rq rn rk ks ps rs
 | [],_,_,h=>h
 |v::vs,k,_,h=>CfgRows.putL hb vs (k+1) (h.set hb v)
theorem CfgRows.pool (h:CfgRows W m kq kn kk pq pn pk rq rn rk ks ps rs) {o:Obj}{x:PoolX} (hx:PoolXM m W x) {p7:Option Addr}{c7:Nat} (hown:OwnR 83 12 poolXF W' m (.slice p7 (pn+1) c7) (ps++ [x])) (hgr:(W.alloc o).grownBy W' (Value.slice pq pn pk).ownBlock):CfgRows W' m kq kn kk p7 (pn+1) c7 rq rn rk ks (ps++ [x]) rs:=
  ⟨h.nk,by rw [List.length_append,h.np];rfl,h.nr,(h.ok.alloc o).aside (h.op.alloc o) (by decide) hgr,hown,(h.or.alloc o).aside (h.op.alloc o) (by decide) hgr,fun y hy=>by
    rcases List.mem_append.1 hy with h1|h1
    · exact(h.mp y h1).grow (h.op.alloc o) hgr
    · rw [List.mem_singleton.1 h1]
      exact hx.grow (h.op.alloc o) hgr,fun y hy=>⟨⟨(h.mr y hy).1.1,((h.mr y hy).1.2.alloc o).aside (h.op.alloc o) (by decide) hgr⟩,(h.mr y hy).2.1,((h.mr y hy).2.2.alloc o).aside (h.op.alloc o) (by decide) hgr⟩⟩
theorem CfgRows.route (h:CfgRows W m kq kn kk pq pn pk rq rn rk ks ps rs) {o:Obj}{x:RouteX} (hx:RouteXM m W x) {p7:Option Addr}{c7:Nat} (hown:OwnR 91 13 routeXF W' m (.slice p7 (rn+1) c7) (rs++ [x])) (hgr:(W.alloc o).grownBy W' (Value.slice rq rn rk).ownBlock):CfgRows W' m kq kn kk pq pn pk p7 (rn+1) c7 ks ps (rs++ [x]):=
  ⟨h.nk,h.np,by rw [List.length_append,h.nr];rfl,(h.ok.alloc o).aside (h.or.alloc o) (by decide) hgr,(h.op.alloc o).aside (h.or.alloc o) (by decide) hgr,hown,fun y hy=>⟨(h.mp y hy).1,((h.mp y hy).2.alloc o).aside (h.or.alloc o) (by decide) hgr⟩,fun y hy=>by
    rcases List.mem_append.1 hy with h1|h1
    · exact(h.mr y h1).grow (h.or.alloc o) hgr
    · rw [List.mem_singleton.1 h1]
      exact hx.grow (h.or.alloc o) hgr⟩
end
theorem key_one (x:KeyC):∀ u∈keyXF x,u.oneCell'=true:=by intro u hu;simp only [List.mem_cons,List.not_mem_nil,or_false] at hu;rcases hu with rfl|rfl <;> rfl
theorem back_one (x:BackC):∀ u∈backXF x,u.oneCell'=true:=by intro u hu;simp only [List.mem_cons,List.not_mem_nil,or_false] at hu;rcases hu with rfl|rfl <;> rfl
theorem str_one (x:B):∀ u∈strF x,u.oneCell'=true:=by intro u hu;simp only [List.mem_cons,List.not_mem_nil,or_false] at hu;subst hu;rfl
theorem take_map_snoc {α β:Type}{f:α→β}{acc:List α}{l:List β}{i:Nat}{x:β}{y:α} (h:acc.map f=l.take i) (hx:l[i]?=some x) (hy:f y=x):(acc++ [y]).map f=l.take (i+1):=by
 rw [List.map_append,h,List.take_add_one,hx,←hy];rfl
theorem map_get {α β:Type}{f:α→β}{l:List α}{i:Nat}{x:α} (h:l[i]?=some x):(l.map f)[i]?=some (f x):=by rw [List.getElem?_map,h];rfl
structure GiveZ (kn pn rn:Nat) (ps:List PoolX) (rs:List RouteX):Prop where
 k:kn≤1048576
 p:pn≤1048576
 r:rn≤1048576
 mp:∀ x∈ps,x.n≤1048576
 mr:∀ x∈rs,x.n≤1048576∧x.n2≤1048576
set_option maxRecDepth 20000 in
set_option maxHeartbeats 16000000 in
theorem pgive_any (kq:Option Addr) (kn kk:Nat) (pq:Option Addr) (pn pk:Nat) (rq:Option Addr) (rn rk:Nat) (ks:List KeyC) (ps:List PoolX) (rs:List RouteX) (m1 m2 m3 m4 m5:Int) (hz:GiveZ kn pn rn ps rs) (w:World) (hI:CfgIn w kq kn kk pq pn pk rq rn rk ks ps rs):Calls Tryz.prog 13 #[.agg #[.slice kq kn kk,.slice pq pn pk,.slice rq rn rk,.int .i64 m1,.int .i64 m2,.int .i64 m3,.int .i64 m4,.int .i64 m5]] w fun e w'=>∃ (k2:Option Addr) (kc:Nat) (p2:Option Addr) (pc:Nat) (r2:Option Addr) (rc:Nat) (ps2:List PoolX) (rs2:List RouteX),e= .returned (.agg #[.slice k2 kn kc,.slice p2 pn pc,.slice r2 rn rc,.int .i64 m1,.int .i64 m2,.int .i64 m3,.int .i64 m4,.int .i64 m5])∧CfgRows w' w.heap.size k2 kn kc p2 pn pc r2 rn rc ks ps2 rs2∧ps2.map PoolX.c=ps.map PoolX.c∧rs2.map RouteX.c=rs.map RouteX.c∧Below w.heap.size w w':=by
 obtain⟨i1,hi1,hx1,hy1,hz1⟩:=info_parts infoKy;obtain⟨i2,hi2,hx2,hy2,hz2⟩:=info_parts info_pool;obtain⟨i3,hi3,hx3,hy3,hz3⟩:=info_parts info_route;obtain⟨i4,hi4,hx4,hy4,hz4⟩:=info_parts info_back;obtain⟨i5,hi5,hx5,hy5,hz5⟩:=info_parts info_text;have HI:=hid hI;have HZ:=hid hz;have HG0:=hid (GW.new w (.cells #[.slice kq kn kk,.slice pq pn pk,.slice rq rn rk,.int .i64 m1,.int .i64 m2,.int .i64 m3,.int .i64 m4,.int .i64 m5] 26 (0,0)) (.cells #[.slice none 0 0,.slice none 0 0,.slice none 0 0,.int .i64 0,.int .i64 0,.int .i64 0,.int .i64 0,.int .i64 0] 26 (0,0)) (.cells #[.slice kq kn kk,.slice pq pn pk,.slice rq rn rk,.int .i64 m1,.int .i64 m2,.int .i64 m3,.int .i64 m4,.int .i64 m5] 26 (0,0)));clear hI hz;go_enter Tryz.func13,Tryz.ntmps13;go_wp2_with (at_builtin;refine wp_append_rowG rfl (.tmp 13) (.tmp 15) 22 rfl 72 i1 _ 32 Tryz.underlying22 hi1 hx1 hy1 hz1 rfl (by decide) (by go_simp) (fun _=>rfl) key_one kq kn kk ks (by go_simp) HI.out.nk HI.out.zk (HI.out.ok.next HG0.out.bl) HZ.out.k (by decide) ?_;intro k2 kd w1 ho hb;have HG1:=hid (HG0.out.next hb);have HK1:=hid ho;have HS0:=hid (Nat.le_trans HG0.out.size (Nat.le_refl _));obtain⟨v0,v1,v2,v3,v4,v5,v6,v7⟩:=cells8 HG1.out.h2;clear v2 v3 v4 v5 v6 v7;have xf0:=frozen_of_row w1 (w.heap.size+1+1) 0 _ _ HG1.out.h2;have xf1:=frozen_of_row w1 (w.heap.size+1+1) 1 _ _ HG1.out.h2;clear ho hb);have hpn:=HZ.out.p;have HG2:=hid ((HG1.out.set2 0 (.slice k2 kn kd)).set2 1 (.slice none 0 0));simp only [sA,sB,sC] at HG2;have HR1:=hid (show CfgRows ((w1.setCell ⟨w.heap.size+1+1,0,none⟩ (.slice k2 kn kd)).setCell ⟨w.heap.size+1+1,1,none⟩ (.slice none 0 0)) (w.heap.size+3) k2 kn kd none 0 0 none 0 0 ks [] [] from(CfgRows.set (CfgRows.set ⟨HI.out.nk,rfl,rfl,OwnR.lower HK1.out HS0.out,OwnR.nil _ _,OwnR.nil _ _,(by simp),(by simp)⟩ (by omega) _) (by omega) _));clear HG0 HG1 HK1 HS0 xf0 xf1 v0 v1;go_loopg [5] (pn+1) (fun gk s wr=>∃ (i d:Nat) (q:Option Addr) (acc:List PoolX),i≤pn∧gk=pn-i+1∧s= .int .i64 (i:Int)∧Hid (acc.map PoolX.c=(ps.map PoolX.c).take i)∧Hid (GW w wr (.cells #[.slice kq kn kk,.slice pq pn pk,.slice rq rn rk,.int .i64 m1,.int .i64 m2,.int .i64 m3,.int .i64 m4,.int .i64 m5] 26 (0,0)) (.cells #[.slice none 0 0,.slice none 0 0,.slice none 0 0,.int .i64 0,.int .i64 0,.int .i64 0,.int .i64 0,.int .i64 0] 26 (0,0)) (.cells #[.slice k2 kn kd,.slice q i d,.slice rq rn rk,.int .i64 m1,.int .i64 m2,.int .i64 m3,.int .i64 m4,.int .i64 m5] 26 (0,0)))∧Hid (CfgRows wr (w.heap.size+3) k2 kn kd q i d none 0 0 ks acc []))
 case atStart=>exact⟨0,0,none,[],Nat.zero_le _,rfl,rfl,hid rfl,HG2,HR1⟩
 case round=>
  clear HG2 HR1;obtain⟨i,d,q,acc,hi,rfl,rfl,HM,HG,HR⟩:=hrel;obtain⟨u0,u1,u2,u3,u4,u5,u6,u7⟩:=cells8 HG.out.h0;by_cases hin:i<pn
  case pos=>
   obtain⟨x,hx⟩:∃ x,ps[i]?=some x:=⟨_,List.getElem?_eq_getElem (by rw [HI.out.np];exact hin)⟩;obtain⟨g,o,rfl,hc⟩:=HI.out.op i x hx;have HX:=hid (HI.out.mp x (List.mem_of_getElem? hx));have hnx:=HZ.out.mp x (List.mem_of_getElem? hx);have HMx:=hid (map_get (f:=PoolX.c) hx);have hyc:=(poC_at HX.out.n hc).next HG.out.bl
   obtain⟨y0,y1,y2,y3,y4,y5,y6,y7,y8,y9,y10,y11⟩:=hyc;rw [HX.out.n] at y1;have u1b:=cell_keep (below_new wr (.cells #[.string (str x.c.name),.slice x.q x.n x.k,.int .i64 x.c.policy,.int .i64 x.c.retries,.int .i64 x.c.timeout,.int .i64 x.c.fails,.int .i64 x.c.opn,.string (str x.c.probe.path),.int .i64 x.c.probe.every,.int .i64 x.c.probe.timeout,.int .i64 x.c.probe.rise,.int .i64 x.c.probe.fall] 83 (0,0))) u1;have y1b:=cell_keep (below_new wr (.cells #[.string (str x.c.name),.slice x.q x.n x.k,.int .i64 x.c.policy,.int .i64 x.c.retries,.int .i64 x.c.timeout,.int .i64 x.c.fails,.int .i64 x.c.opn,.string (str x.c.probe.path),.int .i64 x.c.probe.every,.int .i64 x.c.probe.timeout,.int .i64 x.c.probe.rise,.int .i64 x.c.probe.fall] 83 (0,0))) y1;have hlw:=HG.out.size;clear hx hc u0 u2 u3 u4 u5 u6 u7;go_wp2_with (first
    |(at_builtin;refine wp_append_rowG rfl (.tmp 31) (.tmp 37) 77 rfl 145 i4 _ 24 Tryz.underlying77 hi4 hx4 hy4 hz4 rfl (by decide) (by go_simp) (fun _=>rfl) back_one x.q x.n x.k x.c.backs (by go_simp) HX.out.n HX.out.z (HX.out.r.next (below_out HG.out.bl (below_new wr _))) hnx (by decide) ?_;intro qb db wa ho hb;have hpa:=(hb.block wr.heap.size (by simp)).trans (heap_alloc_new wr (.cells #[.string (str x.c.name),.slice x.q x.n x.k,.int .i64 x.c.policy,.int .i64 x.c.retries,.int .i64 x.c.timeout,.int .i64 x.c.fails,.int .i64 x.c.opn,.string (str x.c.probe.path),.int .i64 x.c.probe.every,.int .i64 x.c.probe.timeout,.int .i64 x.c.probe.rise,.int .i64 x.c.probe.fall] 83 (0,0)));obtain⟨t0,t1,t2,t3,t4,t5,t6,t7,t8,t9,t10,t11⟩:=cells12 hpa;clear t0 t2 t3 t4 t5 t6 t7 t8 t9 t10 t11;have pf1:=frozen_of_row wa wr.heap.size 1 _ _ hpa;have hs:=heap_setCell_same wa wr.heap.size 1 _ _ (.slice qb x.n db) hpa;simp only [sA,sB,sC] at hs;obtain⟨z0,z1,z2,z3,z4,z5,z6,z7,z8,z9,z10,z11⟩:=cells12 hs;have HB2:=hid (show Below wr.heap.size wr (wa.setCell ⟨wr.heap.size,1,none⟩ (.slice qb x.n db)) from(below_out (below_new wr _) hb).setCell (by show wr.heap.size≤wr.heap.size;omega) _);have HG2:=hid (HG.out.next HB2.out);have HR2:=hid (HR.out.next HB2.out);obtain⟨v0,v1,v2,v3,v4,v5,v6,v7⟩:=cells8 HG2.out.h2;clear v0 v2 v3 v4 v5 v6 v7;have HQ:=hid (show OwnR 145 2 backXF (wa.setCell ⟨wr.heap.size,1,none⟩ (.slice qb x.n db)) (w.heap.size+3) (.slice qb x.n db) x.c.backs from OwnR.lower (setCell_keepR ho (by simp)) (by simp;omega));clear ho hb hpa hs)
    |(at_builtin;refine wpList_append_own_at _ rfl (.tmp 41) (.tmp 43) 23 rfl (w.heap.size+3) 83 i2 _ 12 128 Tryz.underlying23 hi2 hx2 hy2 hz2 rfl (by decide) (.slice q i d) i (acc.flatMap poolXF) (by go_simp) (by have h8:=HR2.out.op.alloc (.cells #[.string (str x.c.name),.slice qb x.n db,.int .i64 x.c.policy,.int .i64 x.c.retries,.int .i64 x.c.timeout,.int .i64 x.c.fails,.int .i64 x.c.opn,.string (str x.c.probe.path),.int .i64 x.c.probe.every,.int .i64 x.c.probe.timeout,.int .i64 x.c.probe.rise,.int .i64 x.c.probe.fall] 83 (0,0));unfold OwnR at h8;rw [HR2.out.np] at h8;exact h8) ⟨wa.heap.size,0,none⟩ 1 1 [.string (str x.c.name),.slice qb x.n db,.int .i64 x.c.policy,.int .i64 x.c.retries,.int .i64 x.c.timeout,.int .i64 x.c.fails,.int .i64 x.c.opn,.string (str x.c.probe.path),.int .i64 x.c.probe.every,.int .i64 x.c.probe.timeout,.int .i64 x.c.probe.rise,.int .i64 x.c.probe.fall] (by go_simp) rfl (by have h9:=cells_new (wa.setCell ⟨wr.heap.size,1,none⟩ (.slice qb x.n db)) [.string (str x.c.name),.slice qb x.n db,.int .i64 x.c.policy,.int .i64 x.c.retries,.int .i64 x.c.timeout,.int .i64 x.c.fails,.int .i64 x.c.opn,.string (str x.c.probe.path),.int .i64 x.c.probe.every,.int .i64 x.c.probe.timeout,.int .i64 x.c.probe.rise,.int .i64 x.c.probe.fall] 83;rw [show (wa.setCell ⟨wr.heap.size,1,none⟩ (.slice qb x.n db)).heap.size=wa.heap.size from by simp [World.setCell]] at h9;exact h9) (by simp [Value.oneCell']) (by unfold maxLen;omega) (by omega) (by have h1:=HG2.out.size;simp at h1 ⊢;omega) ?_;intro v6 w5 hown hgr _ _;obtain⟨p7,L7,c7,rfl⟩:=own_slice3 hown;obtain⟨hL7,_⟩:L7=i+1∧True:=⟨row_len hown,trivial⟩;subst hL7;have HB5:=hid (((below_new (wa.setCell ⟨wr.heap.size,1,none⟩ (.slice qb x.n db)) (.cells #[.string (str x.c.name),.slice qb x.n db,.int .i64 x.c.policy,.int .i64 x.c.retries,.int .i64 x.c.timeout,.int .i64 x.c.fails,.int .i64 x.c.opn,.string (str x.c.probe.path),.int .i64 x.c.probe.every,.int .i64 x.c.probe.timeout,.int .i64 x.c.probe.rise,.int .i64 x.c.probe.fall] 83 (0,0))).mono HG2.out.size).trans (OwnR.below (HR2.out.op.alloc (.cells #[.string (str x.c.name),.slice qb x.n db,.int .i64 x.c.policy,.int .i64 x.c.retries,.int .i64 x.c.timeout,.int .i64 x.c.fails,.int .i64 x.c.opn,.string (str x.c.probe.path),.int .i64 x.c.probe.every,.int .i64 x.c.probe.timeout,.int .i64 x.c.probe.rise,.int .i64 x.c.probe.fall] 83 (0,0))) (by have h1:=HG2.out.size;simp at h1 ⊢;omega) hgr));have HG5:=hid (HG2.out.on HB5.out);have HR5:=hid (HR2.out.pool (x:=(⟨x.c,qb,x.n,db⟩:PoolX)) ⟨HX.out.n,HQ.out⟩ (OwnR.put HR2.out.np hown) hgr);obtain⟨s0,s1,s2,s3,s4,s5,s6,s7⟩:=cells8 HG5.out.h2;clear s0 s2 s3 s4 s5 s6 s7;have xf1:=frozen_of_row w5 (w.heap.size+1+1) 1 _ _ HG5.out.h2;clear hown hgr))
   go_roundg (pn-(i+1)+1)
   case measure=>omega
   case rel=>
    have HG6:=HG5.out.set2 1 (.slice p7 (i+1) c7);simp only [sA,sB,sC] at HG6;exact⟨i+1,c7,p7,acc++ [(⟨x.c,qb,x.n,db⟩:PoolX)],by omega,rfl,by push_cast;go_num,hid (take_map_snoc HM.out HMx.out rfl),hid HG6,hid (HR5.out.set (by omega) _)⟩
  have hiN:pn=i:=by omega
  subst hiN;have HMp:=hid (show acc.map PoolX.c=ps.map PoolX.c from by rw [HM.out];exact List.take_of_length_le (by rw [List.length_map,HI.out.np];exact Nat.le_refl _));obtain⟨v0,v1,v2,v3,v4,v5,v6,v7⟩:=cells8 HG.out.h2;have xf2:=frozen_of_row wr (w.heap.size+1+1) 2 _ _ HG.out.h2;go_wp2;have hrn:=HZ.out.r;have HG2:=hid (HG.out.set2 2 (.slice none 0 0));simp only [sA,sB,sC] at HG2;have HR1:=hid (HR.out.set (b:=w.heap.size+1+1) (o:=2) (by omega) (.slice none 0 0));clear HG HR HM xf2 u0 u1 u2 u3 u4 u5 u6 u7 v0 v1 v2 v3 v4 v5 v6 v7 hin hi;go_loopg [8] (rn+1) (fun gk s wr=>∃ (i e:Nat) (r:Option Addr) (acr:List RouteX),i≤rn∧gk=rn-i+1∧s= .int .i64 (i:Int)∧Hid (acr.map RouteX.c=(rs.map RouteX.c).take i)∧Hid (GW w wr (.cells #[.slice kq kn kk,.slice pq pn pk,.slice rq rn rk,.int .i64 m1,.int .i64 m2,.int .i64 m3,.int .i64 m4,.int .i64 m5] 26 (0,0)) (.cells #[.slice none 0 0,.slice none 0 0,.slice none 0 0,.int .i64 0,.int .i64 0,.int .i64 0,.int .i64 0,.int .i64 0] 26 (0,0)) (.cells #[.slice k2 kn kd,.slice q pn d,.slice r i e,.int .i64 m1,.int .i64 m2,.int .i64 m3,.int .i64 m4,.int .i64 m5] 26 (0,0)))∧Hid (CfgRows wr (w.heap.size+3) k2 kn kd q pn d r i e ks acc acr))
  case atStart=>exact⟨0,0,none,[],Nat.zero_le _,rfl,rfl,hid rfl,HG2,HR1⟩
  case round=>
   clear HG2 HR1;obtain⟨i,e,r,acr,hi,rfl,rfl,HM,HG,HR⟩:=hrel;obtain⟨u0,u1,u2,u3,u4,u5,u6,u7⟩:=cells8 HG.out.h0;by_cases hin:i<rn
   case pos=>
    obtain⟨x,hx⟩:∃ x,rs[i]?=some x:=⟨_,List.getElem?_eq_getElem (by rw [HI.out.nr];exact hin)⟩;obtain⟨g,o,rfl,hc⟩:=HI.out.or i x hx;have HX:=hid (HI.out.mr x (List.mem_of_getElem? hx));obtain⟨hnx,hnx2⟩:=HZ.out.mr x (List.mem_of_getElem? hx);have HMx:=hid (map_get (f:=RouteX.c) hx);have hyc:=(roC_at HX.out.n HX.out.n2 hc).next HG.out.bl
    obtain⟨y0,y1,y2,y3,y4,y5,y6,y7,y8,y9,y10,y11,y12⟩:=hyc;rw [HX.out.n] at y2;rw [HX.out.n2] at y7;have u2b:=cell_keep (below_new wr (.cells #[.string (str x.c.host),.string (str x.c.path),.slice x.q x.n x.k,.string (str x.c.pool),.bool x.c.auth.on,.string (str x.c.auth.iss),.string (str x.c.auth.aud),.slice x.q2 x.n2 x.k2,.int .i64 x.c.auth.leeway,.int .i64 x.c.lim.by_,.int .i64 x.c.lim.rate,.int .i64 x.c.lim.per,.int .i64 x.c.lim.burst] 91 (0,0))) u2;have y2b:=cell_keep (below_new wr (.cells #[.string (str x.c.host),.string (str x.c.path),.slice x.q x.n x.k,.string (str x.c.pool),.bool x.c.auth.on,.string (str x.c.auth.iss),.string (str x.c.auth.aud),.slice x.q2 x.n2 x.k2,.int .i64 x.c.auth.leeway,.int .i64 x.c.lim.by_,.int .i64 x.c.lim.rate,.int .i64 x.c.lim.per,.int .i64 x.c.lim.burst] 91 (0,0))) y2;have hlw:=HG.out.size;clear hx hc u0 u1 u3 u4 u5 u6 u7;go_wp2_with (first
     |(at_builtin;refine wp_append_rowG rfl (.tmp 59) (.tmp 65) 52 rfl 9 i5 _ 16 Tryz.underlying52 hi5 hx5 hy5 hz5 rfl (by decide) (by go_simp) (fun _=>rfl) str_one x.q x.n x.k x.c.methods (by go_simp) HX.out.n HX.out.z (HX.out.r.next (below_out HG.out.bl (below_new wr _))) hnx (by decide) ?_;intro qm dm wa ho hb;have hpa:=(hb.block wr.heap.size (by simp)).trans (heap_alloc_new wr (.cells #[.string (str x.c.host),.string (str x.c.path),.slice x.q x.n x.k,.string (str x.c.pool),.bool x.c.auth.on,.string (str x.c.auth.iss),.string (str x.c.auth.aud),.slice x.q2 x.n2 x.k2,.int .i64 x.c.auth.leeway,.int .i64 x.c.lim.by_,.int .i64 x.c.lim.rate,.int .i64 x.c.lim.per,.int .i64 x.c.lim.burst] 91 (0,0)));obtain⟨t0,t1,t2,t3,t4,t5,t6,t7,t8,t9,t10,t11,t12⟩:=cells13 hpa;clear t0 t1 t3 t4 t5 t6 t7 t8 t9 t10 t11 t12;have pf2:=frozen_of_row wa wr.heap.size 2 _ _ hpa;have hs:=heap_setCell_same wa wr.heap.size 2 _ _ (.slice qm x.n dm) hpa;simp only [sA,sB,sC] at hs;have HB1:=hid (show Below wr.heap.size wr (wa.setCell ⟨wr.heap.size,2,none⟩ (.slice qm x.n dm)) from(below_out (below_new wr _) hb).setCell (by show wr.heap.size≤wr.heap.size;omega) _);have u2c:=cell_keep HB1.out u2;have y7c:=cell_keep HB1.out y7;have y7d:(wa.setCell ⟨wr.heap.size,2,none⟩ (.slice qm x.n dm)).cell? ⟨g,o+i*13+4+3,none⟩=some (.slice x.q2 x.n2 x.k2):=y7c;have HQ:=hid (show OwnR 9 1 strF (wa.setCell ⟨wr.heap.size,2,none⟩ (.slice qm x.n dm)) (wr.heap.size+1) (.slice qm x.n dm) x.c.methods from OwnR.lower (setCell_keepR ho (by simp)) (by simp));have HP1:=hid hs;clear ho hb hpa hs)
     |(at_builtin;refine wp_append_rowG rfl (.tmp 68) (.tmp 75) 52 rfl 9 i5 _ 16 Tryz.underlying52 hi5 hx5 hy5 hz5 rfl (by decide) (by go_simp) (fun _=>rfl) str_one x.q2 x.n2 x.k2 x.c.auth.scopes (by go_simp) HX.out.n2 HX.out.z2 (HX.out.r2.next (below_out HG.out.bl HB1.out)) hnx2 (by decide) ?_;intro qs ds wb ho hb;have hsw:wr.heap.size+1≤(wa.setCell ⟨wr.heap.size,2,none⟩ (.slice qm x.n dm)).heap.size:=lt_of_heap HP1.out;have hpa:=(hb.block wr.heap.size (by omega)).trans HP1.out;obtain⟨n0,n1,n2,n3,n4,n5,n6,n7,n8,n9,n10,n11,n12⟩:=cells13 hpa;clear n0 n1 n2 n3 n4 n5 n6 n8 n9 n10 n11 n12;have pf7:=frozen_of_row wb wr.heap.size 7 _ _ hpa;have hs:=heap_setCell_same wb wr.heap.size 7 _ _ (.slice qs x.n2 ds) hpa;simp only [sA,sB,sC] at hs;obtain⟨z0,z1,z2,z3,z4,z5,z6,z7,z8,z9,z10,z11,z12⟩:=cells13 hs;have HB2:=hid (show Below wr.heap.size wr (wb.setCell ⟨wr.heap.size,7,none⟩ (.slice qs x.n2 ds)) from(HB1.out.trans (hb.mono (by omega))).setCell (by show wr.heap.size≤wr.heap.size;omega) _);have HG2:=hid (HG.out.next HB2.out);have HR2:=hid (HR.out.next HB2.out);obtain⟨v0,v1,v2,v3,v4,v5,v6,v7⟩:=cells8 HG2.out.h2;clear v0 v1 v3 v4 v5 v6 v7;have HQ1:=hid (OwnR.lower (setCell_keepR (u:=.slice qs x.n2 ds) (o:=7) (HQ.out.keep hb) (Nat.lt_succ_self _)) (show w.heap.size+3≤wr.heap.size+1 by omega));have HQ2:=hid (OwnR.lower (setCell_keepR (u:=.slice qs x.n2 ds) (o:=7) (b:=wr.heap.size) ho (by omega)) (show w.heap.size+3≤_ by omega));clear ho hb hpa hs)
     |(at_builtin;refine wpList_append_own_at _ rfl (.tmp 80) (.tmp 82) 24 rfl (w.heap.size+3) 91 i3 _ 13 176 Tryz.underlying24 hi3 hx3 hy3 hz3 rfl (by decide) (.slice r i e) i (acr.flatMap routeXF) (by go_simp) (by have h8:=HR2.out.or.alloc (.cells #[.string (str x.c.host),.string (str x.c.path),.slice qm x.n dm,.string (str x.c.pool),.bool x.c.auth.on,.string (str x.c.auth.iss),.string (str x.c.auth.aud),.slice qs x.n2 ds,.int .i64 x.c.auth.leeway,.int .i64 x.c.lim.by_,.int .i64 x.c.lim.rate,.int .i64 x.c.lim.per,.int .i64 x.c.lim.burst] 91 (0,0));unfold OwnR at h8;rw [HR2.out.nr] at h8;exact h8) ⟨wb.heap.size,0,none⟩ 1 1 [.string (str x.c.host),.string (str x.c.path),.slice qm x.n dm,.string (str x.c.pool),.bool x.c.auth.on,.string (str x.c.auth.iss),.string (str x.c.auth.aud),.slice qs x.n2 ds,.int .i64 x.c.auth.leeway,.int .i64 x.c.lim.by_,.int .i64 x.c.lim.rate,.int .i64 x.c.lim.per,.int .i64 x.c.lim.burst] (by go_simp) rfl (by have h9:=cells_new (wb.setCell ⟨wr.heap.size,7,none⟩ (.slice qs x.n2 ds)) [.string (str x.c.host),.string (str x.c.path),.slice qm x.n dm,.string (str x.c.pool),.bool x.c.auth.on,.string (str x.c.auth.iss),.string (str x.c.auth.aud),.slice qs x.n2 ds,.int .i64 x.c.auth.leeway,.int .i64 x.c.lim.by_,.int .i64 x.c.lim.rate,.int .i64 x.c.lim.per,.int .i64 x.c.lim.burst] 91;rw [show (wb.setCell ⟨wr.heap.size,7,none⟩ (.slice qs x.n2 ds)).heap.size=wb.heap.size from by simp [World.setCell]] at h9;exact h9) (by simp [Value.oneCell']) (by unfold maxLen;omega) (by omega) (by have h1:=HG2.out.size;simp at h1 ⊢;omega) ?_;intro v6 w5 hown hgr _ _;obtain⟨p7,L7,c7,rfl⟩:=own_slice3 hown;obtain⟨hL7,_⟩:L7=i+1∧True:=⟨row_len hown,trivial⟩;subst hL7;have HB5:=hid (((below_new (wb.setCell ⟨wr.heap.size,7,none⟩ (.slice qs x.n2 ds)) (.cells #[.string (str x.c.host),.string (str x.c.path),.slice qm x.n dm,.string (str x.c.pool),.bool x.c.auth.on,.string (str x.c.auth.iss),.string (str x.c.auth.aud),.slice qs x.n2 ds,.int .i64 x.c.auth.leeway,.int .i64 x.c.lim.by_,.int .i64 x.c.lim.rate,.int .i64 x.c.lim.per,.int .i64 x.c.lim.burst] 91 (0,0))).mono HG2.out.size).trans (OwnR.below (HR2.out.or.alloc (.cells #[.string (str x.c.host),.string (str x.c.path),.slice qm x.n dm,.string (str x.c.pool),.bool x.c.auth.on,.string (str x.c.auth.iss),.string (str x.c.auth.aud),.slice qs x.n2 ds,.int .i64 x.c.auth.leeway,.int .i64 x.c.lim.by_,.int .i64 x.c.lim.rate,.int .i64 x.c.lim.per,.int .i64 x.c.lim.burst] 91 (0,0))) (by have h1:=HG2.out.size;simp at h1 ⊢;omega) hgr));have HG5:=hid (HG2.out.on HB5.out);have HR5:=hid (HR2.out.route (x:=(⟨x.c,qm,x.n,dm,qs,x.n2,ds⟩:RouteX)) ⟨⟨HX.out.n,HQ1.out⟩,HX.out.n2,HQ2.out⟩ (OwnR.put HR2.out.nr hown) hgr);obtain⟨s0,s1,s2,s3,s4,s5,s6,s7⟩:=cells8 HG5.out.h2;clear s0 s1 s3 s4 s5 s6 s7;have xf2:=frozen_of_row w5 (w.heap.size+1+1) 2 _ _ HG5.out.h2;clear hown hgr))
    go_roundg (rn-(i+1)+1)
    case measure=>omega
    case rel=>
     have HG6:=HG5.out.set2 2 (.slice p7 (i+1) c7);simp only [sA,sB,sC] at HG6;exact⟨i+1,c7,p7,acr++ [(⟨x.c,qm,x.n,dm,qs,x.n2,ds⟩:RouteX)],by omega,rfl,by push_cast;go_num,hid (take_map_snoc HM.out HMx.out rfl),hid HG6,hid (HR5.out.set (by omega) _)⟩
   have hiN:rn=i:=by omega
   subst hiN;have HMr:=hid (show acr.map RouteX.c=rs.map RouteX.c from by rw [HM.out];exact List.take_of_length_le (by rw [List.length_map,HI.out.nr];exact Nat.le_refl _));obtain⟨v0,v1,v2,v3,v4,v5,v6,v7⟩:=cells8 HG.out.h2;have zf0:=frozen_of_row wr (w.heap.size+1) 0 _ _ HG.out.h1;have zf1:=frozen_of_row wr (w.heap.size+1) 1 _ _ HG.out.h1;have zf2:=frozen_of_row wr (w.heap.size+1) 2 _ _ HG.out.h1;have zf3:=frozen_of_row wr (w.heap.size+1) 3 _ _ HG.out.h1;have zf4:=frozen_of_row wr (w.heap.size+1) 4 _ _ HG.out.h1;have zf5:=frozen_of_row wr (w.heap.size+1) 5 _ _ HG.out.h1;have zf6:=frozen_of_row wr (w.heap.size+1) 6 _ _ HG.out.h1;have zf7:=frozen_of_row wr (w.heap.size+1) 7 _ _ HG.out.h1;obtain⟨z0,z1,z2,z3,z4,z5,z6,z7⟩:=cells8 HG.out.h1;go_wp2;have hF:=putL_same (b:=w.heap.size+1) [.slice k2 kn kd,.slice q pn d,.slice r rn e,.int .i64 m1,.int .i64 m2,.int .i64 m3,.int .i64 m4,.int .i64 m5] 0 wr _ HG.out.h1;have hR:=HR.out.putL (b:=w.heap.size+1) (by omega) [.slice k2 kn kd,.slice q pn d,.slice r rn e,.int .i64 m1,.int .i64 m2,.int .i64 m3,.int .i64 m4,.int .i64 m5] 0;have hB:=below_putL (b:=w.heap.size+1) (B:=w.heap.size) (by omega) [.slice k2 kn kd,.slice q pn d,.slice r rn e,.int .i64 m1,.int .i64 m2,.int .i64 m3,.int .i64 m4,.int .i64 m5] 0 HG.out.bl;simp only [putL,setFrom,Nat.reduceAdd,sA,sB,sC] at hF hR hB;refine bodyPost_ret (results_cell_row rfl _ _ (w.heap.size+1) 26 _ (0,0) _ rfl hF Tryz.underlying26 rfl rfl) rfl ?_;exact⟨k2,kd,q,d,r,e,acc,acr,rfl,hR.low (by omega),HMp.out,HMr.out,hB⟩
abbrev pl (v:JV):Nat:=(printV v).length
def left (cnt:Nat) (B:Int) (xs:List Int):Option (List Int):=match cnt with
 |0=>decS 0 0 xs
 |6=>decS 1 (B % 64) xs
 |4=>decS 2 (B % 16) xs
 |2=>decS 3 (B % 4) xs
 |_=>none
theorem keyM_sec (k:AskB) (v:JV) (p:B) (z:Option B):keyM k v p z=(⟨(textM v (behindC p n_id) (objM v p [n_id,n_secret] z)).1,(secM k v (behindC p n_secret) (textM v (behindC p n_id) (objM v p [n_id,n_secret] z)).2).1⟩,(secM k v (behindC p n_secret) (textM v (behindC p n_id) (objM v p [n_id,n_secret] z)).2).2):=rfl
theorem decS_len:∀ (s:List Int) (r:Nat) (p:Int) (l:List Int),decS r p s=some l→l.length≤s.length
 | [],r,p,l,h=>by
  simp only [decS] at h;split at h
  · cases h;exact Nat.le_refl _
  · cases h
 |c::cs,r,p,l,h=>by
  simp only [decS] at h;split at h
  · cases h
  · split at h
    · have:=decS_len cs _ _ _ h;simp only [List.length_cons];omega
    · split at h
      · cases hd:decS 2 _ cs with
        |none=>rw [hd] at h;cases h
        |some q=>rw [hd] at h;cases h;have:=decS_len cs _ _ _ hd;simp only [List.length_cons];omega
      · split at h
        · cases hd:decS 3 _ cs with
          |none=>rw [hd] at h;cases h
          |some q=>rw [hd] at h;cases h;have:=decS_len cs _ _ _ hd;simp only [List.length_cons];omega
        · cases hd:decS 0 0 cs with
          |none=>rw [hd] at h;cases h
          |some q=>rw [hd] at h;cases h;have:=decS_len cs _ _ _ hd;simp only [List.length_cons];omega
section
variable {t : JV}
theorem sec_short {p:B}{z:Option B} (h:Fits_k t):(secM askB t p z).1.length≤1048576:=by
 have ht:=text_short_v (p:=p) (z:=z) h;unfold secM;show ((askB.dec (textM t p z).1).getD []).length≤_;show (((bytesL (numsB (textM t p z).1)).map bytesB).getD []).length≤_;cases hb:bytesL (numsB (textM t p z).1) with
 |none=>simp
 |some l=>
  unfold bytesL at hb;split at hb
  · cases hb
  · have h1:=decS_len _ _ _ _ hb;have h2:(numsB (textM t p z).1).length=(textM t p z).1.length:=by unfold numsB;rw [List.length_map]
    simp only [Option.map_some,Option.getD_some,bytesB,List.length_map];omega
theorem textD_short {p d:B}{z:Option B} (h:Fits_k t) (hd:d.length≤1048576):(textD t p d z).1.length≤1048576:=by
 unfold textD;split
 · exact hd
 · exact text_short_v h
theorem texts_short {p:B}{z:Option B} (h:Fits_k t):(textsM t p z).1.length≤1048576∧∀ y∈(textsM t p z).1,y.length≤1048576:=by
 unfold textsM;cases ha:atV t p with
 |none=>simp
 |some x=>
  dsimp only;have hx:=fits_goto _ _ _ h (show goto t (steps p)=some _ from ha);obtain⟨k,b,tx,n,hh,ls,ns⟩:=x;split
  · simp
  · split
    · unfold Fits_k at hx;refine⟨by rw [List.length_map];exact hx.2.1,fun y hy=>?_⟩;obtain⟨v,hv,rfl⟩:=List.mem_map.1 hy;have h2:=(fitsL_iff_k ls).1 hx.2.2.2.2 v hv;obtain⟨k2,b2,tx2,n2,hh2,ls2,ns2⟩:=v;unfold Fits_k at h2;exact h2.1
    · simp
theorem loop_mem {α:Type} (f:B→Option B→α×Option B) (p:B):∀ (k i:Nat) (l:List α) (z:Option B),(loopM f p k i l z).1.length≤l.length+k∧∀ x∈(loopM f p k i l z).1,x∈l∨∃ q,x=(f q none).1
 |0,i,l,z=>⟨Nat.le_refl _,fun x hx=>.inl hx⟩
 |k+1,i,l,z=>by
  unfold loopM;split
  · rename_i hz
    subst hz;have ih:=loop_mem f p k (i+1) (l++ [(f (behindC p (numC i)) none).1]) (f (behindC p (numC i)) none).2;refine⟨by have:=ih.1;simp only [List.length_append,List.length_cons,List.length_nil] at this;omega,fun x hx=>?_⟩;rcases ih.2 x hx with h1|h1
    · rcases List.mem_append.1 h1 with h2|h2
      · exact .inl h2
      · exact .inr ⟨_,List.mem_singleton.1 h2⟩
    · exact .inr h1
  · exact⟨by simp,fun x hx=>.inl hx⟩
theorem list_mem {α:Type} (f:B→Option B→α×Option B) {p:B}{z:Option B} (h:Fits_k t):(listM f t p z).1.length≤1048576∧∀ x∈(listM f t p z).1,∃ q,x=(f q none).1:=by
 unfold listM;have h1:=loop_mem f p (manyM t p z).1 0 [] (manyM t p z).2;refine⟨?_,fun x hx=>(h1.2 x hx).resolve_left (by simp)⟩;have h2:=h1.1;have h3:(manyM t p z).1≤1048576:=by
  unfold manyM;cases ha:atV t p with
  |none=>simp
  |some x=>
   dsimp only;have hx:=fits_goto _ _ _ h (show goto t (steps p)=some _ from ha);obtain⟨k,b,tx,n,hh,ls,ns⟩:=x;unfold Fits_k at hx;split
   · exact hx.2.1
   · simp
 simp only [List.length_nil] at h2;omega
theorem listD_mem {α:Type} (f:B→Option B→α×Option B) {p:B}{z:Option B} (h:Fits_k t):(listD f t p z).1.length≤1048576∧∀ x∈(listD f t p z).1,∃ q,x=(f q none).1:=by
 unfold listD;split
 · simp
 · exact list_mem f h
theorem text_le (h:Fits_k t) (p:B) (z:Option B) {m:Nat} (hm:1048576≤m):(textM t p z).1.length≤m:=Nat.le_trans (text_short_v h) hm
theorem sec_le (h:Fits_k t) (p:B) (z:Option B) {m:Nat} (hm:1048576≤m):(secM askB t p z).1.length≤m:=Nat.le_trans (sec_short h) hm
theorem texts_le (h:Fits_k t) (p:B) (z:Option B) {m:Nat} (hm:1048576≤m):(textsM t p z).1.length≤m:=Nat.le_trans (texts_short h).1 hm
theorem list_le {α:Type} (f:B→Option B→α×Option B) (h:Fits_k t) (p:B) (z:Option B) {m:Nat} (hm:1048576≤m):(listM f t p z).1.length≤m:=Nat.le_trans (list_mem f h).1 hm
theorem listD_le {α:Type} (f:B→Option B→α×Option B) (h:Fits_k t) (p:B) (z:Option B) {m:Nat} (hm:1048576≤m):(listD f t p z).1.length≤m:=Nat.le_trans (listD_mem f h).1 hm
theorem cfg_short (h:Fits_k t):CfgZ (cfgM askB t).1:=by
 have hmx:(1048576:Nat)≤maxLen:=by unfold maxLen;omega
 refine⟨fun x hx=>?_,fun x hx=>?_,fun x hx=>?_,?_,?_,?_⟩
 · obtain⟨q,rfl⟩:=(listD_mem (keyM askB t) (p:=n_keys) h).2 x hx;rw [keyM_sec];exact⟨text_le h _ none hmx,sec_le h _ none hmx⟩
 · obtain⟨q,rfl⟩:=(list_mem (poolM t) (p:=n_pools) h).2 x hx;have hpr:∀ (p:B) (z:Option B),(probeM t p z).1.path.length≤140737488355328:=by
    intro p z;unfold probeM;split
    · simp
    · dsimp only;exact text_le h _ none (by omega)
   unfold poolM;dsimp only;refine⟨text_le h _ none hmx,hpr _ _,?_,fun y hy=>?_⟩
   · exact list_le (backM t) h _ _ (by omega)
   · obtain⟨q2,rfl⟩:=(list_mem (backM t) h).2 y hy;unfold backM;dsimp only;exact text_le h _ none (by omega)
 · obtain⟨q,rfl⟩:=(list_mem (routeM t) (p:=n_routes) h).2 x hx;have ha:∀ (p:B) (z:Option B),(authM t p z).1.iss.length≤1048576∧(authM t p z).1.aud.length≤1048576∧(∀ y∈(authM t p z).1.scopes,y.length≤1048576)∧(authM t p z).1.scopes.length≤1048576:=by
    intro p z;unfold authM;split
    · simp
    · dsimp only;exact⟨by exact textD_short h (by simp),by exact textD_short h (by simp),by exact(texts_short h).2,by exact(texts_short h).1⟩
   unfold routeM;dsimp only;refine⟨text_le h _ none (by omega),text_le h _ none (by omega),Nat.le_trans (ha _ _).1 (by omega),Nat.le_trans (ha _ _).2.1 (by omega),fun y hy=>Nat.le_trans ((texts_short h).2 y hy) hmx,fun y hy=>Nat.le_trans ((ha _ _).2.2.1 y hy) hmx,texts_le h _ _ (by omega),Nat.le_trans (ha _ _).2.2.2 (by omega)⟩
 · unfold cfgM;dsimp only;exact listD_le (keyM askB t) h _ _ (by omega)
 · unfold cfgM;dsimp only;exact list_le (poolM t) h _ _ (by omega)
 · unfold cfgM;dsimp only;exact list_le (routeM t) h _ _ (by omega)
end
end Go.Proofs.YtlmefgjhbohjlaaGreatDoor
