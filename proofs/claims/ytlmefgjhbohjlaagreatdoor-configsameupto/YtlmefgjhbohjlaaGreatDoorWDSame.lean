/- The document: whether two rows of texts, two pools are the same. -/
import Derived.Test.YtlmefgjhbohjlaaGreatDoorWSameC
namespace Go.Proofs.YtlmefgjhbohjlaaGreatDoor
set_option maxRecDepth 20000
set_option maxHeartbeats 64000000
open Go.RowKit
theorem rsametexts_any (l m:List B) (p q:Option Addr) (n c k d:Nat) (hl:l.length=n) (hm:m.length=k) (hnn:n≤9223372036854775807) (hkk:k≤9223372036854775807) (w:World) (h1:TsAt w p l) (h2:TsAt w q m):Calls Tryz.prog 80 #[.slice p n c,.slice q k d] w fun e w'=>e= .returned (.bool (decide (l=m)))∧Below w.heap.size w w':=by
 have HL:=hid hl;have HM:=hid hm;have H1:=hid h1;have H2:=hid h2;by_cases hnk:n=k
 case neg=>
  rw [decide_eq_false (eq_len hl hm hnk)];have hnk2:¬(n:Int)=(k:Int):=by omega
  clear hl hm h1 h2 H1 H2 HL HM;go_enter Tryz.func80,Tryz.ntmps80;go_wp2;go_ret;exact⟨rfl,Below.refl _ _⟩
 subst hnk;clear hl hm h1 h2 hkk;go_enter Tryz.func80,Tryz.ntmps80;go_wp2;go_loopg [5] (n+1) (fun gk s wr=>∃ i:Nat,i≤n∧gk=n-i+1∧s= .int .i64 (i:Int)∧l.take i=m.take i∧Below w.heap.size w wr)
 case atStart=>exact⟨0,by omega,rfl,rfl,rfl,Below.refl _ _⟩
 case round=>
  obtain⟨i,hi,rfl,rfl,hE,hb⟩:=hrel;have HE:=hid hE;have HB:=hid hb;clear hE hb;by_cases hin:i<n
  case neg=>
   have hiN:i=n:=by omega
   subst hiN;have HR:=hid (decide_eq_true (eq_whole HL.out HM.out HE.out));go_wp2;go_ret;exact⟨by rw [HR.out];rfl,HB.out⟩
  have hi1:i<l.length:=by rw [HL.out];exact hin
  have hi2:i<m.length:=by rw [HM.out];exact hin
  obtain⟨x,hx⟩:∃ x,l[i]?=some x:=⟨_,List.getElem?_eq_getElem hi1⟩;obtain⟨y,hy⟩:∃ y,m[i]?=some y:=⟨_,List.getElem?_eq_getElem hi2⟩;obtain⟨g1,o1,rfl,x0⟩:=(H1.out.next HB.out) i x hx;obtain⟨g2,o2,rfl,y0⟩:=(H2.out.next HB.out) i y hy;by_cases hxy:x=y
  · subst hxy;have HN:=hid (eq_next HE.out hx hy);clear hx hy hi1 hi2;go_wp2;go_quiet (fail);have HB2:=hid (below_drew HB.out nq);go_wp2;go_roundg (n-(i+1)+1)
    case measure=>omega
    case rel=>exact⟨i+1,by omega,by omega,by go_num,HN.out,HB2.out⟩
  · have HR:=hid (decide_eq_false (eq_not hx hy hxy));clear hx hy hi1 hi2;have hd:=str_ne_list hxy;obtain⟨SX,hSX⟩:∃ S,str x=S:=⟨_,rfl⟩;obtain⟨SY,hSY⟩:∃ S,str y=S:=⟨_,rfl⟩;rw [hSX] at x0 hd;rw [hSY] at y0 hd;clear hxy hSX hSY;go_wp2;go_quiet (fail);have HB2:=hid (below_drew HB.out nq);go_wp2;go_ret;exact⟨by rw [HR.out];rfl,HB2.out⟩
theorem rsamepool_any (a b:PoolC) (pa pb:Option Addr) (na ca nb cb:Nat) (hna:a.backs.length=na) (hnb:b.backs.length=nb) (hn1:na≤9223372036854775807) (hn2:nb≤9223372036854775807) (w:World) (h1:BkAt w pa a.backs) (h2:BkAt w pb b.backs):Calls Tryz.prog 34 #[poolV a pa na ca,poolV b pb nb cb] w fun e w'=>e= .returned (.bool (decide (a=b)))∧Below w.heap.size w w':=by
 obtain⟨x1,xl,x3,x4,x5,x6,x7,⟨xp,xq,xr,xs,xt⟩⟩:=a;obtain⟨y1,yl,y3,y4,y5,y6,y7,⟨yp,yq,yr,ys,yt⟩⟩:=b;dsimp only [poolV] at*;obtain⟨R,hR⟩:∃ R,decide ((⟨x1,xl,x3,x4,x5,x6,x7,⟨xp,xq,xr,xs,xt⟩⟩:PoolC)=⟨y1,yl,y3,y4,y5,y6,y7,⟨yp,yq,yr,ys,yt⟩⟩)=R:=⟨_,rfl⟩;rw [hR];have HB0:=hid ((two_new_v w (.cells #[.string (str x1),.slice pa na ca,.int .i64 x3,.int .i64 x4,.int .i64 x5,.int .i64 x6,.int .i64 x7,.string (str xp),.int .i64 xq,.int .i64 xr,.int .i64 xs,.int .i64 xt] 83 (0,0)) (.cells #[.string (str y1),.slice pb nb cb,.int .i64 y3,.int .i64 y4,.int .i64 y5,.int .i64 y6,.int .i64 y7,.string (str yp),.int .i64 yq,.int .i64 yr,.int .i64 ys,.int .i64 yt] 83 (0,0))).1);have HL:=hid hna;have HM:=hid hnb;have H1:=hid h1;have H2:=hid h2;by_cases hx1:x1=y1
 case neg=>
  have HR:=hid (show R=false from hR.symm.trans (decide_eq_false (fun e=>hx1 (congrArg PoolC.name e))));have hd:=str_ne_list hx1;obtain⟨S,hS⟩:∃ S,str x1=S:=⟨_,rfl⟩;obtain⟨S2,hS2⟩:∃ S,str y1=S:=⟨_,rfl⟩;rw [hS] at hd HB0 ⊢;rw [hS2] at hd HB0 ⊢;clear hS hS2 hx1;clear hR hna hnb h1 h2 H1 H2 HL HM;go_enter Tryz.func34,Tryz.ntmps34;go_wp2;go_ret;exact⟨by rw [HR.out];rfl,HB0.out⟩
 subst hx1;by_cases hln:na=nb
 case neg=>
  have HR:=hid (show R=false from hR.symm.trans (decide_eq_false (fun e=>hln (by rw [←hna,←hnb];exact congrArg (fun v:PoolC=>v.backs.length) e))));have hd:¬(na:Int)=(nb:Int):=by omega
  clear hR hna hnb h1 h2 H1 H2 HL HM;go_enter Tryz.func34,Tryz.ntmps34;go_wp2;go_ret;exact⟨by rw [HR.out];rfl,HB0.out⟩
 subst hln;by_cases hx3:x3=y3
 case neg=>
  have HR:=hid (show R=false from hR.symm.trans (decide_eq_false (fun e=>hx3 (congrArg PoolC.policy e))));have hd:(x3== y3)=false:=by simpa using hx3
  clear hR hna hnb h1 h2 H1 H2 HL HM;go_enter Tryz.func34,Tryz.ntmps34;go_wp2;go_ret;exact⟨by rw [HR.out];rfl,HB0.out⟩
 subst hx3;by_cases hx4:x4=y4
 case neg=>
  have HR:=hid (show R=false from hR.symm.trans (decide_eq_false (fun e=>hx4 (congrArg PoolC.retries e))));have hd:(x4== y4)=false:=by simpa using hx4
  clear hR hna hnb h1 h2 H1 H2 HL HM;go_enter Tryz.func34,Tryz.ntmps34;go_wp2;go_ret;exact⟨by rw [HR.out];rfl,HB0.out⟩
 subst hx4;by_cases hx5:x5=y5
 case neg=>
  have HR:=hid (show R=false from hR.symm.trans (decide_eq_false (fun e=>hx5 (congrArg PoolC.timeout e))));have hd:(x5== y5)=false:=by simpa using hx5
  clear hR hna hnb h1 h2 H1 H2 HL HM;go_enter Tryz.func34,Tryz.ntmps34;go_wp2;go_ret;exact⟨by rw [HR.out];rfl,HB0.out⟩
 subst hx5;by_cases hx6:x6=y6
 case neg=>
  have HR:=hid (show R=false from hR.symm.trans (decide_eq_false (fun e=>hx6 (congrArg PoolC.fails e))));have hd:(x6== y6)=false:=by simpa using hx6
  clear hR hna hnb h1 h2 H1 H2 HL HM;go_enter Tryz.func34,Tryz.ntmps34;go_wp2;go_ret;exact⟨by rw [HR.out];rfl,HB0.out⟩
 subst hx6;by_cases hx7:x7=y7
 case neg=>
  have HR:=hid (show R=false from hR.symm.trans (decide_eq_false (fun e=>hx7 (congrArg PoolC.opn e))));have hd:(x7== y7)=false:=by simpa using hx7
  clear hR hna hnb h1 h2 H1 H2 HL HM;go_enter Tryz.func34,Tryz.ntmps34;go_wp2;go_ret;exact⟨by rw [HR.out];rfl,HB0.out⟩
 subst hx7;by_cases hxp:xp=yp
 case neg=>
  have HR:=hid (show R=false from hR.symm.trans (decide_eq_false (fun e=>hxp (congrArg (fun v:PoolC=>v.probe.path) e))));have hd:=str_ne_list hxp;obtain⟨S,hS⟩:∃ S,str xp=S:=⟨_,rfl⟩;obtain⟨S2,hS2⟩:∃ S,str yp=S:=⟨_,rfl⟩;rw [hS] at hd HB0 ⊢;rw [hS2] at hd HB0 ⊢;clear hS hS2 hxp;clear hR hna hnb h1 h2 H1 H2 HL HM;go_enter Tryz.func34,Tryz.ntmps34;go_wp2;go_ret;exact⟨by rw [HR.out];rfl,HB0.out⟩
 subst hxp;by_cases hxq:xq=yq
 case neg=>
  have HR:=hid (show R=false from hR.symm.trans (decide_eq_false (fun e=>hxq (congrArg (fun v:PoolC=>v.probe.every) e))));have hd:(xq== yq)=false:=by simpa using hxq
  clear hR hna hnb h1 h2 H1 H2 HL HM;go_enter Tryz.func34,Tryz.ntmps34;go_wp2;go_ret;exact⟨by rw [HR.out];rfl,HB0.out⟩
 subst hxq;by_cases hxr:xr=yr
 case neg=>
  have HR:=hid (show R=false from hR.symm.trans (decide_eq_false (fun e=>hxr (congrArg (fun v:PoolC=>v.probe.timeout) e))));have hd:(xr== yr)=false:=by simpa using hxr
  clear hR hna hnb h1 h2 H1 H2 HL HM;go_enter Tryz.func34,Tryz.ntmps34;go_wp2;go_ret;exact⟨by rw [HR.out];rfl,HB0.out⟩
 subst hxr;by_cases hxs:xs=ys
 case neg=>
  have HR:=hid (show R=false from hR.symm.trans (decide_eq_false (fun e=>hxs (congrArg (fun v:PoolC=>v.probe.rise) e))));have hd:(xs== ys)=false:=by simpa using hxs
  clear hR hna hnb h1 h2 H1 H2 HL HM;go_enter Tryz.func34,Tryz.ntmps34;go_wp2;go_ret;exact⟨by rw [HR.out];rfl,HB0.out⟩
 subst hxs;by_cases hxt:xt=yt
 case neg=>
  have HR:=hid (show R=false from hR.symm.trans (decide_eq_false (fun e=>hxt (congrArg (fun v:PoolC=>v.probe.fall) e))));have hd:(xt== yt)=false:=by simpa using hxt
  clear hR hna hnb h1 h2 H1 H2 HL HM;go_enter Tryz.func34,Tryz.ntmps34;go_wp2;go_ret;exact⟨by rw [HR.out];rfl,HB0.out⟩
 subst hxt;have HRe:=hid (show R=decide (xl=yl) from by rw [←hR];by_cases hxy:xl=yl;rw [hxy,decide_eq_true rfl,decide_eq_true rfl];rw [decide_eq_false hxy];exact decide_eq_false (fun e=>hxy (congrArg PoolC.backs e)));have HXa:=hid ((two_new_v w (.cells #[.string (str x1),.slice pa na ca,.int .i64 x3,.int .i64 x4,.int .i64 x5,.int .i64 x6,.int .i64 x7,.string (str xp),.int .i64 xq,.int .i64 xr,.int .i64 xs,.int .i64 xt] 83 (0,0)) (.cells #[.string (str x1),.slice pb na cb,.int .i64 x3,.int .i64 x4,.int .i64 x5,.int .i64 x6,.int .i64 x7,.string (str xp),.int .i64 xq,.int .i64 xr,.int .i64 xs,.int .i64 xt] 83 (0,0))).2.1);have HXb:=hid ((two_new_v w (.cells #[.string (str x1),.slice pa na ca,.int .i64 x3,.int .i64 x4,.int .i64 x5,.int .i64 x6,.int .i64 x7,.string (str xp),.int .i64 xq,.int .i64 xr,.int .i64 xs,.int .i64 xt] 83 (0,0)) (.cells #[.string (str x1),.slice pb na cb,.int .i64 x3,.int .i64 x4,.int .i64 x5,.int .i64 x6,.int .i64 x7,.string (str xp),.int .i64 xq,.int .i64 xr,.int .i64 xs,.int .i64 xt] 83 (0,0))).2.2);rw [HRe.out];clear hR hna hnb h1 h2 HRe hn2;go_enter Tryz.func34,Tryz.ntmps34;go_wp2;go_loopg [5] (na+1) (fun gk s wr=>∃ i:Nat,i≤na∧gk=na-i+1∧s= .int .i64 (i:Int)∧xl.take i=yl.take i∧Below w.heap.size w wr∧wr.heap[w.heap.size]?=some (.cells #[.string (str x1),.slice pa na ca,.int .i64 x3,.int .i64 x4,.int .i64 x5,.int .i64 x6,.int .i64 x7,.string (str xp),.int .i64 xq,.int .i64 xr,.int .i64 xs,.int .i64 xt] 83 (0,0))∧wr.heap[w.heap.size+1]?=some (.cells #[.string (str x1),.slice pb na cb,.int .i64 x3,.int .i64 x4,.int .i64 x5,.int .i64 x6,.int .i64 x7,.string (str xp),.int .i64 xq,.int .i64 xr,.int .i64 xs,.int .i64 xt] 83 (0,0)))
 case atStart=>exact⟨0,by omega,rfl,rfl,rfl,HB0.out,HXa.out,HXb.out⟩
 case round=>
  clear HB0 HXa HXb;obtain⟨i,hi,rfl,rfl,hE,hb,hxa,hxb⟩:=hrel;have HE:=hid hE;have HB:=hid hb;have HXa:=hid hxa;have HXb:=hid hxb;obtain⟨u0,u1,u2,u3,u4,u5,u6,u7,u8,u9,u10,u11⟩:=cells12 hxa;obtain⟨v0,v1,v2,v3,v4,v5,v6,v7,v8,v9,v10,v11⟩:=cells12 hxb;clear hE hb hxa hxb;by_cases hin:i<na
  case neg=>
   have hiN:i=na:=by omega
   subst hiN;have HR:=hid (decide_eq_true (eq_whole HL.out HM.out HE.out));go_wp2;go_ret;exact⟨by rw [HR.out];rfl,HB.out⟩
  have hi1:i<xl.length:=by rw [HL.out];exact hin
  have hi2:i<yl.length:=by rw [HM.out];exact hin
  obtain⟨x,hx⟩:∃ x,xl[i]?=some x:=⟨_,List.getElem?_eq_getElem hi1⟩;obtain⟨y,hy⟩:∃ y,yl[i]?=some y:=⟨_,List.getElem?_eq_getElem hi2⟩;obtain⟨g1,o1,rfl,k0,k1⟩:=(H1.out.next HB.out) i x hx;obtain⟨g2,o2,rfl,j0,j1⟩:=(H2.out.next HB.out) i y hy;by_cases hxy:x=y
  · subst hxy;have HN:=hid (eq_next HE.out hx hy);clear hx hy hi1 hi2;go_wp2;go_quiet (fail);have HB2:=hid (below_drew HB.out nq);go_wp2;go_roundg (na-(i+1)+1)
    case measure=>omega
    case rel=>exact⟨i+1,by omega,by omega,by go_num,HN.out,HB2.out,HXa.out,HXb.out⟩
  · have HR:=hid (decide_eq_false (eq_not hx hy hxy));clear hx hy hi1 hi2;obtain⟨za,zb⟩:=x;obtain⟨ta,tb⟩:=y;dsimp only at*;by_cases ha:za=ta
    · subst ha;have hb:¬zb=tb:=fun e=>hxy (by rw [e])
      have hd:(zb== tb)=false:=by simpa using hb
      obtain⟨SA,hSA⟩:∃ S,str za=S:=⟨_,rfl⟩;rw [hSA] at k0 j0;clear hSA hxy;go_wp2;go_quiet (fail);have HB2:=hid (below_drew HB.out nq);go_wp2;go_ret;exact⟨by rw [HR.out];rfl,HB2.out⟩
    · have hd:=str_ne_list ha;obtain⟨SA,hSA⟩:∃ S,str za=S:=⟨_,rfl⟩;obtain⟨SC,hSC⟩:∃ S,str ta=S:=⟨_,rfl⟩;rw [hSA] at k0 hd;rw [hSC] at j0 hd;clear hxy ha hSA hSC;go_wp2;go_quiet (fail);have HB2:=hid (below_drew HB.out nq);go_wp2;go_ret;exact⟨by rw [HR.out];rfl,HB2.out⟩
end Go.Proofs.YtlmefgjhbohjlaaGreatDoor
