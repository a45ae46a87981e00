/- The program: whether two routes are the same. -/
import Derived.Test.YtlmefgjhbohjlaaGreatDoorWSame
namespace Go.Proofs.YtlmefgjhbohjlaaGreatDoor
set_option maxRecDepth 20000
set_option maxHeartbeats 64000000
open Go.RowKit
theorem psameauth_any (a b:AuthC) (pa pb:Option Addr) (na ca nb cb:Nat) (hna:a.scopes.length=na) (hnb:b.scopes.length=nb) (hn1:na≤9223372036854775807) (hn2:nb≤9223372036854775807) (w:World) (h1:TsAt w pa a.scopes) (h2:TsAt w pb b.scopes):Calls Tryz.prog 119 #[authV a pa na ca,authV b pb nb cb] w fun e w'=>e= .returned (.bool (decide (a=b)))∧Below w.heap.size w w':=by
 have HC0:=hid (fun (W:World) (hb:Below w.heap.size w W)=>peqt_any a.scopes b.scopes pa pb na ca nb cb hna hnb hn1 hn2 W (h1.next hb) (h2.next hb));obtain⟨x1,x2,x3,xl,x5⟩:=a;obtain⟨y1,y2,y3,yl,y5⟩:=b;dsimp only [authV] at*;obtain⟨R,hR⟩:∃ R,decide ((⟨x1,x2,x3,xl,x5⟩:AuthC)=(⟨y1,y2,y3,yl,y5⟩:AuthC))=R:=⟨_,rfl⟩;rw [hR];obtain⟨c0,hc0⟩:∃ c,decide (xl=yl)=c:=⟨_,rfl⟩;rw [hc0] at HC0;have hA:=two_new_v w (.cells #[.bool x1,.string (str x2),.string (str x3),.slice pa na ca,.int .i64 x5] 87 (0,0)) (.cells #[.bool y1,.string (str y2),.string (str y3),.slice pb nb cb,.int .i64 y5] 87 (0,0));have HB0:=hid hA.1;have HXa:=hid hA.2.1;have HXb:=hid hA.2.2;clear hA hna hnb h1 h2;by_cases hx1:x1=y1
 case neg=>
  have HR:=hid (show R=false from hR.symm.trans (decide_eq_false (fun e=>hx1 (congrArg AuthC.on e))));have hd:(x1== y1)=false:=by simpa using hx1
  clear hc0;clear hR;go_enter Tryz.func119,Tryz.ntmps119;go_wp2;go_ret;exact⟨by rw [HR.out];rfl,HB0.out⟩
 subst hx1;by_cases hx2:x2=y2
 case neg=>
  have HR:=hid (show R=false from hR.symm.trans (decide_eq_false (fun e=>hx2 (congrArg AuthC.iss e))));have hd:=str_ne_list hx2;obtain⟨S,hS⟩:∃ S,str x2=S:=⟨_,rfl⟩;obtain⟨S2,hS2⟩:∃ S,str y2=S:=⟨_,rfl⟩;rw [hS] at hd HXa HXb HB0 ⊢;rw [hS2] at hd HXa HXb HB0 ⊢;clear hS hS2 hx2 hc0;clear hR;go_enter Tryz.func119,Tryz.ntmps119;go_wp2;go_ret;exact⟨by rw [HR.out];rfl,HB0.out⟩
 subst hx2;by_cases hx3:x3=y3
 case neg=>
  have HR:=hid (show R=false from hR.symm.trans (decide_eq_false (fun e=>hx3 (congrArg AuthC.aud e))));have hd:=str_ne_list hx3;obtain⟨S,hS⟩:∃ S,str x3=S:=⟨_,rfl⟩;obtain⟨S2,hS2⟩:∃ S,str y3=S:=⟨_,rfl⟩;rw [hS] at hd HXa HXb HB0 ⊢;rw [hS2] at hd HXa HXb HB0 ⊢;clear hS hS2 hx3 hc0;clear hR;go_enter Tryz.func119,Tryz.ntmps119;go_wp2;go_ret;exact⟨by rw [HR.out];rfl,HB0.out⟩
 subst hx3;cases c0 with
 |false=>
  have hne:=of_decide_eq_false hc0;have HR:=hid (show R=false from hR.symm.trans (decide_eq_false (fun e=>hne (congrArg AuthC.scopes e))));clear hne hc0;clear hR;go_enter Tryz.func119,Tryz.ntmps119;go_wp2_with (first
   |(go_at_call 118;(with_reducible refine(HC0.out _ HB0.out).mono ?_);rintro e w1 ⟨rfl,hb⟩;have HB1:=hid (below_out HB0.out hb);have hxa:=kB hb HXa.out;have hxb:=kB hb HXb.out;have HXa1:=hid hxa;have HXb1:=hid hxb;(try clear u0 u1 u2 u3 u4);(try clear v0 v1 v2 v3 v4);obtain⟨u0,u1,u2,u3,u4⟩:=cells5b hxa;obtain⟨v0,v1,v2,v3,v4⟩:=cells5b hxb;clear hxa hxb hb HC0))
  go_ret;exact⟨by rw [HR.out];rfl,HB1.out⟩
 |true=>
 have he:=of_decide_eq_true hc0;subst he;clear hc0;by_cases hx5:x5=y5
 case neg=>
  have HR:=hid (show R=false from hR.symm.trans (decide_eq_false (fun e=>hx5 (congrArg AuthC.leeway e))));have hd:(x5== y5)=false:=by simpa using hx5
  clear hR;go_enter Tryz.func119,Tryz.ntmps119;go_wp2_with (first
   |(go_at_call 118;(with_reducible refine(HC0.out _ HB0.out).mono ?_);rintro e w1 ⟨rfl,hb⟩;have HB1:=hid (below_out HB0.out hb);have hxa:=kB hb HXa.out;have hxb:=kB hb HXb.out;have HXa1:=hid hxa;have HXb1:=hid hxb;(try clear u0 u1 u2 u3 u4);(try clear v0 v1 v2 v3 v4);obtain⟨u0,u1,u2,u3,u4⟩:=cells5b hxa;obtain⟨v0,v1,v2,v3,v4⟩:=cells5b hxb;clear hxa hxb hb HC0))
  go_ret;exact⟨by rw [HR.out];rfl,HB1.out⟩
 subst hx5;have HR:=hid (show R=true from hR.symm.trans (decide_eq_true rfl));clear hR;go_enter Tryz.func119,Tryz.ntmps119;go_wp2_with (first
  |(go_at_call 118;(with_reducible refine(HC0.out _ HB0.out).mono ?_);rintro e w1 ⟨rfl,hb⟩;have HB1:=hid (below_out HB0.out hb);have hxa:=kB hb HXa.out;have hxb:=kB hb HXb.out;have HXa1:=hid hxa;have HXb1:=hid hxb;(try clear u0 u1 u2 u3 u4);(try clear v0 v1 v2 v3 v4);obtain⟨u0,u1,u2,u3,u4⟩:=cells5b hxa;obtain⟨v0,v1,v2,v3,v4⟩:=cells5b hxb;clear hxa hxb hb HC0))
 go_ret;exact⟨by rw [HR.out];rfl,HB1.out⟩
theorem psameroute_any (a b:RouteC) (pa pb qa qb:Option Addr) (na ca nb cb ma da mb db:Nat) (hna:a.methods.length=na) (hnb:b.methods.length=nb) (hma:a.auth.scopes.length=ma) (hmb:b.auth.scopes.length=mb) (hn1:na≤9223372036854775807) (hn2:nb≤9223372036854775807) (hm1:ma≤9223372036854775807) (hm2:mb≤9223372036854775807) (w:World) (h1:TsAt w pa a.methods) (h2:TsAt w pb b.methods) (h3:TsAt w qa a.auth.scopes) (h4:TsAt w qb b.auth.scopes):Calls Tryz.prog 58 #[routeV a pa na ca qa ma da,routeV b pb nb cb qb mb db] w fun e w'=>e= .returned (.bool (decide (a=b)))∧Below w.heap.size w w':=by
 have HC0:=hid (fun (W:World) (hb:Below w.heap.size w W)=>peqt_any a.methods b.methods pa pb na ca nb cb hna hnb hn1 hn2 W (h1.next hb) (h2.next hb));have HC1:=hid (fun (W:World) (hb:Below w.heap.size w W)=>psameauth_any a.auth b.auth qa qb ma da mb db hma hmb hm1 hm2 W (h3.next hb) (h4.next hb));obtain⟨x1,x2,xl,x4,⟨xa,xb,xc,xd,xe⟩,⟨xf,xg,xh,xi⟩⟩:=a;obtain⟨y1,y2,yl,y4,⟨ya,yb,yc,yd,ye⟩,⟨yf,yg,yh,yi⟩⟩:=b;dsimp only [routeV,authV] at*;obtain⟨R,hR⟩:∃ R,decide ((⟨x1,x2,xl,x4,⟨xa,xb,xc,xd,xe⟩,⟨xf,xg,xh,xi⟩⟩:RouteC)=(⟨y1,y2,yl,y4,⟨ya,yb,yc,yd,ye⟩,⟨yf,yg,yh,yi⟩⟩:RouteC))=R:=⟨_,rfl⟩;rw [hR];obtain⟨c0,hc0⟩:∃ c,decide (xl=yl)=c:=⟨_,rfl⟩;rw [hc0] at HC0;obtain⟨c1,hc1⟩:∃ c,decide ((⟨xa,xb,xc,xd,xe⟩:AuthC)=(⟨ya,yb,yc,yd,ye⟩:AuthC))=c:=⟨_,rfl⟩;rw [hc1] at HC1;have hA:=two_new_v w (.cells #[.string (str x1),.string (str x2),.slice pa na ca,.string (str x4),.bool xa,.string (str xb),.string (str xc),.slice qa ma da,.int .i64 xe,.int .i64 xf,.int .i64 xg,.int .i64 xh,.int .i64 xi] 91 (0,0)) (.cells #[.string (str y1),.string (str y2),.slice pb nb cb,.string (str y4),.bool ya,.string (str yb),.string (str yc),.slice qb mb db,.int .i64 ye,.int .i64 yf,.int .i64 yg,.int .i64 yh,.int .i64 yi] 91 (0,0));have HB0:=hid hA.1;have HXa:=hid hA.2.1;have HXb:=hid hA.2.2;clear hA hna hnb h1 h2 hma hmb h3 h4;by_cases hx1:x1=y1
 case neg=>
  have HR:=hid (show R=false from hR.symm.trans (decide_eq_false (fun e=>hx1 (congrArg RouteC.host e))));have hd:=str_ne_list hx1;obtain⟨S,hS⟩:∃ S,str x1=S:=⟨_,rfl⟩;obtain⟨S2,hS2⟩:∃ S,str y1=S:=⟨_,rfl⟩;rw [hS] at hd HXa HXb HB0 ⊢;rw [hS2] at hd HXa HXb HB0 ⊢;clear hS hS2 hx1 hc0 hc1;clear hR;go_enter Tryz.func58,Tryz.ntmps58;go_wp2;go_ret;exact⟨by rw [HR.out];rfl,HB0.out⟩
 subst hx1;by_cases hx2:x2=y2
 case neg=>
  have HR:=hid (show R=false from hR.symm.trans (decide_eq_false (fun e=>hx2 (congrArg RouteC.path e))));have hd:=str_ne_list hx2;obtain⟨S,hS⟩:∃ S,str x2=S:=⟨_,rfl⟩;obtain⟨S2,hS2⟩:∃ S,str y2=S:=⟨_,rfl⟩;rw [hS] at hd HXa HXb HB0 ⊢;rw [hS2] at hd HXa HXb HB0 ⊢;clear hS hS2 hx2 hc0 hc1;clear hR;go_enter Tryz.func58,Tryz.ntmps58;go_wp2;go_ret;exact⟨by rw [HR.out];rfl,HB0.out⟩
 subst hx2;cases c0 with
 |false=>
  have hne:=of_decide_eq_false hc0;have HR:=hid (show R=false from hR.symm.trans (decide_eq_false (fun e=>hne (congrArg RouteC.methods e))));clear hne hc0 hc1;clear hR;go_enter Tryz.func58,Tryz.ntmps58;go_wp2_with (first
   |(go_at_call 118;(with_reducible refine(HC0.out _ HB0.out).mono ?_);rintro e w1 ⟨rfl,hb⟩;have HB1:=hid (below_out HB0.out hb);have hxa:=kB hb HXa.out;have hxb:=kB hb HXb.out;have HXa1:=hid hxa;have HXb1:=hid hxb;(try clear u0 u1 u2 u3 u4 u5 u6 u7 u8 u9 u10 u11 u12);(try clear v0 v1 v2 v3 v4 v5 v6 v7 v8 v9 v10 v11 v12);obtain⟨u0,u1,u2,u3,u4,u5,u6,u7,u8,u9,u10,u11,u12⟩:=cells13 hxa;obtain⟨v0,v1,v2,v3,v4,v5,v6,v7,v8,v9,v10,v11,v12⟩:=cells13 hxb;clear hxa hxb hb HC0))
  go_ret;exact⟨by rw [HR.out];rfl,HB1.out⟩
 |true=>
 have he:=of_decide_eq_true hc0;subst he;clear hc0;by_cases hx4:x4=y4
 case neg=>
  have HR:=hid (show R=false from hR.symm.trans (decide_eq_false (fun e=>hx4 (congrArg RouteC.pool e))));have hd:=str_ne_list hx4;obtain⟨S,hS⟩:∃ S,str x4=S:=⟨_,rfl⟩;obtain⟨S2,hS2⟩:∃ S,str y4=S:=⟨_,rfl⟩;rw [hS] at hd HXa HXb HB0 ⊢;rw [hS2] at hd HXa HXb HB0 ⊢;clear hS hS2 hx4 hc1;clear hR;go_enter Tryz.func58,Tryz.ntmps58;go_wp2_with (first
   |(go_at_call 118;(with_reducible refine(HC0.out _ HB0.out).mono ?_);rintro e w1 ⟨rfl,hb⟩;have HB1:=hid (below_out HB0.out hb);have hxa:=kB hb HXa.out;have hxb:=kB hb HXb.out;have HXa1:=hid hxa;have HXb1:=hid hxb;(try clear u0 u1 u2 u3 u4 u5 u6 u7 u8 u9 u10 u11 u12);(try clear v0 v1 v2 v3 v4 v5 v6 v7 v8 v9 v10 v11 v12);obtain⟨u0,u1,u2,u3,u4,u5,u6,u7,u8,u9,u10,u11,u12⟩:=cells13 hxa;obtain⟨v0,v1,v2,v3,v4,v5,v6,v7,v8,v9,v10,v11,v12⟩:=cells13 hxb;clear hxa hxb hb HC0))
  go_ret;exact⟨by rw [HR.out];rfl,HB1.out⟩
 subst hx4;cases c1 with
 |false=>
  have hne:=of_decide_eq_false hc1;have HR:=hid (show R=false from hR.symm.trans (decide_eq_false (fun e=>hne (congrArg RouteC.auth e))));clear hne hc1;clear hR;go_enter Tryz.func58,Tryz.ntmps58;go_wp2_with (first
   |(go_at_call 118;(with_reducible refine(HC0.out _ HB0.out).mono ?_);rintro e w1 ⟨rfl,hb⟩;have HB1:=hid (below_out HB0.out hb);have hxa:=kB hb HXa.out;have hxb:=kB hb HXb.out;have HXa1:=hid hxa;have HXb1:=hid hxb;(try clear u0 u1 u2 u3 u4 u5 u6 u7 u8 u9 u10 u11 u12);(try clear v0 v1 v2 v3 v4 v5 v6 v7 v8 v9 v10 v11 v12);obtain⟨u0,u1,u2,u3,u4,u5,u6,u7,u8,u9,u10,u11,u12⟩:=cells13 hxa;obtain⟨v0,v1,v2,v3,v4,v5,v6,v7,v8,v9,v10,v11,v12⟩:=cells13 hxb;clear hxa hxb hb HC0)
   |(go_at_call 119;(with_reducible refine(HC1.out _ HB1.out).mono ?_);rintro e w2 ⟨rfl,hb⟩;have HB2:=hid (below_out HB1.out hb);have hxa:=kB hb HXa1.out;have hxb:=kB hb HXb1.out;have HXa2:=hid hxa;have HXb2:=hid hxb;(try clear u0 u1 u2 u3 u4 u5 u6 u7 u8 u9 u10 u11 u12);(try clear v0 v1 v2 v3 v4 v5 v6 v7 v8 v9 v10 v11 v12);obtain⟨u0,u1,u2,u3,u4,u5,u6,u7,u8,u9,u10,u11,u12⟩:=cells13 hxa;obtain⟨v0,v1,v2,v3,v4,v5,v6,v7,v8,v9,v10,v11,v12⟩:=cells13 hxb;clear hxa hxb hb HC1))
  go_ret;exact⟨by rw [HR.out];rfl,HB2.out⟩
 |true=>
 have he:=of_decide_eq_true hc1;injection he with e1 e2 e3 e4 e5
 subst e1 e2 e3 e4 e5;clear hc1;by_cases hxf:xf=yf
 case neg=>
  have HR:=hid (show R=false from hR.symm.trans (decide_eq_false (fun e=>hxf (congrArg (fun v:RouteC=>v.lim.by_) e))));have hd:(xf== yf)=false:=by simpa using hxf
  clear hR;go_enter Tryz.func58,Tryz.ntmps58;go_wp2_with (first
   |(go_at_call 118;(with_reducible refine(HC0.out _ HB0.out).mono ?_);rintro e w1 ⟨rfl,hb⟩;have HB1:=hid (below_out HB0.out hb);have hxa:=kB hb HXa.out;have hxb:=kB hb HXb.out;have HXa1:=hid hxa;have HXb1:=hid hxb;(try clear u0 u1 u2 u3 u4 u5 u6 u7 u8 u9 u10 u11 u12);(try clear v0 v1 v2 v3 v4 v5 v6 v7 v8 v9 v10 v11 v12);obtain⟨u0,u1,u2,u3,u4,u5,u6,u7,u8,u9,u10,u11,u12⟩:=cells13 hxa;obtain⟨v0,v1,v2,v3,v4,v5,v6,v7,v8,v9,v10,v11,v12⟩:=cells13 hxb;clear hxa hxb hb HC0)
   |(go_at_call 119;(with_reducible refine(HC1.out _ HB1.out).mono ?_);rintro e w2 ⟨rfl,hb⟩;have HB2:=hid (below_out HB1.out hb);have hxa:=kB hb HXa1.out;have hxb:=kB hb HXb1.out;have HXa2:=hid hxa;have HXb2:=hid hxb;(try clear u0 u1 u2 u3 u4 u5 u6 u7 u8 u9 u10 u11 u12);(try clear v0 v1 v2 v3 v4 v5 v6 v7 v8 v9 v10 v11 v12);obtain⟨u0,u1,u2,u3,u4,u5,u6,u7,u8,u9,u10,u11,u12⟩:=cells13 hxa;obtain⟨v0,v1,v2,v3,v4,v5,v6,v7,v8,v9,v10,v11,v12⟩:=cells13 hxb;clear hxa hxb hb HC1))
  go_ret;exact⟨by rw [HR.out];rfl,HB2.out⟩
 subst hxf;by_cases hxg:xg=yg
 case neg=>
  have HR:=hid (show R=false from hR.symm.trans (decide_eq_false (fun e=>hxg (congrArg (fun v:RouteC=>v.lim.rate) e))));have hd:(xg== yg)=false:=by simpa using hxg
  clear hR;go_enter Tryz.func58,Tryz.ntmps58;go_wp2_with (first
   |(go_at_call 118;(with_reducible refine(HC0.out _ HB0.out).mono ?_);rintro e w1 ⟨rfl,hb⟩;have HB1:=hid (below_out HB0.out hb);have hxa:=kB hb HXa.out;have hxb:=kB hb HXb.out;have HXa1:=hid hxa;have HXb1:=hid hxb;(try clear u0 u1 u2 u3 u4 u5 u6 u7 u8 u9 u10 u11 u12);(try clear v0 v1 v2 v3 v4 v5 v6 v7 v8 v9 v10 v11 v12);obtain⟨u0,u1,u2,u3,u4,u5,u6,u7,u8,u9,u10,u11,u12⟩:=cells13 hxa;obtain⟨v0,v1,v2,v3,v4,v5,v6,v7,v8,v9,v10,v11,v12⟩:=cells13 hxb;clear hxa hxb hb HC0)
   |(go_at_call 119;(with_reducible refine(HC1.out _ HB1.out).mono ?_);rintro e w2 ⟨rfl,hb⟩;have HB2:=hid (below_out HB1.out hb);have hxa:=kB hb HXa1.out;have hxb:=kB hb HXb1.out;have HXa2:=hid hxa;have HXb2:=hid hxb;(try clear u0 u1 u2 u3 u4 u5 u6 u7 u8 u9 u10 u11 u12);(try clear v0 v1 v2 v3 v4 v5 v6 v7 v8 v9 v10 v11 v12);obtain⟨u0,u1,u2,u3,u4,u5,u6,u7,u8,u9,u10,u11,u12⟩:=cells13 hxa;obtain⟨v0,v1,v2,v3,v4,v5,v6,v7,v8,v9,v10,v11,v12⟩:=cells13 hxb;clear hxa hxb hb HC1))
  go_ret;exact⟨by rw [HR.out];rfl,HB2.out⟩
 subst hxg;by_cases hxh:xh=yh
 case neg=>
  have HR:=hid (show R=false from hR.symm.trans (decide_eq_false (fun e=>hxh (congrArg (fun v:RouteC=>v.lim.per) e))));have hd:(xh== yh)=false:=by simpa using hxh
  clear hR;go_enter Tryz.func58,Tryz.ntmps58;go_wp2_with (first
   |(go_at_call 118;(with_reducible refine(HC0.out _ HB0.out).mono ?_);rintro e w1 ⟨rfl,hb⟩;have HB1:=hid (below_out HB0.out hb);have hxa:=kB hb HXa.out;have hxb:=kB hb HXb.out;have HXa1:=hid hxa;have HXb1:=hid hxb;(try clear u0 u1 u2 u3 u4 u5 u6 u7 u8 u9 u10 u11 u12);(try clear v0 v1 v2 v3 v4 v5 v6 v7 v8 v9 v10 v11 v12);obtain⟨u0,u1,u2,u3,u4,u5,u6,u7,u8,u9,u10,u11,u12⟩:=cells13 hxa;obtain⟨v0,v1,v2,v3,v4,v5,v6,v7,v8,v9,v10,v11,v12⟩:=cells13 hxb;clear hxa hxb hb HC0)
   |(go_at_call 119;(with_reducible refine(HC1.out _ HB1.out).mono ?_);rintro e w2 ⟨rfl,hb⟩;have HB2:=hid (below_out HB1.out hb);have hxa:=kB hb HXa1.out;have hxb:=kB hb HXb1.out;have HXa2:=hid hxa;have HXb2:=hid hxb;(try clear u0 u1 u2 u3 u4 u5 u6 u7 u8 u9 u10 u11 u12);(try clear v0 v1 v2 v3 v4 v5 v6 v7 v8 v9 v10 v11 v12);obtain⟨u0,u1,u2,u3,u4,u5,u6,u7,u8,u9,u10,u11,u12⟩:=cells13 hxa;obtain⟨v0,v1,v2,v3,v4,v5,v6,v7,v8,v9,v10,v11,v12⟩:=cells13 hxb;clear hxa hxb hb HC1))
  go_ret;exact⟨by rw [HR.out];rfl,HB2.out⟩
 subst hxh;by_cases hxi:xi=yi
 case neg=>
  have HR:=hid (show R=false from hR.symm.trans (decide_eq_false (fun e=>hxi (congrArg (fun v:RouteC=>v.lim.burst) e))));have hd:(xi== yi)=false:=by simpa using hxi
  clear hR;go_enter Tryz.func58,Tryz.ntmps58;go_wp2_with (first
   |(go_at_call 118;(with_reducible refine(HC0.out _ HB0.out).mono ?_);rintro e w1 ⟨rfl,hb⟩;have HB1:=hid (below_out HB0.out hb);have hxa:=kB hb HXa.out;have hxb:=kB hb HXb.out;have HXa1:=hid hxa;have HXb1:=hid hxb;(try clear u0 u1 u2 u3 u4 u5 u6 u7 u8 u9 u10 u11 u12);(try clear v0 v1 v2 v3 v4 v5 v6 v7 v8 v9 v10 v11 v12);obtain⟨u0,u1,u2,u3,u4,u5,u6,u7,u8,u9,u10,u11,u12⟩:=cells13 hxa;obtain⟨v0,v1,v2,v3,v4,v5,v6,v7,v8,v9,v10,v11,v12⟩:=cells13 hxb;clear hxa hxb hb HC0)
   |(go_at_call 119;(with_reducible refine(HC1.out _ HB1.out).mono ?_);rintro e w2 ⟨rfl,hb⟩;have HB2:=hid (below_out HB1.out hb);have hxa:=kB hb HXa1.out;have hxb:=kB hb HXb1.out;have HXa2:=hid hxa;have HXb2:=hid hxb;(try clear u0 u1 u2 u3 u4 u5 u6 u7 u8 u9 u10 u11 u12);(try clear v0 v1 v2 v3 v4 v5 v6 v7 v8 v9 v10 v11 v12);obtain⟨u0,u1,u2,u3,u4,u5,u6,u7,u8,u9,u10,u11,u12⟩:=cells13 hxa;obtain⟨v0,v1,v2,v3,v4,v5,v6,v7,v8,v9,v10,v11,v12⟩:=cells13 hxb;clear hxa hxb hb HC1))
  go_ret;exact⟨by rw [HR.out];rfl,HB2.out⟩
 subst hxi;have HR:=hid (show R=true from hR.symm.trans (decide_eq_true rfl));clear hR;go_enter Tryz.func58,Tryz.ntmps58;go_wp2_with (first
  |(go_at_call 118;(with_reducible refine(HC0.out _ HB0.out).mono ?_);rintro e w1 ⟨rfl,hb⟩;have HB1:=hid (below_out HB0.out hb);have hxa:=kB hb HXa.out;have hxb:=kB hb HXb.out;have HXa1:=hid hxa;have HXb1:=hid hxb;(try clear u0 u1 u2 u3 u4 u5 u6 u7 u8 u9 u10 u11 u12);(try clear v0 v1 v2 v3 v4 v5 v6 v7 v8 v9 v10 v11 v12);obtain⟨u0,u1,u2,u3,u4,u5,u6,u7,u8,u9,u10,u11,u12⟩:=cells13 hxa;obtain⟨v0,v1,v2,v3,v4,v5,v6,v7,v8,v9,v10,v11,v12⟩:=cells13 hxb;clear hxa hxb hb HC0)
  |(go_at_call 119;(with_reducible refine(HC1.out _ HB1.out).mono ?_);rintro e w2 ⟨rfl,hb⟩;have HB2:=hid (below_out HB1.out hb);have hxa:=kB hb HXa1.out;have hxb:=kB hb HXb1.out;have HXa2:=hid hxa;have HXb2:=hid hxb;(try clear u0 u1 u2 u3 u4 u5 u6 u7 u8 u9 u10 u11 u12);(try clear v0 v1 v2 v3 v4 v5 v6 v7 v8 v9 v10 v11 v12);obtain⟨u0,u1,u2,u3,u4,u5,u6,u7,u8,u9,u10,u11,u12⟩:=cells13 hxa;obtain⟨v0,v1,v2,v3,v4,v5,v6,v7,v8,v9,v10,v11,v12⟩:=cells13 hxb;clear hxa hxb hb HC1))
 go_ret;exact⟨by rw [HR.out];rfl,HB2.out⟩
def PoolL (x:PoolC):Prop:=x.backs.length≤9223372036854775807
def RouteL (x:RouteC):Prop:=x.methods.length≤9223372036854775807∧x.auth.scopes.length≤9223372036854775807
theorem peqpools_any (l m:List PoolC) (p q:Option Addr) (n c k d:Nat) (hl:l.length=n) (hm:m.length=k) (hnn:n≤9223372036854775807) (hkk:k≤9223372036854775807) (hz1:∀ x∈l,PoolL x) (hz2:∀ x∈m,PoolL x) (w:World) (h1:PoAtC w p l) (h2:PoAtC w q m):Calls Tryz.prog 55 #[.slice p n c,.slice q k d,.func (.func 56) #[] #[]] w fun e w'=>e= .returned (.bool (decide (l=m)))∧Below w.heap.size w w':=by
 have HL:=hid hl;have HM:=hid hm;have H1:=hid h1;have H2:=hid h2;have HZ1:=hid hz1;have HZ2:=hid hz2;by_cases hnk:n=k
 case neg=>
  rw [decide_eq_false (eq_len hl hm hnk)];have hnk2:¬(n:Int)=(k:Int):=by omega
  clear hl hm h1 h2 H1 H2 HL HM hz1 hz2 HZ1 HZ2;go_enter Tryz.func55,Tryz.ntmps55;go_wp2;go_ret;exact⟨rfl,Below.refl _ _⟩
 subst hnk;clear hl hm h1 h2 hkk hz1 hz2;go_enter Tryz.func55,Tryz.ntmps55;go_wp2;go_loopg [17] (n+1) (fun gk s wr=>∃ i:Nat,i≤n∧gk=n-i+1∧s= .int .i64 (i:Int)∧l.take i=m.take i∧Below w.heap.size w wr)
 case atStart=>exact⟨0,by omega,rfl,rfl,rfl,Below.refl _ _⟩
 case round=>
  obtain⟨i,hi,rfl,rfl,hE,hb⟩:=hrel;have HE:=hid hE;have HB:=hid hb;clear hE hb;by_cases hin:i<n
  case neg=>
   have hiN:i=n:=by omega
   subst hiN;have HR:=hid (decide_eq_true (eq_whole HL.out HM.out HE.out));go_wp2;go_ret;exact⟨by rw [HR.out];rfl,HB.out⟩
  have hi1:i<l.length:=by rw [HL.out];exact hin
  have hi2:i<m.length:=by rw [HM.out];exact hin
  obtain⟨x,hx⟩:∃ x,l[i]?=some x:=⟨_,List.getElem?_eq_getElem hi1⟩;obtain⟨y,hy⟩:∃ y,m[i]?=some y:=⟨_,List.getElem?_eq_getElem hi2⟩;have HY1:=hid (HZ1.out x (List.mem_of_getElem? hx));have HY2:=hid (HZ2.out y (List.mem_of_getElem? hy));obtain⟨g1,o1,pa,ca,rfl,⟨x0,x1,x2,x3,x4,x5,x6,x7,x8,x9,x10,x11⟩,hbx,_⟩:=(H1.out.next HB.out) i x hx;obtain⟨g2,o2,pb,cb,rfl,⟨y0,y1,y2,y3,y4,y5,y6,y7,y8,y9,y10,y11⟩,hby,_⟩:=(H2.out.next HB.out) i y hy;have hg1:=lt_of_cell x0;have hg2:=lt_of_cell y0;have HCl:=hid (fun (W:World) (hb:Below wr.heap.size wr W)=>psamepool_any x y pa pb x.backs.length ca y.backs.length cb rfl rfl HY1.out HY2.out W (hbx.next hb) (hby.next hb));have HBx:=hid (fun (A B:Obj)=>(two_new_v wr A B).1);by_cases hxy:x=y
  · have HN:=hid (show l.take (i+1)=m.take (i+1) from by rw [←hxy] at hy;exact eq_next HE.out hx hy);rw [decide_eq_true hxy] at HCl;clear hx hy hi1 hi2 hxy;go_wp2_with (go_at_call 56;(with_reducible refine(HCl.out _ (HBx.out _ _)).mono ?_);rintro e w1 ⟨rfl,hb⟩;have HB1:=hid (below_out HB.out (below_out (HBx.out _ _) hb));clear hb);go_roundg (n-(i+1)+1)
    case measure=>omega
    case rel=>exact⟨i+1,by omega,by omega,by go_num,HN.out,HB1.out⟩
  · have HR:=hid (decide_eq_false (eq_not hx hy hxy));rw [decide_eq_false hxy] at HCl;clear hx hy hi1 hi2 hxy;go_wp2_with (go_at_call 56;(with_reducible refine(HCl.out _ (HBx.out _ _)).mono ?_);rintro e w1 ⟨rfl,hb⟩;have HB1:=hid (below_out HB.out (below_out (HBx.out _ _) hb));clear hb);go_ret;exact⟨by rw [HR.out];rfl,HB1.out⟩
theorem peqroutes_any (l m:List RouteC) (p q:Option Addr) (n c k d:Nat) (hl:l.length=n) (hm:m.length=k) (hnn:n≤9223372036854775807) (hkk:k≤9223372036854775807) (hz1:∀ x∈l,RouteL x) (hz2:∀ x∈m,RouteL x) (w:World) (h1:RoAt w p l) (h2:RoAt w q m):Calls Tryz.prog 57 #[.slice p n c,.slice q k d,.func (.func 58) #[] #[]] w fun e w'=>e= .returned (.bool (decide (l=m)))∧Below w.heap.size w w':=by
 have HL:=hid hl;have HM:=hid hm;have H1:=hid h1;have H2:=hid h2;have HZ1:=hid hz1;have HZ2:=hid hz2;by_cases hnk:n=k
 case neg=>
  rw [decide_eq_false (eq_len hl hm hnk)];have hnk2:¬(n:Int)=(k:Int):=by omega
  clear hl hm h1 h2 H1 H2 HL HM hz1 hz2 HZ1 HZ2;go_enter Tryz.func57,Tryz.ntmps57;go_wp2;go_ret;exact⟨rfl,Below.refl _ _⟩
 subst hnk;clear hl hm h1 h2 hkk hz1 hz2;go_enter Tryz.func57,Tryz.ntmps57;go_wp2;go_loopg [17] (n+1) (fun gk s wr=>∃ i:Nat,i≤n∧gk=n-i+1∧s= .int .i64 (i:Int)∧l.take i=m.take i∧Below w.heap.size w wr)
 case atStart=>exact⟨0,by omega,rfl,rfl,rfl,Below.refl _ _⟩
 case round=>
  obtain⟨i,hi,rfl,rfl,hE,hb⟩:=hrel;have HE:=hid hE;have HB:=hid hb;clear hE hb;by_cases hin:i<n
  case neg=>
   have hiN:i=n:=by omega
   subst hiN;have HR:=hid (decide_eq_true (eq_whole HL.out HM.out HE.out));go_wp2;go_ret;exact⟨by rw [HR.out];rfl,HB.out⟩
  have hi1:i<l.length:=by rw [HL.out];exact hin
  have hi2:i<m.length:=by rw [HM.out];exact hin
  obtain⟨x,hx⟩:∃ x,l[i]?=some x:=⟨_,List.getElem?_eq_getElem hi1⟩;obtain⟨y,hy⟩:∃ y,m[i]?=some y:=⟨_,List.getElem?_eq_getElem hi2⟩;have HY1:=hid (HZ1.out x (List.mem_of_getElem? hx));have HY2:=hid (HZ2.out y (List.mem_of_getElem? hy));obtain⟨g1,o1,pa,ca,qa,da,rfl,⟨x0,x1,x2,x3,x4,x5,x6,x7,x8,x9,x10,x11,x12⟩,hbx,hsx,_⟩:=(H1.out.next HB.out) i x hx;obtain⟨g2,o2,pb,cb,qb,db,rfl,⟨y0,y1,y2,y3,y4,y5,y6,y7,y8,y9,y10,y11,y12⟩,hby,hsy,_⟩:=(H2.out.next HB.out) i y hy;have hg1:=lt_of_cell x0;have hg2:=lt_of_cell y0;have HCl:=hid (fun (W:World) (hb:Below wr.heap.size wr W)=>psameroute_any x y pa pb qa qb x.methods.length ca y.methods.length cb x.auth.scopes.length da y.auth.scopes.length db rfl rfl rfl rfl HY1.out.1 HY2.out.1 HY1.out.2 HY2.out.2 W (hbx.next hb) (hby.next hb) (hsx.next hb) (hsy.next hb));have HBx:=hid (fun (A B:Obj)=>(two_new_v wr A B).1);by_cases hxy:x=y
  · have HN:=hid (show l.take (i+1)=m.take (i+1) from by rw [←hxy] at hy;exact eq_next HE.out hx hy);rw [decide_eq_true hxy] at HCl;clear hx hy hi1 hi2 hxy;go_wp2_with (go_at_call 58;(with_reducible refine(HCl.out _ (HBx.out _ _)).mono ?_);rintro e w1 ⟨rfl,hb⟩;have HB1:=hid (below_out HB.out (below_out (HBx.out _ _) hb));clear hb);go_roundg (n-(i+1)+1)
    case measure=>omega
    case rel=>exact⟨i+1,by omega,by omega,by go_num,HN.out,HB1.out⟩
  · have HR:=hid (decide_eq_false (eq_not hx hy hxy));rw [decide_eq_false hxy] at HCl;clear hx hy hi1 hi2 hxy;go_wp2_with (go_at_call 58;(with_reducible refine(HCl.out _ (HBx.out _ _)).mono ?_);rintro e w1 ⟨rfl,hb⟩;have HB1:=hid (below_out HB.out (below_out (HBx.out _ _) hb));clear hb);go_ret;exact⟨by rw [HR.out];rfl,HB1.out⟩
structure CfgL (c:CfgC):Prop where
 nk:c.keys.length≤9223372036854775807
 np:c.pools.length≤9223372036854775807
 nr:c.routes.length≤9223372036854775807
 pools:∀ x∈c.pools,PoolL x
 routes:∀ x∈c.routes,RouteL x
theorem psame_any (a b:CfgC) (pka ppa pra pkb ppb prb:Option Addr) (nka cka npa cpa nra cra nkb ckb npb cpb nrb crb:Nat) (hka:a.keys.length=nka) (hkb:b.keys.length=nkb) (hpa:a.pools.length=npa) (hpb:b.pools.length=npb) (hra:a.routes.length=nra) (hrb:b.routes.length=nrb) (hza:CfgL a) (hzb:CfgL b) (w:World) (h1:CfgAt w a pka cka ppa cpa pra cra) (h2:CfgAt w b pkb ckb ppb cpb prb crb):Calls Tryz.prog 22 #[cfgV (.slice pka nka cka) (.slice ppa npa cpa) (.slice pra nra cra) a,cfgV (.slice pkb nkb ckb) (.slice ppb npb cpb) (.slice prb nrb crb) b] w fun e w'=>e= .returned (.bool (decide (a=b)))∧Below w.heap.size w w':=by
 have HC0:=hid (fun (W:World) (hb:Below w.heap.size w W)=>peqk_any a.keys b.keys pka pkb nka cka nkb ckb hka hkb (hka ▸ hza.nk) (hkb ▸ hzb.nk) W (h1.keys.next hb) (h2.keys.next hb));have HC1:=hid (fun (W:World) (hb:Below w.heap.size w W)=>peqpools_any a.pools b.pools ppa ppb npa cpa npb cpb hpa hpb (hpa ▸ hza.np) (hpb ▸ hzb.np) hza.pools hzb.pools W (h1.pools.next hb) (h2.pools.next hb));have HC2:=hid (fun (W:World) (hb:Below w.heap.size w W)=>peqroutes_any a.routes b.routes pra prb nra cra nrb crb hra hrb (hra ▸ hza.nr) (hrb ▸ hzb.nr) hza.routes hzb.routes W (h1.routes.next hb) (h2.routes.next hb));obtain⟨xk,xp,xr,x1,x2,x3,x4,x5⟩:=a;obtain⟨yk,yp,yr,y1,y2,y3,y4,y5⟩:=b;dsimp only [cfgV] at*;obtain⟨R,hR⟩:∃ R,decide ((⟨xk,xp,xr,x1,x2,x3,x4,x5⟩:CfgC)=(⟨yk,yp,yr,y1,y2,y3,y4,y5⟩:CfgC))=R:=⟨_,rfl⟩;rw [hR];obtain⟨c0,hc0⟩:∃ c,decide (xk=yk)=c:=⟨_,rfl⟩;rw [hc0] at HC0;obtain⟨c1,hc1⟩:∃ c,decide (xp=yp)=c:=⟨_,rfl⟩;rw [hc1] at HC1;obtain⟨c2,hc2⟩:∃ c,decide (xr=yr)=c:=⟨_,rfl⟩;rw [hc2] at HC2;have hA:=two_new_v w (.cells #[.slice pka nka cka,.slice ppa npa cpa,.slice pra nra cra,.int .i64 x1,.int .i64 x2,.int .i64 x3,.int .i64 x4,.int .i64 x5] 26 (0,0)) (.cells #[.slice pkb nkb ckb,.slice ppb npb cpb,.slice prb nrb crb,.int .i64 y1,.int .i64 y2,.int .i64 y3,.int .i64 y4,.int .i64 y5] 26 (0,0));have HB0:=hid hA.1;have HXa:=hid hA.2.1;have HXb:=hid hA.2.2;clear hA hka hkb hpa hpb hra hrb hza hzb h1 h2;cases c0 with
 |false=>
  have hne:=of_decide_eq_false hc0;have HR:=hid (show R=false from hR.symm.trans (decide_eq_false (fun e=>hne (congrArg CfgC.keys e))));clear hne hc0 hc1 hc2;clear hR;go_enter Tryz.func22,Tryz.ntmps22;go_wp2_with (first
   |(go_at_call 54;(with_reducible refine(HC0.out _ HB0.out).mono ?_);rintro e w1 ⟨rfl,hb⟩;have HB1:=hid (below_out HB0.out hb);have hxa:=kB hb HXa.out;have hxb:=kB hb HXb.out;have HXa1:=hid hxa;have HXb1:=hid hxb;(try clear u0 u1 u2 u3 u4 u5 u6 u7);(try clear v0 v1 v2 v3 v4 v5 v6 v7);obtain⟨u0,u1,u2,u3,u4,u5,u6,u7⟩:=cells8 hxa;obtain⟨v0,v1,v2,v3,v4,v5,v6,v7⟩:=cells8 hxb;clear hxa hxb hb HC0))
  go_ret;exact⟨by rw [HR.out];rfl,HB1.out⟩
 |true=>
 have he:=of_decide_eq_true hc0;subst he;clear hc0;cases c1 with
 |false=>
  have hne:=of_decide_eq_false hc1;have HR:=hid (show R=false from hR.symm.trans (decide_eq_false (fun e=>hne (congrArg CfgC.pools e))));clear hne hc1 hc2;clear hR;go_enter Tryz.func22,Tryz.ntmps22;go_wp2_with (first
   |(go_at_call 54;(with_reducible refine(HC0.out _ HB0.out).mono ?_);rintro e w1 ⟨rfl,hb⟩;have HB1:=hid (below_out HB0.out hb);have hxa:=kB hb HXa.out;have hxb:=kB hb HXb.out;have HXa1:=hid hxa;have HXb1:=hid hxb;(try clear u0 u1 u2 u3 u4 u5 u6 u7);(try clear v0 v1 v2 v3 v4 v5 v6 v7);obtain⟨u0,u1,u2,u3,u4,u5,u6,u7⟩:=cells8 hxa;obtain⟨v0,v1,v2,v3,v4,v5,v6,v7⟩:=cells8 hxb;clear hxa hxb hb HC0)
   |(go_at_call 55;(with_reducible refine(HC1.out _ HB1.out).mono ?_);rintro e w2 ⟨rfl,hb⟩;have HB2:=hid (below_out HB1.out hb);have hxa:=kB hb HXa1.out;have hxb:=kB hb HXb1.out;have HXa2:=hid hxa;have HXb2:=hid hxb;(try clear u0 u1 u2 u3 u4 u5 u6 u7);(try clear v0 v1 v2 v3 v4 v5 v6 v7);obtain⟨u0,u1,u2,u3,u4,u5,u6,u7⟩:=cells8 hxa;obtain⟨v0,v1,v2,v3,v4,v5,v6,v7⟩:=cells8 hxb;clear hxa hxb hb HC1))
  go_ret;exact⟨by rw [HR.out];rfl,HB2.out⟩
 |true=>
 have he:=of_decide_eq_true hc1;subst he;clear hc1;cases c2 with
 |false=>
  have hne:=of_decide_eq_false hc2;have HR:=hid (show R=false from hR.symm.trans (decide_eq_false (fun e=>hne (congrArg CfgC.routes e))));clear hne hc2;clear hR;go_enter Tryz.func22,Tryz.ntmps22;go_wp2_with (first
   |(go_at_call 54;(with_reducible refine(HC0.out _ HB0.out).mono ?_);rintro e w1 ⟨rfl,hb⟩;have HB1:=hid (below_out HB0.out hb);have hxa:=kB hb HXa.out;have hxb:=kB hb HXb.out;have HXa1:=hid hxa;have HXb1:=hid hxb;(try clear u0 u1 u2 u3 u4 u5 u6 u7);(try clear v0 v1 v2 v3 v4 v5 v6 v7);obtain⟨u0,u1,u2,u3,u4,u5,u6,u7⟩:=cells8 hxa;obtain⟨v0,v1,v2,v3,v4,v5,v6,v7⟩:=cells8 hxb;clear hxa hxb hb HC0)
   |(go_at_call 55;(with_reducible refine(HC1.out _ HB1.out).mono ?_);rintro e w2 ⟨rfl,hb⟩;have HB2:=hid (below_out HB1.out hb);have hxa:=kB hb HXa1.out;have hxb:=kB hb HXb1.out;have HXa2:=hid hxa;have HXb2:=hid hxb;(try clear u0 u1 u2 u3 u4 u5 u6 u7);(try clear v0 v1 v2 v3 v4 v5 v6 v7);obtain⟨u0,u1,u2,u3,u4,u5,u6,u7⟩:=cells8 hxa;obtain⟨v0,v1,v2,v3,v4,v5,v6,v7⟩:=cells8 hxb;clear hxa hxb hb HC1)
   |(go_at_call 57;(with_reducible refine(HC2.out _ HB2.out).mono ?_);rintro e w3 ⟨rfl,hb⟩;have HB3:=hid (below_out HB2.out hb);have hxa:=kB hb HXa2.out;have hxb:=kB hb HXb2.out;have HXa3:=hid hxa;have HXb3:=hid hxb;(try clear u0 u1 u2 u3 u4 u5 u6 u7);(try clear v0 v1 v2 v3 v4 v5 v6 v7);obtain⟨u0,u1,u2,u3,u4,u5,u6,u7⟩:=cells8 hxa;obtain⟨v0,v1,v2,v3,v4,v5,v6,v7⟩:=cells8 hxb;clear hxa hxb hb HC2))
  go_ret;exact⟨by rw [HR.out];rfl,HB3.out⟩
 |true=>
 have he:=of_decide_eq_true hc2;subst he;clear hc2;by_cases hx1:x1=y1
 case neg=>
  have HR:=hid (show R=false from hR.symm.trans (decide_eq_false (fun e=>hx1 (congrArg CfgC.maxhead e))));have hd:(x1== y1)=false:=by simpa using hx1
  clear hR;go_enter Tryz.func22,Tryz.ntmps22;go_wp2_with (first
   |(go_at_call 54;(with_reducible refine(HC0.out _ HB0.out).mono ?_);rintro e w1 ⟨rfl,hb⟩;have HB1:=hid (below_out HB0.out hb);have hxa:=kB hb HXa.out;have hxb:=kB hb HXb.out;have HXa1:=hid hxa;have HXb1:=hid hxb;(try clear u0 u1 u2 u3 u4 u5 u6 u7);(try clear v0 v1 v2 v3 v4 v5 v6 v7);obtain⟨u0,u1,u2,u3,u4,u5,u6,u7⟩:=cells8 hxa;obtain⟨v0,v1,v2,v3,v4,v5,v6,v7⟩:=cells8 hxb;clear hxa hxb hb HC0)
   |(go_at_call 55;(with_reducible refine(HC1.out _ HB1.out).mono ?_);rintro e w2 ⟨rfl,hb⟩;have HB2:=hid (below_out HB1.out hb);have hxa:=kB hb HXa1.out;have hxb:=kB hb HXb1.out;have HXa2:=hid hxa;have HXb2:=hid hxb;(try clear u0 u1 u2 u3 u4 u5 u6 u7);(try clear v0 v1 v2 v3 v4 v5 v6 v7);obtain⟨u0,u1,u2,u3,u4,u5,u6,u7⟩:=cells8 hxa;obtain⟨v0,v1,v2,v3,v4,v5,v6,v7⟩:=cells8 hxb;clear hxa hxb hb HC1)
   |(go_at_call 57;(with_reducible refine(HC2.out _ HB2.out).mono ?_);rintro e w3 ⟨rfl,hb⟩;have HB3:=hid (below_out HB2.out hb);have hxa:=kB hb HXa2.out;have hxb:=kB hb HXb2.out;have HXa3:=hid hxa;have HXb3:=hid hxb;(try clear u0 u1 u2 u3 u4 u5 u6 u7);(try clear v0 v1 v2 v3 v4 v5 v6 v7);obtain⟨u0,u1,u2,u3,u4,u5,u6,u7⟩:=cells8 hxa;obtain⟨v0,v1,v2,v3,v4,v5,v6,v7⟩:=cells8 hxb;clear hxa hxb hb HC2))
  go_ret;exact⟨by rw [HR.out];rfl,HB3.out⟩
 subst hx1;by_cases hx2:x2=y2
 case neg=>
  have HR:=hid (show R=false from hR.symm.trans (decide_eq_false (fun e=>hx2 (congrArg CfgC.maxbody e))));have hd:(x2== y2)=false:=by simpa using hx2
  clear hR;go_enter Tryz.func22,Tryz.ntmps22;go_wp2_with (first
   |(go_at_call 54;(with_reducible refine(HC0.out _ HB0.out).mono ?_);rintro e w1 ⟨rfl,hb⟩;have HB1:=hid (below_out HB0.out hb);have hxa:=kB hb HXa.out;have hxb:=kB hb HXb.out;have HXa1:=hid hxa;have HXb1:=hid hxb;(try clear u0 u1 u2 u3 u4 u5 u6 u7);(try clear v0 v1 v2 v3 v4 v5 v6 v7);obtain⟨u0,u1,u2,u3,u4,u5,u6,u7⟩:=cells8 hxa;obtain⟨v0,v1,v2,v3,v4,v5,v6,v7⟩:=cells8 hxb;clear hxa hxb hb HC0)
   |(go_at_call 55;(with_reducible refine(HC1.out _ HB1.out).mono ?_);rintro e w2 ⟨rfl,hb⟩;have HB2:=hid (below_out HB1.out hb);have hxa:=kB hb HXa1.out;have hxb:=kB hb HXb1.out;have HXa2:=hid hxa;have HXb2:=hid hxb;(try clear u0 u1 u2 u3 u4 u5 u6 u7);(try clear v0 v1 v2 v3 v4 v5 v6 v7);obtain⟨u0,u1,u2,u3,u4,u5,u6,u7⟩:=cells8 hxa;obtain⟨v0,v1,v2,v3,v4,v5,v6,v7⟩:=cells8 hxb;clear hxa hxb hb HC1)
   |(go_at_call 57;(with_reducible refine(HC2.out _ HB2.out).mono ?_);rintro e w3 ⟨rfl,hb⟩;have HB3:=hid (below_out HB2.out hb);have hxa:=kB hb HXa2.out;have hxb:=kB hb HXb2.out;have HXa3:=hid hxa;have HXb3:=hid hxb;(try clear u0 u1 u2 u3 u4 u5 u6 u7);(try clear v0 v1 v2 v3 v4 v5 v6 v7);obtain⟨u0,u1,u2,u3,u4,u5,u6,u7⟩:=cells8 hxa;obtain⟨v0,v1,v2,v3,v4,v5,v6,v7⟩:=cells8 hxb;clear hxa hxb hb HC2))
  go_ret;exact⟨by rw [HR.out];rfl,HB3.out⟩
 subst hx2;by_cases hx3:x3=y3
 case neg=>
  have HR:=hid (show R=false from hR.symm.trans (decide_eq_false (fun e=>hx3 (congrArg CfgC.maxconns e))));have hd:(x3== y3)=false:=by simpa using hx3
  clear hR;go_enter Tryz.func22,Tryz.ntmps22;go_wp2_with (first
   |(go_at_call 54;(with_reducible refine(HC0.out _ HB0.out).mono ?_);rintro e w1 ⟨rfl,hb⟩;have HB1:=hid (below_out HB0.out hb);have hxa:=kB hb HXa.out;have hxb:=kB hb HXb.out;have HXa1:=hid hxa;have HXb1:=hid hxb;(try clear u0 u1 u2 u3 u4 u5 u6 u7);(try clear v0 v1 v2 v3 v4 v5 v6 v7);obtain⟨u0,u1,u2,u3,u4,u5,u6,u7⟩:=cells8 hxa;obtain⟨v0,v1,v2,v3,v4,v5,v6,v7⟩:=cells8 hxb;clear hxa hxb hb HC0)
   |(go_at_call 55;(with_reducible refine(HC1.out _ HB1.out).mono ?_);rintro e w2 ⟨rfl,hb⟩;have HB2:=hid (below_out HB1.out hb);have hxa:=kB hb HXa1.out;have hxb:=kB hb HXb1.out;have HXa2:=hid hxa;have HXb2:=hid hxb;(try clear u0 u1 u2 u3 u4 u5 u6 u7);(try clear v0 v1 v2 v3 v4 v5 v6 v7);obtain⟨u0,u1,u2,u3,u4,u5,u6,u7⟩:=cells8 hxa;obtain⟨v0,v1,v2,v3,v4,v5,v6,v7⟩:=cells8 hxb;clear hxa hxb hb HC1)
   |(go_at_call 57;(with_reducible refine(HC2.out _ HB2.out).mono ?_);rintro e w3 ⟨rfl,hb⟩;have HB3:=hid (below_out HB2.out hb);have hxa:=kB hb HXa2.out;have hxb:=kB hb HXb2.out;have HXa3:=hid hxa;have HXb3:=hid hxb;(try clear u0 u1 u2 u3 u4 u5 u6 u7);(try clear v0 v1 v2 v3 v4 v5 v6 v7);obtain⟨u0,u1,u2,u3,u4,u5,u6,u7⟩:=cells8 hxa;obtain⟨v0,v1,v2,v3,v4,v5,v6,v7⟩:=cells8 hxb;clear hxa hxb hb HC2))
  go_ret;exact⟨by rw [HR.out];rfl,HB3.out⟩
 subst hx3;by_cases hx4:x4=y4
 case neg=>
  have HR:=hid (show R=false from hR.symm.trans (decide_eq_false (fun e=>hx4 (congrArg CfgC.idle e))));have hd:(x4== y4)=false:=by simpa using hx4
  clear hR;go_enter Tryz.func22,Tryz.ntmps22;go_wp2_with (first
   |(go_at_call 54;(with_reducible refine(HC0.out _ HB0.out).mono ?_);rintro e w1 ⟨rfl,hb⟩;have HB1:=hid (below_out HB0.out hb);have hxa:=kB hb HXa.out;have hxb:=kB hb HXb.out;have HXa1:=hid hxa;have HXb1:=hid hxb;(try clear u0 u1 u2 u3 u4 u5 u6 u7);(try clear v0 v1 v2 v3 v4 v5 v6 v7);obtain⟨u0,u1,u2,u3,u4,u5,u6,u7⟩:=cells8 hxa;obtain⟨v0,v1,v2,v3,v4,v5,v6,v7⟩:=cells8 hxb;clear hxa hxb hb HC0)
   |(go_at_call 55;(with_reducible refine(HC1.out _ HB1.out).mono ?_);rintro e w2 ⟨rfl,hb⟩;have HB2:=hid (below_out HB1.out hb);have hxa:=kB hb HXa1.out;have hxb:=kB hb HXb1.out;have HXa2:=hid hxa;have HXb2:=hid hxb;(try clear u0 u1 u2 u3 u4 u5 u6 u7);(try clear v0 v1 v2 v3 v4 v5 v6 v7);obtain⟨u0,u1,u2,u3,u4,u5,u6,u7⟩:=cells8 hxa;obtain⟨v0,v1,v2,v3,v4,v5,v6,v7⟩:=cells8 hxb;clear hxa hxb hb HC1)
   |(go_at_call 57;(with_reducible refine(HC2.out _ HB2.out).mono ?_);rintro e w3 ⟨rfl,hb⟩;have HB3:=hid (below_out HB2.out hb);have hxa:=kB hb HXa2.out;have hxb:=kB hb HXb2.out;have HXa3:=hid hxa;have HXb3:=hid hxb;(try clear u0 u1 u2 u3 u4 u5 u6 u7);(try clear v0 v1 v2 v3 v4 v5 v6 v7);obtain⟨u0,u1,u2,u3,u4,u5,u6,u7⟩:=cells8 hxa;obtain⟨v0,v1,v2,v3,v4,v5,v6,v7⟩:=cells8 hxb;clear hxa hxb hb HC2))
  go_ret;exact⟨by rw [HR.out];rfl,HB3.out⟩
 subst hx4;by_cases hx5:x5=y5
 case neg=>
  have HR:=hid (show R=false from hR.symm.trans (decide_eq_false (fun e=>hx5 (congrArg CfgC.header e))));have hd:(x5== y5)=false:=by simpa using hx5
  clear hR;go_enter Tryz.func22,Tryz.ntmps22;go_wp2_with (first
   |(go_at_call 54;(with_reducible refine(HC0.out _ HB0.out).mono ?_);rintro e w1 ⟨rfl,hb⟩;have HB1:=hid (below_out HB0.out hb);have hxa:=kB hb HXa.out;have hxb:=kB hb HXb.out;have HXa1:=hid hxa;have HXb1:=hid hxb;(try clear u0 u1 u2 u3 u4 u5 u6 u7);(try clear v0 v1 v2 v3 v4 v5 v6 v7);obtain⟨u0,u1,u2,u3,u4,u5,u6,u7⟩:=cells8 hxa;obtain⟨v0,v1,v2,v3,v4,v5,v6,v7⟩:=cells8 hxb;clear hxa hxb hb HC0)
   |(go_at_call 55;(with_reducible refine(HC1.out _ HB1.out).mono ?_);rintro e w2 ⟨rfl,hb⟩;have HB2:=hid (below_out HB1.out hb);have hxa:=kB hb HXa1.out;have hxb:=kB hb HXb1.out;have HXa2:=hid hxa;have HXb2:=hid hxb;(try clear u0 u1 u2 u3 u4 u5 u6 u7);(try clear v0 v1 v2 v3 v4 v5 v6 v7);obtain⟨u0,u1,u2,u3,u4,u5,u6,u7⟩:=cells8 hxa;obtain⟨v0,v1,v2,v3,v4,v5,v6,v7⟩:=cells8 hxb;clear hxa hxb hb HC1)
   |(go_at_call 57;(with_reducible refine(HC2.out _ HB2.out).mono ?_);rintro e w3 ⟨rfl,hb⟩;have HB3:=hid (below_out HB2.out hb);have hxa:=kB hb HXa2.out;have hxb:=kB hb HXb2.out;have HXa3:=hid hxa;have HXb3:=hid hxb;(try clear u0 u1 u2 u3 u4 u5 u6 u7);(try clear v0 v1 v2 v3 v4 v5 v6 v7);obtain⟨u0,u1,u2,u3,u4,u5,u6,u7⟩:=cells8 hxa;obtain⟨v0,v1,v2,v3,v4,v5,v6,v7⟩:=cells8 hxb;clear hxa hxb hb HC2))
  go_ret;exact⟨by rw [HR.out];rfl,HB3.out⟩
 subst hx5;have HR:=hid (show R=true from hR.symm.trans (decide_eq_true rfl));clear hR;go_enter Tryz.func22,Tryz.ntmps22;go_wp2_with (first
  |(go_at_call 54;(with_reducible refine(HC0.out _ HB0.out).mono ?_);rintro e w1 ⟨rfl,hb⟩;have HB1:=hid (below_out HB0.out hb);have hxa:=kB hb HXa.out;have hxb:=kB hb HXb.out;have HXa1:=hid hxa;have HXb1:=hid hxb;(try clear u0 u1 u2 u3 u4 u5 u6 u7);(try clear v0 v1 v2 v3 v4 v5 v6 v7);obtain⟨u0,u1,u2,u3,u4,u5,u6,u7⟩:=cells8 hxa;obtain⟨v0,v1,v2,v3,v4,v5,v6,v7⟩:=cells8 hxb;clear hxa hxb hb HC0)
  |(go_at_call 55;(with_reducible refine(HC1.out _ HB1.out).mono ?_);rintro e w2 ⟨rfl,hb⟩;have HB2:=hid (below_out HB1.out hb);have hxa:=kB hb HXa1.out;have hxb:=kB hb HXb1.out;have HXa2:=hid hxa;have HXb2:=hid hxb;(try clear u0 u1 u2 u3 u4 u5 u6 u7);(try clear v0 v1 v2 v3 v4 v5 v6 v7);obtain⟨u0,u1,u2,u3,u4,u5,u6,u7⟩:=cells8 hxa;obtain⟨v0,v1,v2,v3,v4,v5,v6,v7⟩:=cells8 hxb;clear hxa hxb hb HC1)
  |(go_at_call 57;(with_reducible refine(HC2.out _ HB2.out).mono ?_);rintro e w3 ⟨rfl,hb⟩;have HB3:=hid (below_out HB2.out hb);have hxa:=kB hb HXa2.out;have hxb:=kB hb HXb2.out;have HXa3:=hid hxa;have HXb3:=hid hxb;(try clear u0 u1 u2 u3 u4 u5 u6 u7);(try clear v0 v1 v2 v3 v4 v5 v6 v7);obtain⟨u0,u1,u2,u3,u4,u5,u6,u7⟩:=cells8 hxa;obtain⟨v0,v1,v2,v3,v4,v5,v6,v7⟩:=cells8 hxb;clear hxa hxb hb HC2))
 go_ret;exact⟨by rw [HR.out];rfl,HB3.out⟩
end Go.Proofs.YtlmefgjhbohjlaaGreatDoor
