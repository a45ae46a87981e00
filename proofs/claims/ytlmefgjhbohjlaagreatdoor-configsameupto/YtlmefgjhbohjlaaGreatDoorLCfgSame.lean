/- The document: whether two configurations are the same. -/
import Derived.Test.YtlmefgjhbohjlaaGreatDoorWDRoute
namespace Go.Proofs.YtlmefgjhbohjlaaGreatDoor
set_option maxRecDepth 20000
set_option maxHeartbeats 64000000
open Go.RowKit
theorem rsame_any_v (a b:CfgC) (pka ppa pra pkb ppb prb:Option Addr) (nka cka npa cpa nra cra nkb ckb npb cpb nrb crb:Nat) (hka:a.keys.length=nka) (hkb:b.keys.length=nkb) (hpa:a.pools.length=npa) (hpb:b.pools.length=npb) (hra:a.routes.length=nra) (hrb:b.routes.length=nrb) (hza:CfgL a) (hzb:CfgL b) (w:World) (h1:CfgAt w a pka cka ppa cpa pra cra) (h2:CfgAt w b pkb ckb ppb cpb prb crb):Calls Tryz.prog 10 #[cfgV (.slice pka nka cka) (.slice ppa npa cpa) (.slice pra nra cra) a,cfgV (.slice pkb nkb ckb) (.slice ppb npb cpb) (.slice prb nrb crb) b] w fun e w'=>e= .returned (.bool (decide (a=b)))∧Below w.heap.size w w':=by
 have HK1:=hid h1.keys;have HK2:=hid h2.keys;have HP1:=hid h1.pools;have HP2:=hid h2.pools;have HR1:=hid h1.routes;have HR2:=hid h2.routes;have HZA:=hid hza;have HZB:=hid hzb;obtain⟨xk,xp,xr,x1,x2,x3,x4,x5⟩:=a;obtain⟨yk,yp,yr,y1,y2,y3,y4,y5⟩:=b;dsimp only [cfgV] at*;obtain⟨R,hR⟩:∃ R,decide ((⟨xk,xp,xr,x1,x2,x3,x4,x5⟩:CfgC)=⟨yk,yp,yr,y1,y2,y3,y4,y5⟩)=R:=⟨_,rfl⟩;rw [hR];have HR:=hid hR;have hA:=two_new_v w (.cells #[.slice pka nka cka,.slice ppa npa cpa,.slice pra nra cra,.int .i64 x1,.int .i64 x2,.int .i64 x3,.int .i64 x4,.int .i64 x5] 26 (0,0)) (.cells #[.slice pkb nkb ckb,.slice ppb npb cpb,.slice prb nrb crb,.int .i64 y1,.int .i64 y2,.int .i64 y3,.int .i64 y4,.int .i64 y5] 26 (0,0));have HB0:=hid hA.1;have HXa:=hid hA.2.1;have HXb:=hid hA.2.2;clear hA;have HLk:=hid hka;have HMk:=hid hkb;have HLp:=hid hpa;have HMp:=hid hpb;have HLr:=hid hra;have HMr:=hid hrb;have HNk:=hid hza.nk;have HNp:=hid hza.np;have HNr:=hid hza.nr;rw [hka] at HNk;rw [hpa] at HNp;rw [hra] at HNr;clear h1 h2 hka hkb hpa hpb hra hrb hza hzb hR;by_cases hk:nka=nkb
 case neg=>
  have HRv:=hid (show R=false from HR.out.symm.trans (decide_eq_false (fun e=>hk (by rw [←HLk.out,←HMk.out];exact congrArg (fun v:CfgC=>v.keys.length) e))));have hd:¬(nka:Int)=(nkb:Int):=by omega
  go_enter Tryz.func10,Tryz.ntmps10;go_wp2;go_ret;exact⟨by rw [HRv.out];rfl,HB0.out⟩
 subst hk;by_cases hp:npa=npb
 case neg=>
  have HRv:=hid (show R=false from HR.out.symm.trans (decide_eq_false (fun e=>hp (by rw [←HLp.out,←HMp.out];exact congrArg (fun v:CfgC=>v.pools.length) e))));have hd:¬(npa:Int)=(npb:Int):=by omega
  go_enter Tryz.func10,Tryz.ntmps10;go_wp2;go_ret;exact⟨by rw [HRv.out];rfl,HB0.out⟩
 subst hp;by_cases hr:nra=nrb
 case neg=>
  have HRv:=hid (show R=false from HR.out.symm.trans (decide_eq_false (fun e=>hr (by rw [←HLr.out,←HMr.out];exact congrArg (fun v:CfgC=>v.routes.length) e))));have hd:¬(nra:Int)=(nrb:Int):=by omega
  go_enter Tryz.func10,Tryz.ntmps10;go_wp2;go_ret;exact⟨by rw [HRv.out];rfl,HB0.out⟩
 subst hr;go_enter Tryz.func10,Tryz.ntmps10;go_wp2;have hnk:=HNk.out;go_loopg [5] (nka+1) (fun gk s wr=>∃ i:Nat,i≤nka∧gk=nka-i+1∧s= .int .i64 (i:Int)∧xk.take i=yk.take i∧Below w.heap.size w wr∧wr.heap[w.heap.size]?=some (.cells #[.slice pka nka cka,.slice ppa npa cpa,.slice pra nra cra,.int .i64 x1,.int .i64 x2,.int .i64 x3,.int .i64 x4,.int .i64 x5] 26 (0,0))∧wr.heap[w.heap.size+1]?=some (.cells #[.slice pkb nka ckb,.slice ppb npa cpb,.slice prb nra crb,.int .i64 y1,.int .i64 y2,.int .i64 y3,.int .i64 y4,.int .i64 y5] 26 (0,0)))
 case atStart=>exact⟨0,by omega,rfl,rfl,rfl,HB0.out,HXa.out,HXb.out⟩
 case round=>
  clear HB0 HXa HXb;obtain⟨i,hi,rfl,rfl,hE,hb,hxa,hxb⟩:=hrel;have HE:=hid hE;have HB:=hid hb;have HXa:=hid hxa;have HXb:=hid hxb;obtain⟨u0,u1,u2,u3,u4,u5,u6,u7⟩:=cells8 hxa;obtain⟨v0,v1,v2,v3,v4,v5,v6,v7⟩:=cells8 hxb;clear hE hb hxa hxb;by_cases hin:i<nka
  case pos=>
   have hi1:i<xk.length:=by rw [HLk.out];exact hin
   have hi2:i<yk.length:=by rw [HMk.out];exact hin
   obtain⟨x,hx⟩:∃ x,xk[i]?=some x:=⟨_,List.getElem?_eq_getElem hi1⟩;obtain⟨y,hy⟩:∃ y,yk[i]?=some y:=⟨_,List.getElem?_eq_getElem hi2⟩;obtain⟨g1,o1,rfl,j0,j1⟩:=(HK1.out.next HB.out) i x hx;obtain⟨g2,o2,rfl,l0,l1⟩:=(HK2.out.next HB.out) i y hy;by_cases hxy:x=y
   · subst hxy;have HN:=hid (eq_next HE.out hx hy);clear hx hy hi1 hi2;go_wp2;go_quiet (fail);have HB2:=hid (below_drew HB.out nq);go_wp2;go_roundg (nka-(i+1)+1)
     case measure=>omega
     case rel=>exact⟨i+1,by omega,by omega,by go_num,HN.out,HB2.out,HXa.out,HXb.out⟩
   · have HRv:=hid (show R=false from HR.out.symm.trans (decide_eq_false (fun e=>eq_not hx hy hxy (congrArg CfgC.keys e))));clear hx hy hi1 hi2;obtain⟨za,zb⟩:=x;obtain⟨ta,tb⟩:=y;dsimp only at*;by_cases ha:za=ta
     · subst ha;have hb:¬zb=tb:=fun e=>hxy (by rw [e])
       have hd:=str_ne_list hb;obtain⟨SA,hSA⟩:∃ S,str za=S:=⟨_,rfl⟩;rw [hSA] at j0 l0;obtain⟨SB,hSB⟩:∃ S,str zb=S:=⟨_,rfl⟩;obtain⟨SD,hSD⟩:∃ S,str tb=S:=⟨_,rfl⟩;rw [hSB] at j1 hd;rw [hSD] at l1 hd;clear hSB hSD;clear hSA hxy hb;go_wp2;go_quiet (fail);have HB2:=hid (below_drew HB.out nq);go_wp2;go_ret;exact⟨by rw [HRv.out];rfl,HB2.out⟩
     · have hd:=str_ne_list ha;obtain⟨SA,hSA⟩:∃ S,str za=S:=⟨_,rfl⟩;obtain⟨SC,hSC⟩:∃ S,str ta=S:=⟨_,rfl⟩;rw [hSA] at j0 hd;rw [hSC] at l0 hd;obtain⟨SB,hSB⟩:∃ S,str zb=S:=⟨_,rfl⟩;obtain⟨SD,hSD⟩:∃ S,str tb=S:=⟨_,rfl⟩;rw [hSB] at j1;rw [hSD] at l1;clear hSB hSD;clear hxy ha hSA hSC;go_wp2;go_quiet (fail);have HB2:=hid (below_drew HB.out nq);go_wp2;go_ret;exact⟨by rw [HRv.out];rfl,HB2.out⟩
  have hiN:nka=i:=by omega
  subst hiN;have HEk:=hid (eq_whole HLk.out HMk.out HE.out);have HB1:=hid HB.out;have HX1:=hid HXa.out;have HX2:=hid HXb.out;clear HE HB HXa HXb;obtain⟨W1,hW1⟩:∃ W,W=wr:=⟨_,rfl⟩;subst hW1;go_wp2;clear u0 u1 u2 u3 u4 u5 u6 u7 v0 v1 v2 v3 v4 v5 v6 v7;have hnpp:=HNp.out;go_loopg [6] (npa+1) (fun gk s wr=>∃ i:Nat,i≤npa∧gk=npa-i+1∧s= .int .i64 (i:Int)∧xp.take i=yp.take i∧Below w.heap.size w wr∧wr.heap[w.heap.size]?=some (.cells #[.slice pka nka cka,.slice ppa npa cpa,.slice pra nra cra,.int .i64 x1,.int .i64 x2,.int .i64 x3,.int .i64 x4,.int .i64 x5] 26 (0,0))∧wr.heap[w.heap.size+1]?=some (.cells #[.slice pkb nka ckb,.slice ppb npa cpb,.slice prb nra crb,.int .i64 y1,.int .i64 y2,.int .i64 y3,.int .i64 y4,.int .i64 y5] 26 (0,0)))
  case atStart=>exact⟨0,by omega,rfl,rfl,rfl,HB1.out,HX1.out,HX2.out⟩
  case round=>
   clear HB1 HX1 HX2;obtain⟨j,hj,rfl,rfl,hE,hb,hxa,hxb⟩:=hrel;have HE:=hid hE;have HB:=hid hb;have HXa:=hid hxa;have HXb:=hid hxb;obtain⟨u0,u1,u2,u3,u4,u5,u6,u7⟩:=cells8 hxa;obtain⟨v0,v1,v2,v3,v4,v5,v6,v7⟩:=cells8 hxb;clear hE hb hxa hxb;by_cases hjn:j<npa
   case pos=>
    obtain⟨x,hx⟩:∃ x,xp[j]?=some x:=⟨_,List.getElem?_eq_getElem (by rw [HLp.out];exact hjn)⟩;obtain⟨y,hy⟩:∃ y,yp[j]?=some y:=⟨_,List.getElem?_eq_getElem (by rw [HMp.out];exact hjn)⟩;have HY1:=hid (HZA.out.pools x (List.mem_of_getElem? hx));have HY2:=hid (HZB.out.pools y (List.mem_of_getElem? hy));obtain⟨g1,o1,pa,ca,rfl,⟨a0,a1,a2,a3,a4,a5,a6,a7,a8,a9,a10,a11⟩,hbx,_⟩:=(HP1.out.next HB.out) j x hx;obtain⟨g2,o2,pb,cb,rfl,⟨b0,b1,b2,b3,b4,b5,b6,b7,b8,b9,b10,b11⟩,hby,_⟩:=(HP2.out.next HB.out) j y hy;have HCl:=hid (fun (W:World) (hb:Below wr.heap.size wr W)=>rsamepool_any x y pa pb x.backs.length ca y.backs.length cb rfl rfl HY1.out HY2.out W (hbx.next hb) (hby.next hb));obtain⟨c,hc⟩:∃ c,decide (x=y)=c:=⟨_,rfl⟩;rw [hc] at HCl;have HCc:=hid hc;have HXx:=hid hx;have HYy:=hid hy;clear hc hx hy hbx hby;cases c with
    |true=>
     have hxy:=of_decide_eq_true HCc.out;have HN2:=hid (show xp.take (j+1)=yp.take (j+1) from by have h9:=HYy.out;rw [←hxy] at h9;exact eq_next HE.out HXx.out h9);clear hxy HXx HYy HE HCc;go_wp2;go_region_with (go_at_call 34;(with_reducible refine(HCl.out _ (by first|exact(Below.refl _ _).drew|exact Below.refl _ _|exact below_drew (Below.refl _ _) _)).mono ?_);rintro e w1 ⟨rfl,hb⟩;have hbw:=below_out (by first|exact(Below.refl _ _).drew|exact Below.refl _ _|exact below_drew (Below.refl _ _) _) hb;have HB2:=hid (below_out HB.out hbw);have HY1x:=hid (kB hbw HXa.out);have HY2x:=hid (kB hbw HXb.out);clear hb hbw);all_goals
      go_wp2;go_roundg (npa-(j+1)+1)
      case measure=>omega
      case rel=>exact⟨j+1,by omega,by omega,by go_num,HN2.out,HB2.out,HY1x.out,HY2x.out⟩
    |false=>
     have HRv:=hid (show R=false from HR.out.symm.trans (decide_eq_false (fun e=>eq_not HXx.out HYy.out (of_decide_eq_false HCc.out) (congrArg CfgC.pools e))));clear HXx HYy HE HCc;go_wp2;go_region_with (go_at_call 34;(with_reducible refine(HCl.out _ (by first|exact(Below.refl _ _).drew|exact Below.refl _ _|exact below_drew (Below.refl _ _) _)).mono ?_);rintro e w1 ⟨rfl,hb⟩;have hbw:=below_out (by first|exact(Below.refl _ _).drew|exact Below.refl _ _|exact below_drew (Below.refl _ _) _) hb;have HB2:=hid (below_out HB.out hbw);have HY1x:=hid (kB hbw HXa.out);have HY2x:=hid (kB hbw HXb.out);clear hb hbw);all_goals
      go_wp2;go_ret;exact⟨by rw [HRv.out];rfl,HB2.out⟩
   have hiN:npa=j:=by omega
   subst hiN;have HEp:=hid (eq_whole HLp.out HMp.out HE.out);have HB3:=hid HB.out;have HX3:=hid HXa.out;have HX4:=hid HXb.out;clear HE HB HXa HXb;obtain⟨W2,hW2⟩:∃ W,W=wr:=⟨_,rfl⟩;subst hW2;go_wp2;clear u0 u1 u2 u3 u4 u5 u6 u7 v0 v1 v2 v3 v4 v5 v6 v7;have hnpr:=HNr.out;go_loopg [7] (nra+1) (fun gk s wr=>∃ i:Nat,i≤nra∧gk=nra-i+1∧s= .int .i64 (i:Int)∧xr.take i=yr.take i∧Below w.heap.size w wr∧wr.heap[w.heap.size]?=some (.cells #[.slice pka nka cka,.slice ppa npa cpa,.slice pra nra cra,.int .i64 x1,.int .i64 x2,.int .i64 x3,.int .i64 x4,.int .i64 x5] 26 (0,0))∧wr.heap[w.heap.size+1]?=some (.cells #[.slice pkb nka ckb,.slice ppb npa cpb,.slice prb nra crb,.int .i64 y1,.int .i64 y2,.int .i64 y3,.int .i64 y4,.int .i64 y5] 26 (0,0)))
   case atStart=>exact⟨0,by omega,rfl,rfl,rfl,HB3.out,HX3.out,HX4.out⟩
   case round=>
    clear HB3 HX3 HX4;obtain⟨k,hj,rfl,rfl,hE,hb,hxa,hxb⟩:=hrel;have HE:=hid hE;have HB:=hid hb;have HXa:=hid hxa;have HXb:=hid hxb;obtain⟨u0,u1,u2,u3,u4,u5,u6,u7⟩:=cells8 hxa;obtain⟨v0,v1,v2,v3,v4,v5,v6,v7⟩:=cells8 hxb;clear hE hb hxa hxb;by_cases hjn:k<nra
    case pos=>
     obtain⟨x,hx⟩:∃ x,xr[k]?=some x:=⟨_,List.getElem?_eq_getElem (by rw [HLr.out];exact hjn)⟩;obtain⟨y,hy⟩:∃ y,yr[k]?=some y:=⟨_,List.getElem?_eq_getElem (by rw [HMr.out];exact hjn)⟩;have HY1:=hid (HZA.out.routes x (List.mem_of_getElem? hx));have HY2:=hid (HZB.out.routes y (List.mem_of_getElem? hy));obtain⟨g1,o1,pa,ca,qa,da,rfl,⟨a0,a1,a2,a3,a4,a5,a6,a7,a8,a9,a10,a11,a12⟩,hbx,hsx,_⟩:=(HR1.out.next HB.out) k x hx;obtain⟨g2,o2,pb,cb,qb,db,rfl,⟨b0,b1,b2,b3,b4,b5,b6,b7,b8,b9,b10,b11,b12⟩,hby,hsy,_⟩:=(HR2.out.next HB.out) k y hy;have HCl:=hid (fun (W:World) (hb:Below wr.heap.size wr W)=>rsameroute_any x y pa pb qa qb x.methods.length ca y.methods.length cb x.auth.scopes.length da y.auth.scopes.length db rfl rfl rfl rfl HY1.out.1 HY2.out.1 HY1.out.2 HY2.out.2 W (hbx.next hb) (hby.next hb) (hsx.next hb) (hsy.next hb));obtain⟨c,hc⟩:∃ c,decide (x=y)=c:=⟨_,rfl⟩;rw [hc] at HCl;have HCc:=hid hc;have HXx:=hid hx;have HYy:=hid hy;clear hc hx hy hbx hby hsx hsy;cases c with
     |true=>
      have hxy:=of_decide_eq_true HCc.out;have HN2:=hid (show xr.take (k+1)=yr.take (k+1) from by have h9:=HYy.out;rw [←hxy] at h9;exact eq_next HE.out HXx.out h9);clear hxy HXx HYy HE HCc;go_wp2;go_region_with (go_at_call 35;(with_reducible refine(HCl.out _ (by first|exact(Below.refl _ _).drew|exact Below.refl _ _|exact below_drew (Below.refl _ _) _)).mono ?_);rintro e w1 ⟨rfl,hb⟩;have hbw:=below_out (by first|exact(Below.refl _ _).drew|exact Below.refl _ _|exact below_drew (Below.refl _ _) _) hb;have HB2:=hid (below_out HB.out hbw);have HY1x:=hid (kB hbw HXa.out);have HY2x:=hid (kB hbw HXb.out);clear hb hbw);all_goals
       go_wp2;go_roundg (nra-(k+1)+1)
       case measure=>omega
       case rel=>exact⟨k+1,by omega,by omega,by go_num,HN2.out,HB2.out,HY1x.out,HY2x.out⟩
     |false=>
      have HRv:=hid (show R=false from HR.out.symm.trans (decide_eq_false (fun e=>eq_not HXx.out HYy.out (of_decide_eq_false HCc.out) (congrArg CfgC.routes e))));clear HXx HYy HE HCc;go_wp2;go_region_with (go_at_call 35;(with_reducible refine(HCl.out _ (by first|exact(Below.refl _ _).drew|exact Below.refl _ _|exact below_drew (Below.refl _ _) _)).mono ?_);rintro e w1 ⟨rfl,hb⟩;have hbw:=below_out (by first|exact(Below.refl _ _).drew|exact Below.refl _ _|exact below_drew (Below.refl _ _) _) hb;have HB2:=hid (below_out HB.out hbw);have HY1x:=hid (kB hbw HXa.out);have HY2x:=hid (kB hbw HXb.out);clear hb hbw);all_goals
       go_wp2;go_ret;exact⟨by rw [HRv.out];rfl,HB2.out⟩
    have hiN:nra=k:=by omega
    subst hiN;have HEr:=hid (eq_whole HLr.out HMr.out HE.out);have HB5:=hid HB.out;have HX5:=hid HXa.out;have HX6:=hid HXb.out;clear HE HB HXa HXb;by_cases h1:x1=y1
    case neg=>
     have HRv:=hid (show R=false from HR.out.symm.trans (decide_eq_false (fun e=>h1 (congrArg CfgC.maxhead e))));have hd:(x1== y1)=false:=by simpa using h1
     go_wp2;go_ret;exact⟨by rw [HRv.out];rfl,HB5.out⟩
    subst h1;by_cases h2:x2=y2
    case neg=>
     have HRv:=hid (show R=false from HR.out.symm.trans (decide_eq_false (fun e=>h2 (congrArg CfgC.maxbody e))));have hd:(x2== y2)=false:=by simpa using h2
     go_wp2;go_ret;exact⟨by rw [HRv.out];rfl,HB5.out⟩
    subst h2;by_cases h3:x3=y3
    case neg=>
     have HRv:=hid (show R=false from HR.out.symm.trans (decide_eq_false (fun e=>h3 (congrArg CfgC.maxconns e))));have hd:(x3== y3)=false:=by simpa using h3
     go_wp2;go_ret;exact⟨by rw [HRv.out];rfl,HB5.out⟩
    subst h3;by_cases h4:x4=y4
    case neg=>
     have HRv:=hid (show R=false from HR.out.symm.trans (decide_eq_false (fun e=>h4 (congrArg CfgC.idle e))));have hd:(x4== y4)=false:=by simpa using h4
     go_wp2;go_ret;exact⟨by rw [HRv.out];rfl,HB5.out⟩
    subst h4;by_cases h5:x5=y5
    case neg=>
     have HRv:=hid (show R=false from HR.out.symm.trans (decide_eq_false (fun e=>h5 (congrArg CfgC.header e))));have hd:(x5== y5)=false:=by simpa using h5
     go_wp2;go_ret;exact⟨by rw [HRv.out];rfl,HB5.out⟩
    subst h5;have HRv:=hid (show R=true from HR.out.symm.trans (decide_eq_true (by rw [HEk.out,HEp.out,HEr.out])));go_wp2;go_ret;exact⟨by rw [HRv.out];rfl,HB5.out⟩
theorem pgive_at (kq:Option Addr) (kn kk:Nat) (pq:Option Addr) (pn pk:Nat) (rq:Option Addr) (rn rk:Nat) (ks:List KeyC) (ps:List PoolX) (rs:List RouteX) (m1 m2 m3 m4 m5:Int) (hz:GiveZ kn pn rn ps rs) (w:World) (hI:CfgIn w kq kn kk pq pn pk rq rn rk ks ps rs):Calls Tryz.prog 13 #[.agg #[.slice kq kn kk,.slice pq pn pk,.slice rq rn rk,.int .i64 m1,.int .i64 m2,.int .i64 m3,.int .i64 m4,.int .i64 m5]] w fun e w'=>∃ (k2:Option Addr) (kc:Nat) (p2:Option Addr) (pc:Nat) (r2:Option Addr) (rc:Nat),e= .returned (.agg #[.slice k2 kn kc,.slice p2 pn pc,.slice r2 rn rc,.int .i64 m1,.int .i64 m2,.int .i64 m3,.int .i64 m4,.int .i64 m5])∧CfgAt w' ⟨ks,ps.map PoolX.c,rs.map RouteX.c,m1,m2,m3,m4,m5⟩ k2 kc p2 pc r2 rc∧Below w.heap.size w w':=by
 refine(pgive_any kq kn kk pq pn pk rq rn rk ks ps rs m1 m2 m3 m4 m5 hz w hI).mono ?_;rintro e w' ⟨k2,kc,p2,pc,r2,rc,ps2,rs2,rfl,hr,h1,h2,hb⟩;have h3:=hr.at m1 m2 m3 m4 m5;rw [h1,h2] at h3;exact⟨k2,kc,p2,pc,r2,rc,rfl,h3,hb⟩
theorem PoAtC.po {w:World}{p:Option Addr}{l:List PoolC} (h:PoAtC w p l):PoAt w p l:=by
 intro j a hj;obtain⟨g,o,pb,cb,e,h1,h2,_⟩:=h j a hj;exact⟨g,o,pb,cb,e,h1,h2⟩
structure Two8 (U:World) (g:Nat) (a0 a1 a2 a3 a4 a5 a6 a7 b0 b1 b2 b3 b4 b5 b6 b7:Value):Prop where
 a:Cells8 U g a0 a1 a2 a3 a4 a5 a6 a7
 b:Cells8 U (g+1) b0 b1 b2 b3 b4 b5 b6 b7
structure Bx2 (w W:World) (A B:Obj):Prop where
 low:Below w.heap.size w W
 a:W.heap[w.heap.size]?=some A
 b:W.heap[w.heap.size+1]?=some B
theorem Bx2.next {w W W':World}{A B:Obj} (h:Bx2 w W A B) (hb:Below W.heap.size W W'):Bx2 w W' A B:=⟨below_out h.low hb,kB hb h.a,kB hb h.b⟩
theorem Bx2.two {w W:World}{a0 a1 a2 a3 a4 a5 a6 a7 b0 b1 b2 b3 b4 b5 b6 b7:Value}{T:TypeId} (h:Bx2 w W (.cells #[a0,a1,a2,a3,a4,a5,a6,a7] T (0,0)) (.cells #[b0,b1,b2,b3,b4,b5,b6,b7] T (0,0))):Two8 W w.heap.size a0 a1 a2 a3 a4 a5 a6 a7 b0 b1 b2 b3 b4 b5 b6 b7:=⟨cells8 h.a,cells8 h.b⟩
theorem pool_two (l:List PoolC) (s:B):∃ (I:Int) (E:Nat),poolI l s= .tuple #[.int .i64 I,.int .i64 (E:Int)]∧poolE l s= .tuple #[.int .i64 I,errOf E]:=by
 unfold poolI poolE;cases poolAt l s with
 |none=>exact⟨0,8,rfl,rfl⟩
 |some i=>exact⟨i,0,rfl,rfl⟩
theorem giveL {ks:List KeyC}{kn pn rn:Nat}{ps:List PoolX}{rs:List RouteX} (hz:GiveZ kn pn rn ps rs) {w:World}{kq:Option Addr}{kk:Nat}{pq:Option Addr}{pk:Nat}{rq:Option Addr}{rk:Nat} (hI:CfgIn w kq kn kk pq pn pk rq rn rk ks ps rs) (m1 m2 m3 m4 m5:Int):CfgL ⟨ks,ps.map PoolX.c,rs.map RouteX.c,m1,m2,m3,m4,m5⟩:=by
 refine⟨by show ks.length≤_;rw [hI.nk];have:=hz.k;omega,by show (ps.map PoolX.c).length≤_;rw [List.length_map,hI.np];have:=hz.p;omega,by show (rs.map RouteX.c).length≤_;rw [List.length_map,hI.nr];have:=hz.r;omega,?_,?_⟩
 · intro x hx;obtain⟨y,hy,rfl⟩:=List.mem_map.1 hx;have h1:=hz.mp y hy;have h2:=(hI.mp y hy).n;unfold PoolL;omega
 · intro x hx;obtain⟨y,hy,rfl⟩:=List.mem_map.1 hx;have h1:=hz.mr y hy;have h2:=(hI.mr y hy).n;have h3:=(hI.mr y hy).n2;unfold RouteL;omega
theorem cfgsame_walk (kqa:Option Addr) (kna kka:Nat) (pqa:Option Addr) (pna pka:Nat) (rqa:Option Addr) (rna rka:Nat) (ksa:List KeyC) (psa:List PoolX) (rsa:List RouteX) (m1 m2 m3 m4 m5:Int) (kqb:Option Addr) (knb kkb:Nat) (pqb:Option Addr) (pnb pkb:Nat) (rqb:Option Addr) (rnb rkb:Nat) (ksb:List KeyC) (psb:List PoolX) (rsb:List RouteX) (n1 n2 n3 n4 n5:Int) (s:B) (hza:GiveZ kna pna rna psa rsa) (hzb:GiveZ knb pnb rnb psb rsb) (w:World) (hIa:CfgIn w kqa kna kka pqa pna pka rqa rna rka ksa psa rsa) (hIb:CfgIn w kqb knb kkb pqb pnb pkb rqb rnb rkb ksb psb rsb) (hE:EnvC w):
  Calls Tryz.prog 5 #[.agg #[.slice kqa kna kka,.slice pqa pna pka,.slice rqa rna rka,.int .i64 m1,.int .i64 m2,.int .i64 m3,.int .i64 m4,.int .i64 m5],.agg #[.slice kqb knb kkb,.slice pqb pnb pkb,.slice rqb rnb rkb,.int .i64 n1,.int .i64 n2,.int .i64 n3,.int .i64 n4,.int .i64 n5],.string (str s)] w fun e w'=>e= .returned (.bool true)∧Below w.heap.size w w':=by
 have HGa:=hid (fun (W:World) (hb:Below w.heap.size w W)=>pgive_at kqa kna kka pqa pna pka rqa rna rka ksa psa rsa m1 m2 m3 m4 m5 hza W (hIa.next hb));have HGb:=hid (fun (W:World) (hb:Below w.heap.size w W)=>pgive_at kqb knb kkb pqb pnb pkb rqb rnb rkb ksb psb rsb n1 n2 n3 n4 n5 hzb W (hIb.next hb));have HKa:=hid (show (⟨ksa,psa.map PoolX.c,rsa.map RouteX.c,m1,m2,m3,m4,m5⟩:CfgC).keys.length=kna from hIa.nk);have HPa:=hid (show (psa.map PoolX.c).length=pna from by rw [List.length_map];exact hIa.np);have HRa:=hid (show (rsa.map RouteX.c).length=rna from by rw [List.length_map];exact hIa.nr);have HLa:=hid (giveL hza hIa m1 m2 m3 m4 m5);have HCa:=hid (hIa.at m1 m2 m3 m4 m5);have HKb:=hid (show (⟨ksb,psb.map PoolX.c,rsb.map RouteX.c,n1,n2,n3,n4,n5⟩:CfgC).keys.length=knb from hIb.nk);have HPb:=hid (show (psb.map PoolX.c).length=pnb from by rw [List.length_map];exact hIb.np);have HRb:=hid (show (rsb.map RouteX.c).length=rnb from by rw [List.length_map];exact hIb.nr);have HLb:=hid (giveL hzb hIb n1 n2 n3 n4 n5);have HCb:=hid (hIb.at n1 n2 n3 n4 n5);have hpn:=hza.p;obtain⟨a,ha⟩:∃ c:CfgC,(⟨ksa,psa.map PoolX.c,rsa.map RouteX.c,m1,m2,m3,m4,m5⟩:CfgC)=c:=⟨_,rfl⟩;obtain⟨b,hb⟩:∃ c:CfgC,(⟨ksb,psb.map PoolX.c,rsb.map RouteX.c,n1,n2,n3,n4,n5⟩:CfgC)=c:=⟨_,rfl⟩;have ea:a.pools=psa.map PoolX.c:=by rw [←ha]
 have eb:b.pools=psb.map PoolX.c:=by rw [←hb]
 have fa:a.routes=rsa.map RouteX.c:=by rw [←ha]
 have fb:b.routes=rsb.map RouteX.c:=by rw [←hb]
 have va:∀ k p r:Value,Value.agg #[k,p,r,.int .i64 m1,.int .i64 m2,.int .i64 m3,.int .i64 m4,.int .i64 m5]=cfgV k p r a:=fun k p r=>by rw [←ha]
 have vb:∀ k p r:Value,Value.agg #[k,p,r,.int .i64 n1,.int .i64 n2,.int .i64 n3,.int .i64 n4,.int .i64 n5]=cfgV k p r b:=fun k p r=>by rw [←hb]
 rw [ha] at HGa HKa HLa HCa;rw [hb] at HGb HKb HLb HCb;rw [←ea] at HPa;rw [←eb] at HPb;rw [←fa] at HRa;rw [←fb] at HRb;obtain⟨i,E,hpi,hpe⟩:=pool_two a.pools s;have HPo:=hid (fun (W:World) (q:Option Addr) (c:Nat) (kv rv:Value) (h:PoAt W q a.pools)=>ppoolI_any a kv rv q pna c HPa.out (by omega) s W h);have HDo:=hid (fun (W:World) (q:Option Addr) (c:Nat) (kv rv:Value) (h:PoAt W q a.pools)=>rpoolI_any a kv rv q pna c HPa.out (by omega) s W h);rw [hpe] at HPo;rw [hpi] at HDo;have HSm:=hid (fun (W:World) (k1 p1 r1 k2 p2 r2:Option Addr) (c1 d1 e1 c2 d2 e2:Nat) (h1:CfgAt W a k1 c1 p1 d1 r1 e1) (h2:CfgAt W b k2 c2 p2 d2 r2 e2)=>psame_any a b k1 p1 r1 k2 p2 r2 kna c1 pna d1 rna e1 knb c2 pnb d2 rnb e2 HKa.out HKb.out HPa.out HPb.out HRa.out HRb.out HLa.out HLb.out W h1 h2);have HDm:=hid (fun (W:World) (k1 p1 r1 k2 p2 r2:Option Addr) (c1 d1 e1 c2 d2 e2:Nat) (h1:CfgAt W a k1 c1 p1 d1 r1 e1) (h2:CfgAt W b k2 c2 p2 d2 r2 e2)=>rsame_any_v a b k1 p1 r1 k2 p2 r2 kna c1 pna d1 rna e1 knb c2 pnb d2 rnb e2 HKa.out HKb.out HPa.out HPb.out HRa.out HRb.out HLa.out HLb.out W h1 h2);obtain⟨D,hD⟩:∃ D,decide (a=b)=D:=⟨_,rfl⟩;rw [hD] at HSm HDm;have HNu:=hid (fun (W:World) (hb:Below w.heap.size w W)=>lnum_any E W (hE.next hb));have HSu:=hid (fun (W:World) (hb:Below w.heap.size w W)=>psure_any W (hE.next hb));obtain⟨V,hV⟩:∃ V,errOf E=V:=⟨_,rfl⟩;rw [hV] at HPo HNu;simp only [←va] at HPo HDo;simp only [←va,←vb] at HSm HDm;have hA:=two_new_v w (.cells #[.slice kqa kna kka,.slice pqa pna pka,.slice rqa rna rka,.int .i64 m1,.int .i64 m2,.int .i64 m3,.int .i64 m4,.int .i64 m5] 26 (0,0)) (.cells #[.slice kqb knb kkb,.slice pqb pnb pkb,.slice rqb rnb rkb,.int .i64 n1,.int .i64 n2,.int .i64 n3,.int .i64 n4,.int .i64 n5] 26 (0,0));have HB0:=hid (show Bx2 w _ _ _ from⟨hA.1,hA.2.1,hA.2.2⟩);clear hA hD hV hpi hpe va vb ea eb fa fb ha hb hE hIa hIb hza hzb HKa HKb HPa HPb HRa HRb HLa HLb;go_enter Tryz.func5,Tryz.ntmps5;go_wp2_with (first
  |(go_at_call 13;(with_reducible refine(HGa.out _ HB0.out.low).mono ?_);rintro e w1 ⟨k2,kc,p2,pc,r2,rc,rfl,hc,hb⟩;have HB1:=hid (HB0.out.next hb);have HC1:=hid hc;clear hc hb)
  |(go_at_call 20;(with_reducible refine(HPo.out _ _ _ _ _ HC1.out.pools.po).mono ?_);rintro e w2 ⟨rfl,hb⟩;have HB2:=hid (HB1.out.next hb);obtain⟨⟨x0,x1,x2,x3,x4,x5,x6,x7⟩,_⟩:=HB2.out.two;clear hb HPo)
  |(go_at_call 21;(with_reducible refine(HDo.out _ _ _ _ _ (HCa.out.pools.next HB2.out.low).po).mono ?_);rintro e w3 ⟨rfl,hb⟩;have HB3:=hid (HB2.out.next hb);clear x0 x1 x2 x3 x4 x5 x6 x7 hb HDo))
 have HB4:=hid (show Bx2 w w3.drew (.cells #[.slice kqa kna kka,.slice pqa pna pka,.slice rqa rna rka,.int .i64 m1,.int .i64 m2,.int .i64 m3,.int .i64 m4,.int .i64 m5] 26 (0,0)) (.cells #[.slice kqb knb kkb,.slice pqb pnb pkb,.slice rqb rnb rkb,.int .i64 n1,.int .i64 n2,.int .i64 n3,.int .i64 n4,.int .i64 n5] 26 (0,0)) from⟨HB3.out.low.drew,HB3.out.a,HB3.out.b⟩);refine wp_region_noPanic ?_;refine any_begin 24 (by kernel_rfl) (by kernel_rfl) ?_;refine late_begin (fun U=>Two8 U w.heap.size (.slice kqa kna kka) (.slice pqa pna pka) (.slice rqa rna rka) (.int .i64 m1) (.int .i64 m2) (.int .i64 m3) (.int .i64 m4) (.int .i64 m5) (.slice kqb knb kkb) (.slice pqb pnb pkb) (.slice rqb rnb rkb) (.int .i64 n1) (.int .i64 n2) (.int .i64 n3) (.int .i64 n4) (.int .i64 n5)) (fun _=>false) HB4.out.two (fun hS=>?_);refine ltk (i:=0) (some 24) rfl rfl (v:= ?v0h) ?hy0h hS ?rest0h
 case hy0h=>intro w0 hSw;obtain⟨⟨a0,a1,a2,a3,a4,a5,a6,a7⟩,⟨b0,b1,b2,b3,b4,b5,b6,b7⟩⟩:=hSw;go_simp;try with_reducible rfl
 simp only [Act.put,sA,sB,sC];refine ltk (i:=2) (some 26) rfl rfl (v:= ?v2h) ?hy2h hS ?rest2h
 case hy2h=>intro w0 hSw;obtain⟨⟨a0,a1,a2,a3,a4,a5,a6,a7⟩,⟨b0,b1,b2,b3,b4,b5,b6,b7⟩⟩:=hSw;go_simp;try with_reducible rfl
 simp only [Act.put,sA,sB,sC];refine ltk (i:=5) (some 29) rfl rfl (v:= ?v5h) ?hy5h hS ?rest5h
 case hy5h=>intro w0 hSw;obtain⟨⟨a0,a1,a2,a3,a4,a5,a6,a7⟩,⟨b0,b1,b2,b3,b4,b5,b6,b7⟩⟩:=hSw;go_simp;try with_reducible rfl
 simp only [Act.put,sA,sB,sC];refine ltk (i:=6) (some 30) rfl rfl (v:= ?v6h) ?hy6h hS ?rest6h
 case hy6h=>intro w0 hSw;obtain⟨⟨a0,a1,a2,a3,a4,a5,a6,a7⟩,⟨b0,b1,b2,b3,b4,b5,b6,b7⟩⟩:=hSw;go_simp;try with_reducible rfl
 simp only [Act.put,sA,sB,sC];refine wpAnyD_one (i:=1) (by kernel_rfl) rfl (fun K hK=>?_);go_simp;go_at_call 13;refine(HGa.out _ HB4.out.low).mono ?_;rintro e w5 ⟨j2,jc,o2,oc,l2,lc,rfl,hc,hb⟩;have HB5:=hid (HB4.out.next hb);have HC5:=hid hc;have hS5:=HB5.out.two;refine hK _ _ ⟨fun _=>hS5,?_⟩;clear hK K hb hS;refine wpAnyD_one (i:=3) (by kernel_rfl) rfl (fun K hK=>?_);go_simp;go_at_call 13;refine(HGb.out _ HB5.out.low).mono ?_;rintro e w6 ⟨f2,fc,g2,gc,h2,hc2,rfl,hc,hb⟩;have HB6:=hid (HB5.out.next hb);have HC6:=hid hc;have HC7:=hid (HC5.out.next hb);have hS6:=HB6.out.two;refine hK _ _ ⟨fun _=>hS6,?_⟩;clear hK K hb hS5;refine wpAnyD_one (i:=4) (by kernel_rfl) rfl (fun K hK=>?_);go_simp;go_at_call 22;refine(HSm.out _ _ _ _ _ _ _ _ _ _ _ _ _ HC7.out HC6.out).mono ?_;rintro e w8 ⟨rfl,hb⟩;have HB8:=hid (HB6.out.next hb);have hS8:=HB8.out.two;refine hK _ _ ⟨fun _=>hS8,?_⟩;clear hK K hb hS6;refine wpAnyD_one (i:=7) (by kernel_rfl) rfl (fun K hK=>?_);go_simp;go_at_call 10;refine(HDm.out _ _ _ _ _ _ _ _ _ _ _ _ _ (HCa.out.next HB8.out.low) (HCb.out.next HB8.out.low)).mono ?_;rintro e w9 ⟨rfl,hb⟩;have HB9:=hid (HB8.out.next hb);have hS9:=HB9.out.two;refine hK _ _ ⟨fun _=>hS9,?_⟩;clear hK K hb hS8;refine ltk (i:=8) (some 32) rfl rfl (v:= ?v8h) ?hy8h hS9 ?rest8h
 case hy8h=>intro w0 hSw;obtain⟨⟨a0,a1,a2,a3,a4,a5,a6,a7⟩,⟨b0,b1,b2,b3,b4,b5,b6,b7⟩⟩:=hSw;go_simp;try with_reducible rfl
 simp only [Act.put,sA,sB,sC];refine ltk (i:=9) (some 33) rfl rfl (v:= ?v9h) ?hy9h hS9 ?rest9h
 case hy9h=>intro w0 hSw;obtain⟨⟨a0,a1,a2,a3,a4,a5,a6,a7⟩,⟨b0,b1,b2,b3,b4,b5,b6,b7⟩⟩:=hSw;go_simp;try with_reducible rfl
 simp only [Act.put,sA,sB,sC];refine ltk (i:=10) (some 34) rfl rfl (v:= ?v10h) ?hy10h hS9 ?rest10h
 case hy10h=>intro w0 hSw;obtain⟨⟨a0,a1,a2,a3,a4,a5,a6,a7⟩,⟨b0,b1,b2,b3,b4,b5,b6,b7⟩⟩:=hSw;go_simp;try with_reducible rfl
 simp only [Act.put,sA,sB,sC];refine ltk (i:=11) (some 35) rfl rfl (v:= ?v11h) ?hy11h hS9 ?rest11h
 case hy11h=>intro w0 hSw;obtain⟨⟨a0,a1,a2,a3,a4,a5,a6,a7⟩,⟨b0,b1,b2,b3,b4,b5,b6,b7⟩⟩:=hSw;go_simp;try with_reducible rfl
 simp only [Act.put,sA,sB,sC];refine ltk (i:=12) (some 36) rfl rfl (v:= ?v12h) ?hy12h hS9 ?rest12h
 case hy12h=>intro w0 hSw;obtain⟨⟨a0,a1,a2,a3,a4,a5,a6,a7⟩,⟨b0,b1,b2,b3,b4,b5,b6,b7⟩⟩:=hSw;go_simp;try with_reducible rfl
 simp only [Act.put,sA,sB,sC];refine ltk (i:=13) (some 37) rfl rfl (v:= ?v13h) ?hy13h hS9 ?rest13h
 case hy13h=>intro w0 hSw;obtain⟨⟨a0,a1,a2,a3,a4,a5,a6,a7⟩,⟨b0,b1,b2,b3,b4,b5,b6,b7⟩⟩:=hSw;go_simp;try with_reducible rfl
 simp only [Act.put,sA,sB,sC];refine ltk (i:=14) (some 38) rfl rfl (v:= ?v14h) ?hy14h hS9 ?rest14h
 case hy14h=>intro w0 hSw;obtain⟨⟨a0,a1,a2,a3,a4,a5,a6,a7⟩,⟨b0,b1,b2,b3,b4,b5,b6,b7⟩⟩:=hSw;go_simp;try with_reducible rfl
 simp only [Act.put,sA,sB,sC];refine ltk (i:=15) (some 39) rfl rfl (v:= ?v15h) ?hy15h hS9 ?rest15h
 case hy15h=>intro w0 hSw;obtain⟨⟨a0,a1,a2,a3,a4,a5,a6,a7⟩,⟨b0,b1,b2,b3,b4,b5,b6,b7⟩⟩:=hSw;go_simp;try with_reducible rfl
 simp only [Act.put,sA,sB,sC];refine ltk (i:=17) (some 41) rfl rfl (v:= ?v17h) ?hy17h hS9 ?rest17h
 case hy17h=>intro w0 hSw;obtain⟨⟨a0,a1,a2,a3,a4,a5,a6,a7⟩,⟨b0,b1,b2,b3,b4,b5,b6,b7⟩⟩:=hSw;go_simp;try with_reducible rfl
 simp only [Act.put,sA,sB,sC];refine wpAnyD_one (i:=16) (by kernel_rfl) rfl (fun K hK=>?_);go_simp;go_at_call 11;refine(HNu.out _ HB9.out.low).mono ?_;rintro e w10 ⟨rfl,hb⟩;have HB10:=hid (HB9.out.next hb);have hS10:=HB10.out.two;refine hK _ _ ⟨fun _=>hS10,?_⟩;clear hK K hb hS9;refine ltk (i:=18) (some 42) rfl rfl (v:= ?v18h) ?hy18h hS10 ?rest18h
 case hy18h=>intro w0 hSw;obtain⟨⟨a0,a1,a2,a3,a4,a5,a6,a7⟩,⟨b0,b1,b2,b3,b4,b5,b6,b7⟩⟩:=hSw;go_simp;try with_reducible rfl
 simp only [Act.put,sA,sB,sC];refine ltk (i:=19) (some 43) rfl rfl (v:= ?v19h) ?hy19h hS10 ?rest19h
 case hy19h=>intro w0 hSw;obtain⟨⟨a0,a1,a2,a3,a4,a5,a6,a7⟩,⟨b0,b1,b2,b3,b4,b5,b6,b7⟩⟩:=hSw;go_simp;try with_reducible rfl
 simp only [Act.put,sA,sB,sC];refine ltk (i:=20) (some 44) rfl rfl (v:= ?v20h) ?hy20h hS10 ?rest20h
 case hy20h=>intro w0 hSw;obtain⟨⟨a0,a1,a2,a3,a4,a5,a6,a7⟩,⟨b0,b1,b2,b3,b4,b5,b6,b7⟩⟩:=hSw;go_simp;try with_reducible rfl
 simp only [Act.put,sA,sB,sC];refine wpAnyD_one (i:=21) (by kernel_rfl) rfl (fun K hK=>?_);go_simp;go_at_call 12;refine(HSu.out _ HB10.out.low).mono ?_;rintro e w11 ⟨rfl,hb⟩;have HB11:=hid (HB10.out.next hb);have hS11:=HB11.out.two;refine hK _ _ ⟨fun _=>hS11,?_⟩;clear hK K hb hS10;refine ltk (i:=22) (some 46) rfl rfl (v:= ?v22h) ?hy22h hS11 ?rest22h
 case hy22h=>intro w0 hSw;obtain⟨⟨a0,a1,a2,a3,a4,a5,a6,a7⟩,⟨b0,b1,b2,b3,b4,b5,b6,b7⟩⟩:=hSw;go_simp;try with_reducible rfl
 simp only [Act.put,sA,sB,sC];refine ltk (i:=23) (some 6) rfl rfl (v:= ?v23h) ?hy23h hS11 ?rest23h
 case hy23h=>intro w0 hSw;obtain⟨⟨a0,a1,a2,a3,a4,a5,a6,a7⟩,⟨b0,b1,b2,b3,b4,b5,b6,b7⟩⟩:=hSw;go_simp;try with_reducible rfl
 simp only [Act.put,sA,sB,sC];refine late_done (by kernel_rfl) ?_ _;refine NoPanic.normal ?_;go_wp2;go_ret;exact⟨rfl,HB11.out.low⟩
end Go.Proofs.YtlmefgjhbohjlaaGreatDoor
