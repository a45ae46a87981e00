/- The program's way along a path: the steps, the value at a path, the value of a kind. -/
import Derived.Test.YtlmefgjhbohjlaaGreatDoorKFind
namespace Go.Proofs.YtlmefgjhbohjlaaGreatDoor
set_option maxRecDepth 20000
set_option maxHeartbeats 8000000
open Go.RowKit
structure Fo (U:World) (g:Nat) (o:Obj) (sg so:Nat) (S:ByteArray):Prop where
 x:U.heap[g]?=some o
 y:U.heap[g+1]?=some (.cells #[.int .i64 0,.bool false,.string ⟨#[]⟩,.int .i64 0,.bool false,.slice none 0 0,.slice none 0 0] 57 (0,0))
 s:U.cell? ⟨sg,so,none⟩=some (.string S)
theorem Fo.below {U V:World}{g sg so:Nat}{o:Obj}{S:ByteArray} (h:Fo U g o sg so S) (hb:Below U.heap.size U V):Fo V g o sg so S:=
 ⟨kB hb h.x,kB hb h.y,cell_keep hb h.s⟩
structure Fp_k (U:World) (g:Nat) (o:Obj) (pg po:Nat) (c0 c1 c2 c3 c4 c5 c6:Value):Prop where
 x:U.heap[g]?=some o
 y:U.heap[g+1]?=some (.cells #[.int .i64 0,.bool false,.string ⟨#[]⟩,.int .i64 0,.bool false,.slice none 0 0,.slice none 0 0] 57 (0,0))
 r:Row7 U pg po c0 c1 c2 c3 c4 c5 c6
theorem Fp_k.below {U V:World}{g pg po:Nat}{o:Obj}{c0 c1 c2 c3 c4 c5 c6:Value} (h:Fp_k U g o pg po c0 c1 c2 c3 c4 c5 c6) (hb:Below U.heap.size U V):Fp_k V g o pg po c0 c1 c2 c3 c4 c5 c6:=
 ⟨kB hb h.x,kB hb h.y,h.r.below hb⟩
theorem told_zero {w W:World}{N g:Nat} (hb:Below w.heap.size w W) (hg:w.heap.size≤g):ToldV_k N JV.zero 8 w (.returned (.tuple #[.agg #[.int .i64 0,.bool false,.string ⟨#[]⟩,.int .i64 0,.bool false,.slice none 0 0,.slice none 0 0],.iface 63 (.int .i64 8)])) (((((((W.setCell ⟨g,0,none⟩ (.int .i64 0)).setCell ⟨g,1,none⟩ (.bool false)).setCell ⟨g,2,none⟩ (.string ⟨#[]⟩)).setCell ⟨g,3,none⟩ (.int .i64 0)).setCell ⟨g,4,none⟩ (.bool false)).setCell ⟨g,5,none⟩ (.slice none 0 0)).setCell ⟨g,6,none⟩ (.slice none 0 0)):=
 ⟨_,rfl,zero_b _ _,below_seven hb hg _ _ _ _ _ _ _⟩
theorem names_head {w:World}{s:B}{r:List B}{p:Option Addr} (h:NamesOn w (s::r) p):∃ g o,p=some ⟨g,o,none⟩∧w.cell? ⟨g,o,none⟩=some (.string (str s))∧NamesOn w r (some ⟨g,o+1,none⟩):=by
 obtain⟨g,o,rfl,hc⟩:=h 0 s rfl;refine⟨g,o,rfl,hc,fun j t hj=>?_⟩;obtain⟨g',o',e,hc'⟩:=h (j+1) t (by simpa using hj);simp only [Option.some.injEq,Addr.mk.injEq] at e;obtain⟨rfl,rfl,_⟩:=e;exact⟨_,_,rfl,by rw [show o+1+j=o+(j+1) by omega];exact hc'⟩
def FollowOk (ss:List B):Prop:=∀ (t:JV) (w:World) (N:Nat) (cs:List Value) (p:Option Addr) (c:Nat),N≤w.heap.size→Fits_k t→Env_k w→ValB_k w N t cs→NamesOn w ss p→ss.length≤c→Calls Tryz.prog 253 #[.agg cs.toArray,.slice p ss.length c] w fun e w'=>ToldV_k N ((goto t ss).getD JV.zero) (codeN (goto t ss)) w e w'
theorem follow_nil:FollowOk []:=by
 intro t w N cs p c hN hf hE hv hp hc;have e1:(goto t []).getD JV.zero=t:=by simp [goto]
 have e2:codeN (goto t [])=0:=by simp [goto,codeN]
 rw [e1,e2];obtain⟨k1,k2,k3,k4,k5,k6,k7,k8,k9,k10,k11,rfl⟩:=hv.form;have HV:=hid hv;clear hf hE hv hp hc e1 e2;go_enter Tryz.func253,Tryz.ntmps253;go_wp2
 (try simp only [Exit.inBlock,Exit.then])
 refine bodyPost_ret (results_val2 rfl _ _ _ 57 _ (0,0) rfl (two_at_k w _ _).2.1 rfl) rfl ?_;exact⟨_,rfl,HV.out.below ((two_at_k w _ _).2.2.mono hN),(two_at_k w _ _).2.2⟩
theorem follow_cons (s:B) (r:List B) (hs:s.length≤1048577) (hr:r.length≤1048577) (ih:FollowOk r):FollowOk (s::r):=by
 intro t w N cs p c hN hf hE hv hp hc;obtain⟨k,b,tx,n,hh,ls,ns⟩:=t;have HV:=hid hv;obtain⟨p1,c1,p2,c2,rfl,hp1,hp2⟩:=hv.open;obtain⟨sg,so,rfl,hsc,hrest⟩:=names_head hp;obtain⟨n1,e1⟩:∃ n1,ls.length=n1:=⟨_,rfl⟩;obtain⟨n2,e2⟩:∃ n2,ns.length=n2:=⟨_,rfl⟩;obtain⟨m,em⟩:∃ m,r.length=m:=⟨_,rfl⟩;rw [show (s::r).length=m+1 by simp [em]] at hc ⊢;simp only [Fits_k,fitsL_iff_k] at hf;unfold maxI_k at hf;have hn1:n1≤1048576:=by rw [←e1];exact hf.2.1
 have HF:=hid hf;have HE:=hid hE;have HP:=hid hp1;have HR:=hid hrest;have HM:=hid em;have HI:=hid ih;have HN1:=hid e1;rw [e1,e2] at HV ⊢;rw [em] at hr;obtain⟨W0,hW0⟩:∃ W0,W0=((w.alloc (C7 k b tx n hh p1 n1 c1 p2 n2 c2)).alloc (.cells #[.int .i64 0,.bool false,.string ⟨#[]⟩,.int .i64 0,.bool false,.slice none 0 0,.slice none 0 0] 57 (0,0))):=⟨_,rfl⟩;have HT:=hid (show W0.heap[w.heap.size]?=some (C7 k b tx n hh p1 n1 c1 p2 n2 c2)∧W0.heap[w.heap.size+1]?=some (.cells #[.int .i64 0,.bool false,.string ⟨#[]⟩,.int .i64 0,.bool false,.slice none 0 0,.slice none 0 0] 57 (0,0))∧Below w.heap.size w W0 from by rw [hW0];exact two_at_k w _ _);have HB0:=hid HT.out.2.2;have HX0:=hid (show Fo W0 w.heap.size (C7 k b tx n hh p1 n1 c1 p2 n2 c2) sg so (str s) from⟨HT.out.1,HT.out.2.1,cell_keep HB0.out hsc⟩);have HPl:=hid (placeOf_any (.mk k b tx n hh ls ns) s hs);have HNs:=hid (show (JV.mk k b tx n hh ls ns).names.length≤1048576 from hf.2.2.1);have HW0:=hid hW0;obtain⟨G,hG⟩:∃ G,goto (.mk k b tx n hh ls ns) (s::r)=G:=⟨_,rfl⟩;have HG:=hid hG;rw [hG];clear hf hE hv hp1 hp2 hp hsc hrest ih e1 e2 em hs hW0 hG;go_enter Tryz.func253,Tryz.ntmps253;go_wp2;refine wp_region_noPanic ?_;refine any_begin 6 (by kernel_rfl) (by kernel_rfl) ?_;rw [←HW0.out];refine late_begin (fun U=>Fo U w.heap.size (C7 k b tx n hh p1 n1 c1 p2 n2 c2) sg so (str s)) (fun _=>false) (HX0.out.below (below_drew_j (Below.refl _ _) 1)) (fun hS=>?_);have HBV:=hid (HB0.out.trans ((show Below W0.heap.size W0 W0.drew from below_drew_j (Below.refl _ _) 1).mono HB0.out.size));generalize W0.drew=V at hS HBV ⊢;refine ltk (i:=0) (some 11) rfl rfl (v:= ?v0a) ?hy0a hS ?rest0a
 case hy0a=>intro w0 hSw;obtain⟨e0,e1,e2,e3,e4,e5,e6,_⟩:=seven_j hSw.x;have hs0:=hSw.s;go_simp;try with_reducible rfl
 simp only [Act.put,sA,sB,sC];refine ltk (i:=1) (some 12) rfl rfl (v:= ?v1a) ?hy1a hS ?rest1a
 case hy1a=>intro w0 hSw;obtain⟨e0,e1,e2,e3,e4,e5,e6,_⟩:=seven_j hSw.x;have hs0:=hSw.s;go_simp;try with_reducible rfl
 simp only [Act.put,sA,sB,sC];refine ltk (i:=2) (some 13) rfl rfl (v:= ?v2a) ?hy2a hS ?rest2a
 case hy2a=>intro w0 hSw;obtain⟨e0,e1,e2,e3,e4,e5,e6,_⟩:=seven_j hSw.x;have hs0:=hSw.s;go_simp;try with_reducible rfl
 simp only [Act.put,sA,sB,sC];refine ltk (i:=3) (some 14) rfl rfl (v:= ?v3a) ?hy3a hS ?rest3a
 case hy3a=>intro w0 hSw;obtain⟨e0,e1,e2,e3,e4,e5,e6,_⟩:=seven_j hSw.x;have hs0:=hSw.s;go_simp;try with_reducible rfl
 simp only [Act.put,sA,sB,sC];refine wpAnyD_one (i:=4) (by kernel_rfl) rfl (fun K hK=>?_);go_simp;go_at_call 294;have hcall:=HPl.out V _ (HE.out.below HBV.out) ((HV.out.on hN).below HBV.out) HNs.out;refine hcall.mono ?_;clear hcall;rintro e w1 ⟨z,rfl,hz,hb⟩;have HB1:=hid (below_out HBV.out hb);have hS5:=hS.below hb;have HZ:=hid hz;clear hb hz;refine hK _ _ ⟨fun _=>hS5,?_⟩;clear hK K;replace hS:=hS5;clear hS5;refine ltk (i:=5) (some 6) rfl rfl (v:= ?v5a) ?hy5a hS ?rest5a
 case hy5a=>intro w0 hSw;obtain⟨e0,e1,e2,e3,e4,e5,e6,_⟩:=seven_j hSw.x;have hs0:=hSw.s;go_simp;try with_reducible rfl
 simp only [Act.put,sA,sB,sC];refine late_done (by kernel_rfl) ?_ _;refine NoPanic.normal ?_;have HS:=hid hS;clear hS;obtain⟨x0,x1,x2,x3,x4,x5,x6,xz⟩:=seven_j HS.out.x;clear xz;obtain⟨y0,y1,y2,y3,y4,y5,y6,yz⟩:=seven_j HS.out.y;have yz0:=yz 0;have yz1:=yz 1;have yz2:=yz 2;have yz3:=yz 3;have yz4:=yz 4;have yz5:=yz 5;have yz6:=yz 6;clear yz;cases hpl:placeN (.mk k b tx n hh ls ns) s with
 |none=>
  have hz:=HZ.out;rw [hpl] at hz;have hz2:z<0∨(n1:Int)≤z:=by rw [←HN1.out];exact hz
  have HGn:=hid (show G=none from by rw [←HG.out];exact goto_none hpl);clear hz HZ hpl;by_cases h0:z<0
  · go_wp2
    (try simp only [Exit.inBlock,Exit.then])
    refine bodyPost_ret (results_val2 rfl _ _ _ 57 _ (0,0) rfl (seven_put (has_seven HS.out.y) _ _ _ _ _ _ _) rfl) rfl ?_;rw [HGn.out];exact told_zero HB1.out (Nat.le_succ _)
  · have h1:(n1:Int)≤z:=by omega
    go_wp2
    (try simp only [Exit.inBlock,Exit.then])
    refine bodyPost_ret (results_val2 rfl _ _ _ 57 _ (0,0) rfl (seven_put (has_seven HS.out.y) _ _ _ _ _ _ _) rfl) rfl ?_;rw [HGn.out];exact told_zero HB1.out (Nat.le_succ _)
 |some i=>
  have hz:=HZ.out;rw [hpl] at hz;obtain rfl:z=(i:Int):=hz;have hi1:i<ls.length:=placeN_lt hpl;have hin:i<n1:=by rw [←HN1.out];exact hi1
  have HGs:=hid (show G=goto ls[i] r from by rw [←HG.out];exact goto_some (r:=r) hpl (List.getElem?_eq_getElem hi1));have HFx:=hid (HF.out.2.2.2.2 ls[i] (List.getElem_mem hi1));obtain⟨pg,po,csx,rfl,hpg,hvx,hcx⟩:=HP.out.below (HB1.out.mono hN) i ls[i] (List.getElem?_eq_getElem hi1);obtain⟨x,hx⟩:∃ x,ls[i]=x:=⟨_,rfl⟩;rw [hx] at hvx HFx HGs;obtain⟨q1,q2,q3,q4,q5,q6,q7,q8,q9,q10,q11,rfl⟩:=hvx.form;have HVx:=hid hvx;have HXp:=hid (Fp_k.mk HS.out.x HS.out.y (row7 hcx));obtain⟨P,hP⟩:∃ P,(if c=1 then some (⟨sg,so,none⟩:Addr) else some ⟨sg,so+1,none⟩)=P:=⟨_,rfl⟩;have HRP:=hid (show NamesOn w r P from by
   rw [←hP];split
   · have h0:r= []:=List.eq_nil_of_length_eq_zero (by rw [HM.out];omega);rw [h0];intro j t hj;simp at hj
   · exact HR.out)
  have HPP:=hid hP;clear HZ hpl hx hvx hcx hi1 hP;go_wp2;refine wp_region_noPanic ?_;refine any_begin 12 (by kernel_rfl) (by kernel_rfl) ?_;refine late_begin (fun U=>Fp_k U w.heap.size (C7 k b tx n hh (some ⟨pg,po,none⟩) n1 c1 p2 n2 c2) pg (po+i*7) (.int .i64 q1) (.bool q2) (.string (str q3)) (.int .i64 q4) (.bool q5) (.slice q6 q7 q8) (.slice q9 q10 q11)) (fun j=>decide (10≤j)) (HXp.out.below (below_drew_j (Below.refl _ _) 1)) (fun hS=>?_);have HBX:=hid (HB1.out.trans ((show Below w1.heap.size w1 w1.drew from below_drew_j (Below.refl _ _) 1).mono HB1.out.size));have HVy:=hid (HVx.out.below ((show Below w1.heap.size w1 w1.drew from below_drew_j (Below.refl _ _) 1).mono (Nat.le_trans hN HB1.out.size)));generalize w1.drew=X at hS HBX HVy ⊢;refine ltk (i:=0) (some 27) rfl rfl (v:= ?v0b) ?hy0b hS ?rest0b
  case hy0b=>intro w0 hSw;obtain⟨e0,e1,e2,e3,e4,e5,e6,_⟩:=seven_j hSw.x;obtain⟨r0,r1,r2,r3,r4,r5,r6⟩:=hSw.r;go_simp;try with_reducible rfl
  simp only [Act.put,sA,sB,sC];refine ltk (i:=1) (some 28) rfl rfl (v:= ?v1b) ?hy1b hS ?rest1b
  case hy1b=>intro w0 hSw;obtain⟨e0,e1,e2,e3,e4,e5,e6,_⟩:=seven_j hSw.x;obtain⟨r0,r1,r2,r3,r4,r5,r6⟩:=hSw.r;go_simp;try with_reducible rfl
  simp only [Act.put,sA,sB,sC];refine ltk (i:=2) (some 29) rfl rfl (v:= ?v2b) ?hy2b hS ?rest2b
  case hy2b=>intro w0 hSw;obtain⟨e0,e1,e2,e3,e4,e5,e6,_⟩:=seven_j hSw.x;obtain⟨r0,r1,r2,r3,r4,r5,r6⟩:=hSw.r;go_simp;try with_reducible rfl
  simp only [Act.put,sA,sB,sC];refine ltk (i:=3) (some 30) rfl rfl (v:= ?v3b) ?hy3b hS ?rest3b
  case hy3b=>intro w0 hSw;obtain⟨e0,e1,e2,e3,e4,e5,e6,_⟩:=seven_j hSw.x;obtain⟨r0,r1,r2,r3,r4,r5,r6⟩:=hSw.r;go_simp;try with_reducible rfl
  simp only [Act.put,sA,sB,sC];refine ltk (i:=4) (some 31) rfl rfl (v:= ?v4b) ?hy4b hS ?rest4b
  case hy4b=>intro w0 hSw;obtain⟨e0,e1,e2,e3,e4,e5,e6,_⟩:=seven_j hSw.x;obtain⟨r0,r1,r2,r3,r4,r5,r6⟩:=hSw.r;go_simp;try with_reducible rfl
  simp only [Act.put,sA,sB,sC];refine ltk (i:=5) (some 32) rfl rfl (v:= ?v5b) ?hy5b hS ?rest5b
  case hy5b=>intro w0 hSw;obtain⟨e0,e1,e2,e3,e4,e5,e6,_⟩:=seven_j hSw.x;obtain⟨r0,r1,r2,r3,r4,r5,r6⟩:=hSw.r;go_simp;try with_reducible rfl
  simp only [Act.put,sA,sB,sC];refine late_take (i:=6) (some 33) rfl rfl (by kernel_rfl) (by kernel_rfl) (by kernel_rfl) (by kernel_rfl) (by kernel_rfl) (fun _ _ _ h=>h) (by rfl) (v:=.slice P m (c-1)) ?hy6b hS ?rest6b
  case hy6b=>intro w0 hSw;obtain⟨e0,e1,e2,e3,e4,e5,e6,_⟩:=seven_j hSw.x;obtain⟨r0,r1,r2,r3,r4,r5,r6⟩:=hSw.r;go_simp;rw [if_pos (by omega),HPP.out]
  simp only [Act.put,sA,sB,sC];refine wpAnyD_one (i:=7) (by kernel_rfl) rfl (fun K hK=>?_);go_simp;go_at_call 253;have hcall:=HI.out x X N _ P (c-1) (Nat.le_trans hN HBX.out.size) HFx.out (HE.out.below HBX.out) HVy.out (HRP.out.below HBX.out) (by rw [HM.out];omega);rw [HM.out] at hcall;refine hcall.mono ?_;clear hcall;rintro e w2 ⟨cs2,rfl,hv2,hb⟩;have HB2:=hid (below_out HBX.out hb);have hS5:=hS.below hb;have HV2:=hid hv2;obtain⟨u1,u2,u3,u4,u5,u6,u7,u8,u9,u10,u11,rfl⟩:=hv2.form;clear hb hv2;refine hK _ _ ⟨fun _=>hS5,?_⟩;clear hK K;replace hS:=hS5;clear hS5;refine ltk (i:=8) (some 35) rfl rfl (v:= ?v8b) ?hy8b hS ?rest8b
  case hy8b=>intro w0 hSw;obtain⟨e0,e1,e2,e3,e4,e5,e6,_⟩:=seven_j hSw.x;obtain⟨r0,r1,r2,r3,r4,r5,r6⟩:=hSw.r;go_simp;try with_reducible rfl
  simp only [Act.put,sA,sB,sC];refine ltk (i:=9) (some 36) rfl rfl (v:= ?v9b) ?hy9b hS ?rest9b
  case hy9b=>intro w0 hSw;obtain⟨e0,e1,e2,e3,e4,e5,e6,_⟩:=seven_j hSw.x;obtain⟨r0,r1,r2,r3,r4,r5,r6⟩:=hSw.r;go_simp;try with_reducible rfl
  simp only [Act.put,sA,sB,sC];have HSe:=hid hS;obtain⟨v0,v1,v2,v3,v4,v5,v6,vz⟩:=seven_j hS.y;have vz0:=vz 0;have vz1:=vz 1;have vz2:=vz 2;have vz3:=vz 3;have vz4:=vz 4;have vz5:=vz 5;have vz6:=vz 6;clear vz;clear hS;refine late_over (by kernel_rfl) ?_;refine any_one (i:=10) (by kernel_rfl) rfl (fun K hK=>?_);go_simp;refine hK _ _ ?_;clear hK K;refine atk (i:=11) (some 5) rfl rfl (v:= ?v11b) ?hy11b ?rest11b
  case hy11b=>intro w0;go_simp;try with_reducible rfl
  simp only [Act.put,sA,sB,sC];refine any_done (by kernel_rfl) ?_ _;refine NoPanic.normal ?_;go_wp2
  (try simp only [Exit.inBlock,Exit.then])
  refine bodyPost_ret (results_val2 rfl _ _ _ 57 _ (0,0) rfl (seven_put (has_seven HSe.out.y) _ _ _ _ _ _ _) rfl) rfl ?_;rw [HGs.out];exact⟨_,rfl,HV2.out.below (below_sevenN (Below.refl N w2) (Nat.le_trans hN (Nat.le_succ _)) _ _ _ _ _ _ _),below_seven HB2.out (Nat.le_succ _) _ _ _ _ _ _ _⟩
theorem follow_any:∀ ss:List B,(∀ z∈ss,z.length≤1048577)→ss.length≤1048578→FollowOk ss
 | [],_,_=>follow_nil
 |s::r,h,hl=>follow_cons s r (h s (by simp)) (by simp at hl;omega) (follow_any r (fun z hz=>h z (by simp [hz])) (by simp at hl;omega))
theorem split_any (p:B) (hp:p.length≤1048577) (w:World) (hE:Env_k w):Calls Tryz.prog 254 #[.string (str p),.string ⟨#[46]⟩] w fun e w'=>∃ P c,e= .returned (.slice P (cutL_k p).length c)∧(cutL_k p).length≤c∧NamesOn w' (cutL_k p) P∧Below w.heap.size w w':=by
 obtain⟨m,hm⟩:=hE.most;have hs:(str p).size≤1048577:=by rw [str_size];exact hp
 refine(Tryz.strings_Split (str p) ⟨#[46]⟩ m w (by omega) hm (by decide)).mono ?_;rintro e w' ⟨rfl,rfl⟩;have hcut:=split_cut_k _ (str p) rfl;rw [show (str p).data.toList=p by simp] at hcut;have hlen:(Lib.splitB point 0 (Lib.countB (str p) point) (str p)).length=Lib.countB (str p) point+1:=Lib.splitB_all point (by decide) 0 _ (str p) rfl;have hl2:(cutL_k p).length=Lib.countB (str p) point+1:=by rw [←hlen,←hcut,List.length_map]
 refine⟨some ⟨w.heap.size,0,none⟩,Lib.countB (str p) point+1,by rw [hl2];rfl,by omega,fun j t hj=>⟨_,_,rfl,?_⟩,below_new _ _⟩;rw [World.cell?_alloc_new];rw [←hcut] at hj;rw [List.getElem?_map] at hj;cases hx:(Lib.splitB point 0 (Lib.countB (str p) point) (str p))[j]? with
 |none=>rw [hx] at hj;simp at hj
 |some y=>
  rw [hx] at hj;simp only [Option.map_some,Option.some.injEq] at hj;have e:str t=y:=by
   rw [←hj]
  have hx2:(Lib.splitB ⟨#[46]⟩ 0 (Lib.countB (str p) ⟨#[46]⟩) (str p))[j]?=some y:=hx;simp [hx2,e]
structure Fb (U:World) (g:Nat) (o:Obj):Prop where
 x:U.heap[g]?=some o
 y:U.heap[g+1]?=some (.cells #[.int .i64 0,.bool false,.string ⟨#[]⟩,.int .i64 0,.bool false,.slice none 0 0,.slice none 0 0] 57 (0,0))
theorem Fb.below {U V:World}{g:Nat}{o:Obj} (h:Fb U g o) (hb:Below U.heap.size U V):Fb V g o:=
 ⟨kB hb h.x,kB hb h.y⟩
theorem find_any (t:JV) (p:B) (hp:p.length≤1048577) (w:World) (N:Nat) (cs:List Value) (hN:N≤w.heap.size) (hf:Fits_k t) (hE:Env_k w) (hv:ValB_k w N t cs):Calls Tryz.prog 202 #[.agg cs.toArray,.string (str p)] w fun e w'=>ToldV_k N ((goto t (steps p)).getD JV.zero) (codeN (goto t (steps p))) w e w':=by
 obtain⟨k1,k2,k3,k4,k5,k6,k7,k8,k9,k10,k11,rfl⟩:=hv.form;by_cases h0:p= []
 · subst h0;have HV:=hid hv;clear hf hE hv hp;go_enter Tryz.func202,Tryz.ntmps202;go_wp2
   (try simp only [Exit.inBlock,Exit.then])
   refine bodyPost_ret (results_val2 rfl _ _ _ 57 _ (0,0) rfl (two_at_k w _ _).2.1 rfl) rfl ?_;exact⟨_,rfl,HV.out.below ((two_at_k w _ _).2.2.mono hN),(two_at_k w _ _).2.2⟩
 · have hst:steps p=cutL_k p:=by unfold steps;rw [if_neg h0]
   rw [hst];have hq:¬str p=⟨#[]⟩:=str_ne (b:=[]) h0;have HFo:=hid (follow_any (cutL_k p) (fun z hz=>by have:=cutL_piece p z hz;omega) (by have:=cutL_len_k p;omega));have HSp:=hid (split_any p hp);obtain⟨G,hG⟩:∃ G,goto t (cutL_k p)=G:=⟨_,rfl⟩;have HG:=hid hG;rw [hG];obtain⟨S,hS⟩:∃ S,str p=S:=⟨_,rfl⟩;have HS:=hid hS;rw [hS] at hq ⊢;have hq2:=ne_empty hq;have HF:=hid hf;have HE:=hid hE;have HV:=hid hv;obtain⟨W0,hW0⟩:∃ W0,W0=((w.alloc (C7 k1 k2 k3 k4 k5 k6 k7 k8 k9 k10 k11)).alloc (.cells #[.int .i64 0,.bool false,.string ⟨#[]⟩,.int .i64 0,.bool false,.slice none 0 0,.slice none 0 0] 57 (0,0))):=⟨_,rfl⟩;have HB0:=hid (show Below w.heap.size w W0 from by rw [hW0];exact(two_at_k w _ _).2.2);have HX0:=hid (show Fb W0 w.heap.size (C7 k1 k2 k3 k4 k5 k6 k7 k8 k9 k10 k11) from by rw [hW0];exact⟨(two_at_k w _ _).1,(two_at_k w _ _).2.1⟩);have HW0:=hid hW0;clear hf hE hv hp h0 hst hG hS hW0;go_enter Tryz.func202,Tryz.ntmps202;go_wp2;refine wp_region_noPanic ?_;refine any_begin 8 (by kernel_rfl) (by kernel_rfl) ?_;rw [←HW0.out];refine late_begin (fun U=>Fb U w.heap.size (C7 k1 k2 k3 k4 k5 k6 k7 k8 k9 k10 k11)) (fun j=>decide (6≤j)) (HX0.out.below (below_drew_j (Below.refl _ _) 1)) (fun hS=>?_);have HBV:=hid (HB0.out.trans ((show Below W0.heap.size W0 W0.drew from below_drew_j (Below.refl _ _) 1).mono HB0.out.size));generalize W0.drew=V at hS HBV ⊢;refine ltk (i:=0) (some 9) rfl rfl (v:= ?v0a) ?hy0a hS ?rest0a
   case hy0a=>intro w0 hSw;obtain⟨e0,e1,e2,e3,e4,e5,e6,_⟩:=seven_j hSw.x;go_simp;try with_reducible rfl
   simp only [Act.put,sA,sB,sC];refine ltk (i:=1) (some 10) rfl rfl (v:= ?v1a) ?hy1a hS ?rest1a
   case hy1a=>intro w0 hSw;obtain⟨e0,e1,e2,e3,e4,e5,e6,_⟩:=seven_j hSw.x;go_simp;try with_reducible rfl
   simp only [Act.put,sA,sB,sC];refine wpAnyD_one (i:=2) (by kernel_rfl) rfl (fun K hK=>?_);go_simp;go_at_call 254;have hcall:=HSp.out V (HE.out.below HBV.out);rw [HS.out] at hcall;refine hcall.mono ?_;clear hcall;rintro e w1 ⟨P,c,rfl,hc,hn,hb⟩;have HB1:=hid (below_out HBV.out hb);have HNm:=hid hn;have HC:=hid hc;have hS5:=hS.below hb;clear hb hn hc;refine hK _ _ ⟨fun _=>hS5,?_⟩;clear hK K;replace hS:=hS5;clear hS5;refine wpAnyD_one (i:=3) (by kernel_rfl) rfl (fun K hK=>?_);go_simp;go_at_call 253;have hcall:=HFo.out t w1 N _ P c (Nat.le_trans hN HB1.out.size) HF.out (HE.out.below HB1.out) (HV.out.below (HB1.out.mono hN)) HNm.out HC.out;rw [HG.out] at hcall;refine hcall.mono ?_;clear hcall;rintro e w2 ⟨cs2,rfl,hv2,hb⟩;have HB2:=hid (below_out HB1.out hb);have hS5:=hS.below hb;have HV2:=hid hv2;obtain⟨u1,u2,u3,u4,u5,u6,u7,u8,u9,u10,u11,rfl⟩:=hv2.form;clear hb hv2;refine hK _ _ ⟨fun _=>hS5,?_⟩;clear hK K;replace hS:=hS5;clear hS5;refine ltk (i:=4) (some 13) rfl rfl (v:= ?v4a) ?hy4a hS ?rest4a
   case hy4a=>intro w0 hSw;obtain⟨e0,e1,e2,e3,e4,e5,e6,_⟩:=seven_j hSw.x;go_simp;try with_reducible rfl
   simp only [Act.put,sA,sB,sC];refine ltk (i:=5) (some 14) rfl rfl (v:= ?v5a) ?hy5a hS ?rest5a
   case hy5a=>intro w0 hSw;obtain⟨e0,e1,e2,e3,e4,e5,e6,_⟩:=seven_j hSw.x;go_simp;try with_reducible rfl
   simp only [Act.put,sA,sB,sC];have HSe:=hid hS;obtain⟨v0,v1,v2,v3,v4,v5,v6,vz⟩:=seven_j hS.y;have vz0:=vz 0;have vz1:=vz 1;have vz2:=vz 2;have vz3:=vz 3;have vz4:=vz 4;have vz5:=vz 5;have vz6:=vz 6;clear vz;clear hS;refine late_over (by kernel_rfl) ?_;refine any_one (i:=6) (by kernel_rfl) rfl (fun K hK=>?_);go_simp;refine hK _ _ ?_;clear hK K;refine atk (i:=7) (some 5) rfl rfl (v:= ?v7a) ?hy7a ?rest7a
   case hy7a=>intro w0;go_simp;try with_reducible rfl
   simp only [Act.put,sA,sB,sC];refine any_done (by kernel_rfl) ?_ _;refine NoPanic.normal ?_;go_wp2
   (try simp only [Exit.inBlock,Exit.then])
   refine bodyPost_ret (results_val2 rfl _ _ _ 57 _ (0,0) rfl (seven_put (has_seven HSe.out.y) _ _ _ _ _ _ _) rfl) rfl ?_;exact⟨_,rfl,HV2.out.below (below_sevenN (Below.refl N w2) (Nat.le_trans hN (Nat.le_succ _)) _ _ _ _ _ _ _),below_seven HB2.out (Nat.le_succ _) _ _ _ _ _ _ _⟩
open Go.RowKit Go.Maps
theorem contains_one (k x:Int):([k].take 1).contains x=decide (x=k):=by
 simp only [List.take_succ_cons,List.take_zero,List.contains_cons,List.contains_nil,Bool.or_false];by_cases h:x=k <;> simp [h]
theorem heap_alloc_old (w:World) (o:Obj) (k:Nat) (h:k<w.heap.size):(w.alloc o).heap[k]?=w.heap[k]?:=(below_new w o).block k h
theorem cells_old {w:World}{o:Obj}{g:Nat}{c0 c1 c2 c3 c4 c5 c6:Value}{T:TypeId} (h:w.heap[g]?=some (.cells #[c0,c1,c2,c3,c4,c5,c6] T (0,0))):(w.alloc o).heap[g]?=some (.cells #[c0,c1,c2,c3,c4,c5,c6] T (0,0)):=(heap_alloc_old w o g (lt_of_heap h)).trans h
theorem findKind_any (k:Int) (t:JV) (p:B) (hp:p.length≤1048577) (w:World) (N g o:Nat) (cs:List Value) (hN:N≤w.heap.size) (hf:Fits_k t) (hE:Env_k w) (hv:ValB_k w N t cs) (hk:w.cell? ⟨g,o,none⟩=some (.int .i64 k)):Calls Tryz.prog 201 #[.agg cs.toArray,.string (str p),.slice (some ⟨g,o,none⟩) 1 1] w fun e w'=>ToldV_k N (ofKind k (goto t (steps p))).1 (ofKind k (goto t (steps p))).2 w e w':=by
 obtain⟨k1,k2,k3,k4,k5,k6,k7,k8,k9,k10,k11,rfl⟩:=hv.form;have HFi:=hid (find_any t p hp);obtain⟨S,hS⟩:∃ S,str p=S:=⟨_,rfl⟩;have HS:=hid hS;rw [hS];have HF:=hid hf;have HE:=hid hE;have HV:=hid hv;have HN:=hid hN;have HK:=hid hk;obtain⟨W0,hW0⟩:∃ W0,W0=((w.alloc (C7 k1 k2 k3 k4 k5 k6 k7 k8 k9 k10 k11)).alloc (.cells #[.int .i64 0,.bool false,.string ⟨#[]⟩,.int .i64 0,.bool false,.slice none 0 0,.slice none 0 0] 57 (0,0))):=⟨_,rfl⟩;have HB0:=hid (show Below w.heap.size w W0 from by rw [hW0];exact(two_at_k w _ _).2.2);have HX0:=hid (show Fb W0 w.heap.size (C7 k1 k2 k3 k4 k5 k6 k7 k8 k9 k10 k11) from by rw [hW0];exact⟨(two_at_k w _ _).1,(two_at_k w _ _).2.1⟩);have HN0:=hid (show N≤W0.heap.size from Nat.le_trans hN HB0.out.size);have HW0:=hid hW0;obtain⟨G,hG⟩:∃ G,goto t (steps p)=G:=⟨_,rfl⟩;have HG:=hid hG;rw [hG];clear hf hE hv hp hG hS hW0 hN hk;cases G with
 |none=>
  show Calls _ _ _ _ fun e w'=>ToldV_k N JV.zero 8 w e w'
  go_enter Tryz.func201,Tryz.ntmps201;go_wp2_with (go_at_call 202;have hcall:=HFi.out W0 N _ HN0.out HF.out (HE.out.below HB0.out) (HV.out.below (HB0.out.mono HN.out));rw [HG.out,HS.out] at hcall;rw [←HW0.out];(with_reducible refine hcall.mono ?_);clear hcall;rintro e w1 ⟨cs1,rfl,hv1,hb⟩;have HB1:=hid (below_out HB0.out hb);have HY1:=hid (kB hb HX0.out.y);have HX1:=hid (HX0.out.below hb);have HK1:=hid (cell_keep HB1.out HK.out);have HV1:=hid hv1;rw [show errOf (codeN (none:Option JV))= .iface 63 (.int .i64 8) from rfl];obtain⟨u1,u2,u3,u4,u5,u6,u7,u8,u9,u10,u11,rfl⟩:=hv1.form;obtain⟨y0,y1,y2,y3,y4,y5,y6,yz⟩:=seven_j (cells_old (o:=C7 u1 u2 u3 u4 u5 u6 u7 u8 u9 u10 u11) HY1.out);have yz0:=yz 0;have yz1:=yz 1;have yz2:=yz 2;have yz3:=yz 3;have yz4:=yz 4;have yz5:=yz 5;have yz6:=yz 6;clear yz;clear hb hv1)
  (try simp only [Exit.inBlock,Exit.then])
  refine bodyPost_ret (results_val2 rfl _ _ _ 57 _ (0,0) rfl (seven_put (has_seven (cells_old HY1.out)) _ _ _ _ _ _ _) rfl) rfl ?_;exact told_zero (HB1.out.trans ((below_new w1 _).mono HB1.out.size)) (Nat.le_succ _)
 |some v=>
  obtain⟨xk,xb,xt,xn,xh,xl,xs⟩:=v;have HCo:=hid (contains_one k xk);by_cases hkk:xk=k
  · have e1:ofKind k (some (.mk xk xb xt xn xh xl xs))=(.mk xk xb xt xn xh xl xs,0):=by simp [ofKind,JV.kind,hkk]
    rw [e1];have d1:decide (xk=k)=true:=by simpa using hkk
    rw [d1] at HCo;clear e1 hkk d1;go_enter Tryz.func201,Tryz.ntmps201;go_wp2_with (first
     |(go_at_call 202;have hcall:=HFi.out W0 N _ HN0.out HF.out (HE.out.below HB0.out) (HV.out.below (HB0.out.mono HN.out));rw [HG.out,HS.out] at hcall;rw [←HW0.out];(with_reducible refine hcall.mono ?_);clear hcall;rintro e w1 ⟨cs1,rfl,hv1,hb⟩;have HB1:=hid (below_out HB0.out hb);have HY1:=hid (kB hb HX0.out.y);have HX1:=hid (HX0.out.below hb);have HK1:=hid (cell_keep HB1.out HK.out);have HV1:=hid hv1;rw [show errOf (codeN (some (JV.mk xk xb xt xn xh xl xs)))= .nilIface from rfl];replace hv1:ValB_k w1 N (.mk xk xb xt xn xh xl xs) cs1:=hv1;obtain⟨p1,c1,p2,c2,rfl,_,_⟩:=hv1.open;obtain⟨y0,y1,y2,y3,y4,y5,y6,yz⟩:=seven_j (cells_old (o:=C7 xk xb xt xn xh p1 xl.length c1 p2 xs.length c2) HY1.out);have yz0:=yz 0;have yz1:=yz 1;have yz2:=yz 2;have yz3:=yz 3;have yz4:=yz 4;have yz5:=yz 5;have yz6:=yz 6;clear yz;clear hb hv1)
     |(go_at_call 252;have hcall:=Tryz.slices_Contains_int g o 1 1 [k] xk (w1.alloc (C7 xk xb xt xn xh p1 xl.length c1 p2 xs.length c2)) (by simp) (by omega) (fun j hj=>by obtain rfl:j=0:=(by simpa using hj);exact cell_keep (below_new w1 _) HK1.out);rw [HCo.out] at hcall;(with_reducible refine hcall.mono ?_);clear hcall;rintro e w2 ⟨rfl,rfl⟩))
    (try simp only [Exit.inBlock,Exit.then])
    refine bodyPost_ret (results_val2 rfl _ _ _ 57 _ (0,0) rfl (seven_put (has_seven (cells_old HY1.out)) _ _ _ _ _ _ _) rfl) rfl ?_;exact⟨_,rfl,HV1.out.below (below_sevenN ((below_new w1 _).mono (Nat.le_trans HN.out HB1.out.size)) (Nat.le_trans HN.out (Nat.le_succ _)) _ _ _ _ _ _ _),below_seven (HB1.out.trans ((below_new w1 _).mono HB1.out.size)) (Nat.le_succ _) _ _ _ _ _ _ _⟩
  · have e1:ofKind k (some (.mk xk xb xt xn xh xl xs))=(.zero,7):=by simp [ofKind,JV.kind,hkk]
    rw [e1];have d1:decide (xk=k)=false:=by simpa using hkk
    rw [d1] at HCo;clear e1 hkk d1;go_enter Tryz.func201,Tryz.ntmps201;go_wp2_with (first
     |(go_at_call 202;have hcall:=HFi.out W0 N _ HN0.out HF.out (HE.out.below HB0.out) (HV.out.below (HB0.out.mono HN.out));rw [HG.out,HS.out] at hcall;rw [←HW0.out];(with_reducible refine hcall.mono ?_);clear hcall;rintro e w1 ⟨cs1,rfl,hv1,hb⟩;have HB1:=hid (below_out HB0.out hb);have HY1:=hid (kB hb HX0.out.y);have HX1:=hid (HX0.out.below hb);have HK1:=hid (cell_keep HB1.out HK.out);have HV1:=hid hv1;rw [show errOf (codeN (some (JV.mk xk xb xt xn xh xl xs)))= .nilIface from rfl];replace hv1:ValB_k w1 N (.mk xk xb xt xn xh xl xs) cs1:=hv1;obtain⟨p1,c1,p2,c2,rfl,_,_⟩:=hv1.open;obtain⟨y0,y1,y2,y3,y4,y5,y6,yz⟩:=seven_j (cells_old (o:=C7 xk xb xt xn xh p1 xl.length c1 p2 xs.length c2) HY1.out);have yz0:=yz 0;have yz1:=yz 1;have yz2:=yz 2;have yz3:=yz 3;have yz4:=yz 4;have yz5:=yz 5;have yz6:=yz 6;clear yz;clear hb hv1)
     |(go_at_call 252;have hcall:=Tryz.slices_Contains_int g o 1 1 [k] xk (w1.alloc (C7 xk xb xt xn xh p1 xl.length c1 p2 xs.length c2)) (by simp) (by omega) (fun j hj=>by obtain rfl:j=0:=(by simpa using hj);exact cell_keep (below_new w1 _) HK1.out);rw [HCo.out] at hcall;(with_reducible refine hcall.mono ?_);clear hcall;rintro e w2 ⟨rfl,rfl⟩))
    (try simp only [Exit.inBlock,Exit.then])
    refine bodyPost_ret (results_val2 rfl _ _ _ 57 _ (0,0) rfl (seven_put (has_seven (cells_old HY1.out)) _ _ _ _ _ _ _) rfl) rfl ?_;exact⟨_,rfl,zero_b _ _,below_seven (HB1.out.trans ((below_new w1 _).mono HB1.out.size)) (Nat.le_succ _) _ _ _ _ _ _ _⟩
theorem all_step {ns ms:List B}{i:Nat} (h:i<ns.length):(ns.take (i+1)).all (ms.contains ·)=((ns.take i).all (ms.contains ·) && ms.contains ns[i]):=by
 rw [List.take_add_one,List.getElem?_eq_getElem h,List.all_append];simp
theorem all_stop {ns ms:List B}{i:Nat} (h:i<ns.length) (hc:ms.contains ns[i]=false):ns.all (ms.contains ·)=false:=by
 rw [List.all_eq_false];exact⟨ns[i],List.getElem_mem h,by simpa using hc⟩
theorem only_any (t:JV) (p:B) (hp:p.length≤1048577) (ms:List B) (hm:ms.length≤1048576) (hmz:∀ z∈ms,z.length≤1048576) (w:World) (N:Nat) (cs:List Value) (p3:Option Addr) (c3:Nat) (hN:N≤w.heap.size) (hf:Fits_k t) (hE:Env_k w) (hv:ValB_k w N t cs) (h3:NamesOn w ms p3):Calls Tryz.prog 122 #[.agg cs.toArray,.string (str p),.slice p3 ms.length c3] w fun e w'=>e= .returned (errOf (onlyN (ofKind 6 (goto t (steps p))) ms))∧Below w.heap.size w w':=by
 obtain⟨k1,k2,k3,k4,k5,k6,k7,k8,k9,k10,k11,rfl⟩:=hv.form;have HFk:=hid (findKind_any 6 t p hp);obtain⟨S,hS⟩:∃ S,str p=S:=⟨_,rfl⟩;have HS:=hid hS;rw [hS];have HF:=hid hf;have HE:=hid hE;have HV:=hid hv;have HN:=hid hN;have HM3:=hid h3;have HMZ:=hid hmz;obtain⟨n3,e3⟩:∃ n3,ms.length=n3:=⟨_,rfl⟩;have HN3:=hid e3;rw [e3] at hm ⊢;obtain⟨W1,hW1⟩:∃ W1,W1=((w.alloc (C7 k1 k2 k3 k4 k5 k6 k7 k8 k9 k10 k11)).alloc (.cells #[.int .i64 6] 3 (0,0))):=⟨_,rfl⟩;have HB0:=hid (show Below w.heap.size w W1 from by rw [hW1];exact(two_at_k w _ _).2.2);have HCell:=hid (show W1.cell? ⟨w.heap.size+1,0,none⟩=some (.int .i64 6) from by have:=(two_at_k w (C7 k1 k2 k3 k4 k5 k6 k7 k8 k9 k10 k11) (.cells #[.int .i64 6] 3 (0,0))).2.1;rw [←hW1] at this;simp [World.cell?,this]);have HN1:=hid (show N≤W1.heap.size from Nat.le_trans hN HB0.out.size);have HW1:=hid hW1;obtain⟨G,hG⟩:∃ G,ofKind 6 (goto t (steps p))=G:=⟨_,rfl⟩;have HG:=hid hG;rw [hG];have hG2:G.2≠0∨G.2=0:=by omega
 have HFx:=hid (show Fits_k G.1 from by rw [←hG];exact fits_kind t (steps p) hf);clear hf hE hv hp hG hS hW1 hN h3 hmz e3;obtain⟨x,cd⟩:=G;simp only at hG2;rcases hG2 with h0|rfl
 · have e1:onlyN (x,cd) ms=cd:=by simp [onlyN,h0]
   have HEr:=hid (errOf_pos h0);rw [e1];clear e1;go_enter Tryz.func122,Tryz.ntmps122;go_wp2_with (go_at_call 201;have hcall:=HFk.out W1 N (w.heap.size+1) 0 _ HN1.out HF.out (HE.out.below HB0.out) (HV.out.below (HB0.out.mono HN.out)) HCell.out;rw [HG.out,HS.out] at hcall;rw [←HW1.out];(with_reducible refine hcall.mono ?_);clear hcall;rintro e w1 ⟨cs1,rfl,hv1,hb⟩;have HB1:=hid (below_out HB0.out hb);have HV1:=hid hv1;rw [HEr.out];obtain⟨u1,u2,u3,u4,u5,u6,u7,u8,u9,u10,u11,rfl⟩:=hv1.form;clear hb hv1);go_ret;rw [HEr.out];exact⟨rfl,HB1.out.trans ((below_new w1 _).mono HB1.out.size)⟩
 · obtain⟨xk,xb,xt,xn,xh,xl,xs⟩:=x;have HOn:=hid (show onlyN (.mk xk xb xt xn xh xl xs,0) ms=if xs.all (ms.contains ·) then 0 else 10 from by simp [onlyN,JV.names]);simp only [Fits_k] at HFx;obtain⟨n2,e2⟩:∃ n2,xs.length=n2:=⟨_,rfl⟩;have HN2:=hid e2;have hn2:n2≤1048576:=by rw [←e2];exact HFx.out.2.2.1
   have HZ2:=hid HFx.out.2.2.2.1;clear e2;have hmm:=@run_makeMap Tryz.prog;go_enter Tryz.func122,Tryz.ntmps122;go_wp2_with (go_at_call 201;have hcall:=HFk.out W1 N (w.heap.size+1) 0 _ HN1.out HF.out (HE.out.below HB0.out) (HV.out.below (HB0.out.mono HN.out)) HCell.out;rw [HG.out,HS.out] at hcall;rw [←HW1.out];(with_reducible refine hcall.mono ?_);clear hcall;rintro e w1 ⟨cs1,rfl,hv1,hb⟩;have HB1:=hid (below_out HB0.out hb);have HV1:=hid hv1;rw [errOf_zero];obtain⟨p1,c1,p2,c2,rfl,_,hnames⟩:=hv1.open;rw [HN2.out];have HNa:=hid hnames;clear hnames;clear hb hv1);clear hmm;have HM0:=hid (show SetAt ((w1.alloc (C7 xk xb xt xn xh p1 xl.length c1 p2 n2 c2)).alloc (.map #[] 0)) (w1.heap.size+1) [] from by have:=World.ownsMap_made (w1.alloc (C7 xk xb xt xn xh p1 xl.length c1 p2 n2 c2)) Tryz.prog 9 (unitElem (H:=Unit));rw [show (w1.alloc (C7 xk xb xt xn xh p1 xl.length c1 p2 n2 c2)).heap.size=w1.heap.size+1 by simp] at this;exact this);have HXB:=hid (show ((w1.alloc (C7 xk xb xt xn xh p1 xl.length c1 p2 n2 c2)).alloc (.map #[] 0)).heap[w1.heap.size]?=some (C7 xk xb xt xn xh p1 xl.length c1 p2 n2 c2) from(two_at_k w1 _ _).1);have HXL:=hid (show Below w1.heap.size w1 ((w1.alloc (C7 xk xb xt xn xh p1 xl.length c1 p2 n2 c2)).alloc (.map #[] 0)) from(two_at_k w1 _ _).2.2);have HXS:=hid (show ((w1.alloc (C7 xk xb xt xn xh p1 xl.length c1 p2 n2 c2)).alloc (.map #[] 0)).heap.size=w1.heap.size+1+1 from by simp);generalize ((w1.alloc (C7 xk xb xt xn xh p1 xl.length c1 p2 n2 c2)).alloc (.map #[] 0))=X at HM0 HXB HXL HXS ⊢;go_loopg [29] (n3+1) (fun gk s29 wr=>∃ i:Nat,i≤n3∧gk=n3-i+1∧s29= .int .i64 (i:Int)∧SetAt wr (w1.heap.size+1) (ms.take i)∧Below (w1.heap.size+1) X wr)
   case atStart=>exact⟨0,by omega,rfl,rfl,HM0.out,Below.refl _ _⟩
   case round=>
    obtain⟨i,hi,rfl,rfl,hs,hb⟩:=hrel;have HBr:=hid hb;have HSr:=hid hs;have HBw:=hid (show Below w.heap.size w wr from HB1.out.trans ((HXL.out.trans (hb.mono (Nat.le_succ _))).mono HB1.out.size));clear hs hb;by_cases hin:i<n3
    · have hi1:i<ms.length:=by rw [HN3.out];exact hin
      obtain⟨g,o,rfl,hc⟩:=HM3.out.below HBw.out i ms[i] (List.getElem?_eq_getElem hi1);have HTk:=hid (show ms.take (i+1)=ms.take i++ [ms[i]] from by rw [List.take_add_one,List.getElem?_eq_getElem hi1];rfl);have HZx:=hid (HMZ.out ms[i] (List.getElem_mem hi1));have HLen:=hid (show (ms.take i).length=i from by rw [List.length_take];omega);generalize ms[i]=y at hc HTk HZx;have HKey:=hid (Go.WideMaps.keyOf_string_mk (k:=9) Tryz.underlying9 (s:=str y) (show y.toArray.size≤maxLen by have:=HZx.out;unfold maxLen;simp;omega));clear hi1;go_wp2_with (at_mapUpdate;refine wpList_mapUpdate_own _ rfl _ _ _ 264 rfl 9 265 law Tryz.underlying264 (unitElem (H:=Unit)) (w1.heap.size+1) _ _ rfl HSr.out (by unfold maxLen;rw [HLen.out];omega) _ _ _ rfl rfl HKey.out _ [] unitElem_mk ?_;intro w2 hown hgrow;have HB2:=hid (HBr.out.trans (show Below (w1.heap.size+1) wr w2 from⟨hgrow.os,hgrow.tape,hgrow.output,hgrow.size,fun k hk=>hgrow.block k (Nat.lt_of_lt_of_le hk (Nat.le_trans (by rw [HXS.out];omega) HBr.out.size)) (by simp;omega)⟩));have HS2:=hid (show SetAt w2 (w1.heap.size+1) (ms.take (i+1)) from(by rw [HTk.out];unfold SetAt;rw [List.map_append,List.map_cons,List.map_nil,Maps.setOf_snoc,List.length_append];exact hown));clear hown hgrow);go_roundg (n3-(i+1)+1)
      case measure=>omega
      case rel=>exact⟨i+1,by omega,rfl,by push_cast;rfl,HS2.out,HB2.out⟩
    · obtain rfl:i=n3:=by omega
      have e1:ms.take i=ms:=List.take_of_length_le (by rw [HN3.out];exact Nat.le_refl _);rw [e1] at HSr;clear e1;have hbx:=(HBr.out.block w1.heap.size (Nat.lt_succ_self _)).trans HXB.out;obtain⟨bx0,bx1,bx2,bx3,bx4,bx5,bx6,bxz⟩:=seven_j hbx;clear bxz;clear hbx;go_wp2;have HNw:=hid (HNa.out.below ((HXL.out.trans (HBr.out.mono (Nat.le_succ _))).mono (Nat.le_trans HN.out HB1.out.size)));go_loopg [40] (n2+1) (fun gk s40 ur=>∃ j:Nat,j≤n2∧gk=n2-j+1∧s40= .int .i64 (j:Int)∧(xs.take j).all (ms.contains ·)=true∧Below wr.heap.size wr ur)
      case atStart=>exact⟨0,by omega,rfl,rfl,rfl,Below.refl _ _⟩
      case round=>
       obtain⟨j,hj,rfl,rfl,hall,hbu⟩:=hrel
       rename World=>ur
       have HBu:=hid hbu;have HAll:=hid hall;have HSu:=hid (show SetAt ur (w1.heap.size+1) ms from World.ownsMap.kept HSr.out (show wr.grownBy ur none from⟨hbu.os,hbu.tape,hbu.output,hbu.size,fun k hk _=>hbu.block k hk⟩) (by simp));clear hall hbu;by_cases hjn:j<n2
       · have hj1:j<xs.length:=by rw [HN2.out];exact hjn
         obtain⟨g2,o2,rfl,hg2,hc2⟩:=HNw.out.below (HBu.out.mono (Nat.le_trans HN.out HBw.out.size)) j xs[j] (List.getElem?_eq_getElem hj1);have HStep:=hid (all_step (ms:=ms) hj1);have HStop:=hid (all_stop (ms:=ms) hj1);have HZy:=hid (HZ2.out xs[j] (List.getElem_mem hj1));unfold maxI_k at HZy;generalize xs[j]=y at hc2 HStep HStop HZy;have HKey:=hid (Go.WideMaps.keyOf_string_mk (k:=9) Tryz.underlying9 (s:=str y) (show y.toArray.size≤maxLen by have:=HZy.out;unfold maxLen;simp;omega));clear hj1;cases hcon:ms.contains y with
         |true=>
          rw [hcon] at HStep;have HF1:=hid hcon;clear hcon;go_wp2_with (at_lookup;refine wpList_lookup_own_unit _ rfl _ _ 264 rfl 9 265 law Tryz.underlying264 (zeroU _) (w1.heap.size+1) ms.length _ rfl HSu.out _ _ rfl HKey.out ?_;rw [has_names,HF1.out]);go_roundg (n2-(j+1)+1)
          case measure=>omega
          case rel=>exact⟨j+1,by omega,rfl,by push_cast;rfl,by rw [HStep.out,HAll.out];rfl,HBu.out.trans ((below_new ur _).mono HBu.out.size)⟩
         |false=>
          have HF1:=hid hcon;have HEnd:=hid (HStop.out hcon);clear hcon;go_wp2_with (at_lookup;refine wpList_lookup_own_unit _ rfl _ _ 264 rfl 9 265 law Tryz.underlying264 (zeroU _) (w1.heap.size+1) ms.length _ rfl HSu.out _ _ rfl HKey.out ?_;rw [has_names,HF1.out]);go_ret;rw [HOn.out,HEnd.out];exact⟨rfl,HBw.out.trans ((HBu.out.trans ((below_new ur _).mono HBu.out.size)).mono HBw.out.size)⟩
       · obtain rfl:j=n2:=by omega
         have e1:xs.take j=xs:=List.take_of_length_le (by rw [HN2.out];exact Nat.le_refl _);rw [e1] at HAll;clear e1;go_wp2;go_ret;rw [HOn.out,HAll.out];exact⟨rfl,HBw.out.trans (HBu.out.mono HBw.out.size)⟩
theorem names_own {w:World}{base:Nat}{v:Value}{ns:List B} (h:w.ownsRow base 9 1 v ns.length (strC ns)):∃ p c,v= .slice p ns.length c∧ns.length≤c∧NamesOn w ns p∧∀ a,p=some a→base≤a.block:=by
 rcases h.2 with ⟨h1,h2⟩|⟨g,cap,cur,h1,h2,h3,h4,_,h6,h7⟩
 · have h0:ns= []:=List.eq_nil_of_length_eq_zero h2;subst h0;exact⟨none,0,h1,Nat.le_refl _,fun j t hj=>(by simp at hj),fun a h=>(by cases h)⟩
 · refine⟨_,cap,h1,h4,fun j t hj=>⟨g,0,rfl,?_⟩,fun a h=>by simp only [Option.some.injEq] at h;rw [←h];exact h2⟩;have hlt:j<ns.length:=(List.getElem?_eq_some_iff.1 hj).1;have e:(cur.toList.take (ns.length*1))[j]?=some (.string (str t)):=by
    rw [h7];simp [strC,hj]
   rw [List.getElem?_take] at e;rw [if_pos (by omega)] at e;simp only [Nat.zero_add];simp only [World.cell?,h3];simpa using e
theorem info_parts {P:Program}{t:TypeId}{z:Option Value}{s b:Nat} (h:(P.info? t).map (fun i=>(i.zero,i.size,i.bytes))=some (z,s,b)):∃ i,P.info? t=some i∧i.zero=z∧i.size=s∧i.bytes=b:=by
 cases e:P.info? t with
 |none=>rw [e] at h;cases h
 |some i=>
  rw [e] at h;simp only [Option.map_some,Option.some.injEq,Prod.mk.injEq] at h;exact⟨i,rfl,h.1,h.2.1,h.2.2⟩
theorem own_form {w:World}{base n m:Nat}{e:TypeId}{u:Value}{ys:List Value} (h:w.ownsRow base e m u n ys):∃ p c,u= .slice p n c:=by
 rcases h.2 with ⟨h1,h2⟩|⟨g,cap,cur,h1,_⟩
 · exact⟨none,0,by rw [h1,h2]⟩
 · exact⟨_,_,h1⟩
end Go.Proofs.YtlmefgjhbohjlaaGreatDoor
