/- The program: the number of a host's pattern's group, which is new where no route had it. -/
import Derived.Test.YtlmlljlappjjjaaGreatDoorQMeets
namespace Go.Proofs.YtlmlljlappjjjaaGreatDoor
set_option maxRecDepth 20000
set_option maxHeartbeats 16000000
open Go.RowKit Go.Maps
def idxI (l:List B) (y:B):Int:=if y∈l then (l.idxOf y:Int) else -1
theorem idx_hit {l:List B}{i:Nat}{x y:B} (hx:l[i]?=some x) (e:y=x) (hn:∀ z∈l.take i,¬z=y):idxI l y=(i:Int):=by
 subst e;unfold idxI;rw [if_pos (List.mem_of_getElem? hx)];obtain⟨h1,h2⟩:=List.getElem?_eq_some_iff.1 hx;congr 1;have e1:l=l.take i++y::l.drop (i+1):=by rw [←h2,←List.drop_eq_getElem_cons h1,List.take_append_drop]
 have h3:y∉l.take i:=fun h=>hn y h rfl
 rw [e1,List.idxOf_append,if_neg h3,List.idxOf_cons_self,List.length_take];omega
theorem idx_none {l:List B}{i:Nat}{y:B} (hi:i=l.length) (hn:∀ z∈l.take i,¬z=y):idxI l y= -1:=by
 subst hi;rw [List.take_length] at hn;exact if_neg (fun h=>hn y h rfl)
theorem qidx_any (l:List B) (p:Option Addr) (n c:Nat) (hn:l.length=n) (hnn:n≤140737488355328) (y:B) (w:World) (hT:TxAt w p l):Calls Tryz.prog 75 #[.slice p n c,.string (str y)] w fun e w'=>e= .returned (.int .i64 (idxI l y))∧w'=w:=by
 have HN:=hid hn;have HT:=hid hT;obtain⟨Y,hY⟩:∃ Y,str y=Y:=⟨_,rfl⟩;have HY:=hid hY;rw [hY];clear hn hT hY;go_enter Tryz.func75,Tryz.ntmps75;go_wp2;go_loopg [8] (n+1) (fun gk s8 wr=>∃ i:Nat,i≤n∧gk=n-i+1∧s8= .int .i64 (i:Int)∧(∀ z∈l.take i,¬z=y)∧wr=w)
 case atStart=>exact⟨0,by omega,rfl,rfl,by simp,rfl⟩
 case round=>
  obtain⟨i,hi,rfl,rfl,hno,rfl⟩:=hrel;have HNo:=hid hno;clear hno;by_cases hin:i<n
  · obtain⟨a,ha⟩:∃ a,l[i]?=some a:=⟨_,List.getElem?_eq_getElem (by rw [HN.out];exact hin)⟩;obtain⟨g,o,rfl,hc⟩:=HT.out i a ha;obtain⟨Sa,hSa⟩:∃ S,str a=S:=⟨_,rfl⟩;rw [hSa] at hc;have HA:=hid ha;by_cases hab:y=a
    · obtain rfl:Sa=Y:=by rw [←hSa,←HY.out,hab]
      have HR:=hid (idx_hit ha hab HNo.out);clear ha hSa hab;go_wp2;go_ret;exact⟨by rw [HR.out];rfl,rfl⟩
    · have hS:¬Y=Sa:=fun h=>hab (str_inj (by rw [HY.out,hSa,h]))
      have hS4:(Y.toList== Sa.toList)=false:=ne_list hS;have HR:=hid (show ∀ z∈l.take (i+1),¬z=y from by
       intro z hz;rw [take_snoc_q l i a ha,List.mem_append,List.mem_singleton] at hz;rcases hz with hz|hz
       · exact HNo.out z hz
       · rw [hz];exact fun e=>hab e.symm)
      clear ha hSa hab;go_wp2;go_roundg (n-(i+1)+1)
      case measure=>omega
      case rel=>exact⟨i+1,by omega,rfl,by push_cast;go_num,HR.out,rfl⟩
  · obtain rfl:n=i:=by omega
    have HR:=hid (idx_none HN.out.symm HNo.out);go_wp2;go_ret;exact⟨by rw [HR.out];rfl,rfl⟩
def grpA (gs:List B) (h:B):List B:=if h∈gs then gs else gs++ [h]
theorem grpA_at (gs:List B) (h:B):(grpA gs h)[(grpA gs h).idxOf h]?=some h:=by
 have hm:h∈grpA gs h:=by
  unfold grpA;split
  · assumption
  · simp
 rw [List.getElem?_eq_getElem (List.idxOf_lt_length_of_mem hm),List.getElem_idxOf]
theorem grp_new {gs:List B}{h:B} (hn:h∉gs):(grpA gs h).idxOf h=gs.length:=by
 unfold grpA;rw [if_neg hn,List.idxOf_append,if_neg hn,List.idxOf_cons_self];omega
theorem idxP_fst (gs:List B):(idxP gs).map (·.1)=gs:=by
 unfold idxP;rw [List.map_map];refine List.ext_getElem? fun i=>?_
 rw [List.getElem?_map,List.getElem?_zipIdx];cases gs[i]? <;> rfl
theorem host_add {gs:List B}{p:B}{x:List B} (hx:patH p=some x) (hn:lowH p∉gs) (h64:gs.length<64):addE (idxP gs) p=0∧addP (idxP gs) p (gs.length:Int)=idxP (gs++ [lowH p]):=by
 have e1:addE (idxP gs) p=0:=by
  unfold addE;rw [hx];rw [if_neg (by simp),if_neg,if_neg (by rw [idxP_len];omega)];intro h;obtain⟨q,h1,h2⟩:=List.any_eq_true.1 h;refine hn ?_;rw [←of_decide_eq_true h2,←idxP_fst gs];exact List.mem_map.2 ⟨q,h1,rfl⟩
 refine⟨e1,?_⟩;unfold addP;rw [e1,if_pos rfl,idxP_snoc]
theorem infoA:(Tryz.prog.info? 128).map (fun i=>(i.zero,i.size,i.bytes))=some (some (.pointer none),1,8):=by kernel_rfl
def FG:OwQ→Prop:=fun x=>x= .hst∨x= .pth∨x= .tbl
def GrpAns (b0:Nat) (w:World) (O:Nat→OwQ) (t gh m:Nat) (vr:Value) (wv:Nat→B→Value) (es:List EntX) (C:QC) (h:B) (e:Ending) (w':World):Prop:=
 ∃ O' vp' ts',e= .returned (.int .i64 ((grpA C.gs h).idxOf h:Nat))∧TblI b0 w' O' t gh m vp' vr ts' wv es {C with gs:=grpA C.gs h}∧ts'.length=(grpA C.gs h).length∧Chg O O' w w' FG
theorem mx_b0 {b0:Nat}{w w':World} (hx:0<b0) (hm:MxAt w) (hb:Below b0 w w'):MxAt w':=mx_below hm hb hx
theorem idx_cells {w:World}{t gh:Nat}{vp vr:Value}{m:Nat}{T:TypeId} (h:w.heap[t]?=some (.cells #[.pointer (some ⟨gh,0,none⟩),vp,.map (some m),vr] T (0,0))):w.cell? ⟨t,0,none⟩=some (.pointer (some ⟨gh,0,none⟩))∧w.cell? ⟨t,1,none⟩=some vp∧w.cell? ⟨t,2,none⟩=some (.map (some m))∧w.cell? ⟨t,3,none⟩=some vr∧∀ o,w.frozen? ⟨t,o,none⟩=false:=by
 refine⟨?_,?_,?_,?_,fun o=>frozen_of_row w t o _ T h⟩ <;> simp [World.cell?,h]
theorem pgroup_any {b0:Nat}{w:World}{O:Nat→OwQ}{t gh m:Nat}{vp vr:Value}{ts:List Nat}{wv:Nat→B→Value}{es:List EntX}{C:QC} (h:TblI b0 w O t gh m vp vr ts wv es C) (hs:b0≤w.heap.size) (hmx:MxAt w) (p:B) {x:List B} (hx:patH p=some x) (hl:ts.length=C.gs.length) (h64:lowH p∉C.gs→C.gs.length<64) (htp:C.tp C.gs.length= []):
  Calls Tryz.prog 59 #[.pointer (some ⟨t,0,none⟩),.string (str p)] w fun e w'=>GrpAns b0 w O t gh m vr wv es C (lowH p) e w':=by
 obtain⟨j0,hj0,hy0,hy1,hy2⟩:=info_parts infoA;have hp253:=pat_short hx;have HLo:=hid (fun W:World=>below_low p W hp253);have HAll:=hid (fun (W:World) (hT:TblI b0 W O t gh m vp vr ts wv es C)=>show Calls Tryz.prog 99 #[.pointer (some ⟨gh,0,none⟩)] W (fun e w'=>∃ q d,e= .returned (.slice q C.gs.length d)∧TxAt w' q C.gs∧Below W.heap.size W w') from by
  obtain⟨m1,v1,v2,L1,h1,_⟩:=hT.hst;refine(all_any h1).mono ?_;rintro e w' ⟨q,d,he,h2,h3⟩;rw [idxP_fst] at h2;rw [idxP_len] at he;exact⟨q,d,he,h2,h3⟩)
 have hlen:C.gs.length≤64:=by
  obtain⟨m1,v1,v2,L1,h1,_⟩:=h.hst;have:=h1.len
  rwa [idxP_len] at this
 have HIx:=hid (fun (W:World) (q:Option Addr) (d:Nat) (hT:TxAt W q C.gs)=>qidx_any C.gs q C.gs.length d rfl (by omega) (lowH p) W hT);have HS0:=hid hs;have HH:=hid h;have HMx:=hid hmx;obtain⟨c0,c1,c2,c3,cf⟩:=idx_cells h.bx;by_cases hm:lowH p∈C.gs
 · have hi:idxI C.gs (lowH p)=(C.gs.idxOf (lowH p):Int):=if_pos hm;have hg:grpA C.gs (lowH p)=C.gs:=if_pos hm;have HFin:=hid (show ∀ W,Below w.heap.size w W→GrpAns b0 w O t gh m vr wv es C (lowH p) (.returned (.int .i64 (C.gs.idxOf (lowH p):Nat))) W from fun W hb=>⟨O,vp,ts,by rw [hg],by rw [hg];exact HH.out.next HS0.out hb,by rw [hg];exact hl,Chg.of_below hb HH.out.lt⟩);rw [hi] at HIx;obtain⟨k,hk⟩:∃ k,C.gs.idxOf (lowH p)=k:=⟨_,rfl⟩;rw [hk] at HIx HFin;obtain⟨SP,hSP⟩:∃ S,str p=S:=⟨_,rfl⟩;obtain⟨SL,hSL⟩:∃ S,str (lowH p)=S:=⟨_,rfl⟩;rw [hSP] at HLo ⊢;rw [hSL] at HLo HIx;obtain⟨n,hn⟩:∃ n,C.gs.length=n:=⟨_,rfl⟩;rw [hn] at HAll HIx;clear hSP hSL hi hk hg hm hx htp h64 hl h hs hmx hn hlen;go_enter Tryz.func59,Tryz.ntmps59;go_wp2_with (first|(go_at_call 99;(with_reducible refine(HAll.out w HH.out).mono ?_);rintro e w1 ⟨q,d,rfl,hq,hb1⟩;have HQ:=hid hq;have HB1:=hid hb1;clear hq hb1)|(go_at_call 100;(with_reducible refine(HLo.out _).mono ?_);rintro e w2 ⟨rfl,hb2⟩;have HB2:=hid hb2;clear hb2)|(go_at_call 75;(with_reducible refine(HIx.out _ _ _ (HQ.out.next HB2.out)).mono ?_);rintro e w3 ⟨rfl,hw3⟩;subst w3));go_ret;exact HFin.out _ (below_out HB1.out HB2.out)
 · have hi:idxI C.gs (lowH p)= -1:=if_neg hm;have hg:grpA C.gs (lowH p)=C.gs++ [lowH p]:=if_neg hm;have h65:=h64 hm;obtain⟨ha1,ha2⟩:=host_add hx hm h65;have hwf:(Lit.int .i64 (C.gs.length:Int)).wf=true:=way_wf (by omega);have HLen:=hid (fun (W:World) (hT:TblI b0 W O t gh m vp vr ts wv es C)=>show Calls Tryz.prog 101 #[.pointer (some ⟨gh,0,none⟩)] W (fun e w'=>e= .returned (.int .i64 (C.gs.length:Int))∧w'=W) from by
    obtain⟨m1,v1,v2,L1,h1,_⟩:=hT.hst;have:=len_any h1
    rwa [idxP_len] at this)
   have HAdd:=hid (fun (W:World) (hs:b0≤W.heap.size) (hT:TblI b0 W O t gh m vp vr ts wv es C) (hM:MxAt W)=>show Calls Tryz.prog 102 #[.pointer (some ⟨gh,0,none⟩),.string (str p),.int .i64 (C.gs.length:Int)] W (fun e w'=>e= .returned .nilIface∧∃ O',TblI b0 w' O' t gh m vp vr ts wv es {C with gs:=C.gs++ [lowH p]}∧Chg O O' W w' (fun x=>x= .hst)) from by
    refine(addX_any hT.hst hM p (by omega) (C.gs.length:Int) hwf).mono ?_;rintro e w' ⟨he,k1,k2⟩;rw [ha1] at he;rw [ha2] at k1;exact⟨he,_,hT.addHost hs k1 k2⟩)
   have HNew:=hid (fun W:World=>new_any_r W);have HFin:=hid (fun (W:World) (e:Ending) (O':Nat→OwQ) (vp':Value) (ts':List Nat) (h1:e= .returned (.int .i64 (C.gs.length:Nat))) (h2:TblI b0 W O' t gh m vp' vr ts' wv es {C with gs:=C.gs++ [lowH p]}) (h3:ts'.length=ts.length+1) (h4:Chg O O' w W FG)=>show GrpAns b0 w O t gh m vr wv es C (lowH p) e W from⟨O',vp',ts',by rw [grp_new hm];exact h1,by rw [hg];exact h2,by rw [hg,h3,hl];simp,h4⟩);have HTp:=hid (show C.tp ts.length= [] from by rw [hl];exact htp);rw [hi] at HIx;obtain⟨pv,n1,cv,rfl⟩:=own_slice3 h.pth;obtain rfl:n1=ts.length:=row_lenH h.pth;have hts:ts.length≤64:=by omega
   obtain⟨SP,hSP⟩:∃ S,str p=S:=⟨_,rfl⟩;obtain⟨SL,hSL⟩:∃ S,str (lowH p)=S:=⟨_,rfl⟩;rw [hSP] at HLo HAdd ⊢;rw [hSL] at HLo HIx;obtain⟨n,hn⟩:∃ n,C.gs.length=n:=⟨_,rfl⟩;rw [hn] at HAll HIx HLen HAdd HFin;obtain⟨tn,htn⟩:∃ tn,ts.length=tn:=⟨_,rfl⟩;have HTn:=hid htn;rw [htn] at hts c1;have c1':w.cell? ⟨t,1,none⟩=some (.slice pv tn cv):=c1;clear hSP hSL hi hg hm hx htp h64 hl h hs hmx hn hlen ha1 ha2 h65 hwf c1 htn hp253 c2 c3 cf;go_enter Tryz.func59,Tryz.ntmps59;go_wp2_with (first|(go_at_call 99;(with_reducible refine(HAll.out w HH.out).mono ?_);rintro e w1 ⟨q,d,rfl,hq,hb1⟩;have HQ:=hid hq;have HB1:=hid hb1;clear hq hb1)|(go_at_call 100;(with_reducible refine(HLo.out _).mono ?_);rintro e w2 ⟨rfl,hb2⟩;have HB2:=hid (below_out HB1.out hb2);have HQ2:=hid (HQ.out.next hb2);have HT2:=hid (HH.out.next HS0.out HB2.out);have d0:=(idx_cells HT2.out.bx).1;clear hb2)|(go_at_call 75;(with_reducible refine(HIx.out _ _ _ HQ2.out).mono ?_);rintro e w3 ⟨rfl,hw3⟩;subst w3)|(go_at_call 101;(with_reducible refine(HLen.out _ HT2.out).mono ?_);rintro e w3 ⟨rfl,hw3⟩;subst w3)|(go_at_call 102;(with_reducible refine(HAdd.out _ (Nat.le_trans HS0.out HB2.out.size) HT2.out (HMx.out.next HB2.out)).mono ?_);rintro e w4 ⟨rfl,O4,hT4,hc4⟩;have HT4:=hid hT4;have HC4:=hid hc4;clear hT4 hc4));have HTX:=hid (HT4.out.next (Nat.le_trans (Nat.le_trans HS0.out HB2.out.size) HC4.out.kept.size) (below_drewH w4 1));have HCX:=hid (HC4.out.trans (Chg.of_below (below_drewH w4 1) HC4.out.lt));have hszX:w2.heap.size≤(w4.drewN 1).heap.size:=HCX.out.kept.size;obtain⟨X,hX⟩:∃ X,w4.drewN 1=X:=⟨_,rfl⟩;have hX2:w4.drew=X:=hX;rw [hX] at HTX HCX hszX;have hS0d:X.cell? ⟨t,1,none⟩=some (.slice pv tn cv):=by have:=(idx_cells HTX.out.bx).2.1;rw [HTn.out] at this;exact this
   refine wp_region_noPanic ?_;refine any_begin 11 (by kernel_rfl) (by kernel_rfl) ?_;rw [hX2];refine late_begin (fun U=>U.cell? ⟨t,1,none⟩=some (.slice pv tn cv)) (fun i=>i== 10) hS0d (fun hS=>?_);refine ltk (i:=0) (some 30) rfl rfl (v:= ?v0d) ?hy0d hS ?rest0d
   case hy0d=>intro w0 hSw;go_simp;try with_reducible rfl
   simp only [Act.put,sA,sB,sC];refine ltk (i:=1) (some 31) rfl rfl (v:= ?v1d) ?hy1d hS ?rest1d
   case hy1d=>intro w0 hSw;go_simp;try with_reducible rfl
   simp only [Act.put,sA,sB,sC];refine ltk (i:=2) (some 32) rfl rfl (v:= ?v2d) ?hy2d hS ?rest2d
   case hy2d=>intro w0 hSw;go_simp;try with_reducible rfl
   simp only [Act.put,sA,sB,sC];refine ltk (i:=3) (some 33) rfl rfl (v:= ?v3d) ?hy3d hS ?rest3d
   case hy3d=>intro w0 hSw;go_simp;try with_reducible rfl
   simp only [Act.put,sA,sB,sC];refine ltk (i:=4) (some 34) rfl rfl (v:= ?v4d) ?hy4d hS ?rest4d
   case hy4d=>intro w0 hSw;go_simp;try with_reducible rfl
   simp only [Act.put,sA,sB,sC];refine wpAnyD_one (i:=5) (by kernel_rfl) rfl (fun K hK=>?_);go_simp;go_at_call 103
   (with_reducible refine(HNew.out _).mono ?_)
   rintro e w5 ⟨rfl,hTr5,hb5⟩;have HC5:=hid (Chg.take (F:=fun _=>False) (Below.kept hb5) HTX.out.lt (.tri ts.length));have HT5:=hid (HTX.out.step HC5.out (Nat.le_trans (Nat.le_trans HS0.out HB2.out.size) hszX) (fun _ _ h=>h));have HR5:=hid (show TrX w5 (fun k=>takeQ O4 X.heap.size w5.heap.size (.tri ts.length) k= .tri ts.length) X.heap.size [] 0 from⟨_,_,_,hTr5,fun i hi=>take_new _ _ (by rw [ft_new_r hi];exact Nat.le_refl _) (hTr5.ft_lt hi)⟩);have hs5:X.heap.size≤w5.heap.size:=hb5.size;obtain⟨O5,hO5⟩:∃ O5,takeQ O4 X.heap.size w5.heap.size (.tri ts.length)=O5:=⟨_,rfl⟩;rw [hO5] at HC5 HT5 HR5;have hS1d:w5.cell? ⟨t,1,none⟩=some (.slice pv tn cv):=cell_keep hb5 hS0d;have hS2d:(w5.alloc (.cells #[.pointer (some ⟨X.heap.size,0,none⟩)] 128 (0,0))).cell? ⟨t,1,none⟩=some (.slice pv tn cv):=cell_keep (below_new _ _) hS1d;clear hTr5 hb5 hO5;refine hK _ _ ⟨fun _=>hS1d,?_⟩;clear hK K;try simp only [Act.put,sA,sB,sC]
   refine wpAnyD_one (i:=6) (by kernel_rfl) rfl (fun K hK=>?_);go_simp;refine hK _ _ ⟨fun _=>hS2d,?_⟩;clear hK K;try simp only [Act.put,sA,sB,sC]
   refine wpAnyD_one (i:=7) (by kernel_rfl) rfl (fun K hK=>?_);rw [if_pos (by rfl)];refine wp_append_own_at (.tmp 34) (.tmp 36) 79 rfl 0 128 j0 _ 1 8 Tryz.underlying79 hj0 hy0 hy1 hy2 rfl (by decide) (.slice pv tn cv) tn (ts.flatMap fun b:Nat=>[.pointer (some ⟨b,0,none⟩)]) (by go_simp) (by have h8:=HT5.out.pth.alloc (.cells #[.pointer (some ⟨X.heap.size,0,none⟩)] 128 (0,0));unfold OwnR at h8;rw [HTn.out] at h8;exact h8) ⟨w5.heap.size,0,none⟩ 1 1 [.pointer (some ⟨X.heap.size,0,none⟩)] (by go_simp) rfl (cells_new w5 _ _) (by simp [Value.oneCell']) (by unfold maxLen;omega) (by omega) (Nat.zero_le _) ?_;intro v7 w7 hown hgr hvv;obtain⟨p7,L7,c7,rfl⟩:=own_slice3 hown;have HO7:=hid (show OwnA w7 0 (.slice p7 L7 c7) (ts++ [X.heap.size]) from OwnR.put HTn.out hown);have hown5:(Value.slice pv tn cv).ownBlock=(Value.slice pv ts.length cv).ownBlock:=by rw [HTn.out]
   obtain⟨hT7,hC7⟩:=HT5.out.addPath (Nat.le_trans (Nat.le_trans (Nat.le_trans HS0.out HB2.out.size) hszX) hs5) (Mi:=0) (by show TrX _ _ _ (C.tp ts.length) 0;rw [HTp.out];exact HR5.out) (Nat.zero_le _) (by rw [←hown5];exact hgr) HO7.out (hvv.imp (fun e=>e.trans hown5) (fun e=>e));have HT7:=hid hT7;have HC7:=hid hC7;clear hT7 hC7;have hbt:=(grown_blk hgr (lt_of_heap HT5.out.bx) (fun e=>by have:=HT5.out.opt t (by rw [←hown5];exact e);rw [HT5.out.ot] at this;cases this)).trans HT5.out.bx;have hS3d:w7.cell? ⟨t,1,none⟩=some (.slice pv tn cv):=by have:=(idx_cells hbt).2.1;rw [HTn.out] at this;exact this
   have hfz7:=(idx_cells hbt).2.2.2.2 1;obtain⟨O7,hO7⟩:∃ O7,takeQ O5 w5.heap.size w7.heap.size .pth=O7:=⟨_,rfl⟩;rw [hO7] at HC7 HT7;clear hown hgr hvv hbt hown5 hO7;refine hK _ _ ⟨fun _=>hS3d,?_⟩;clear hK K;simp only [Act.put,sA];refine wpAnyD_one (i:=8) (by kernel_rfl) rfl (fun K hK=>?_);go_simp;refine hK _ _ ⟨fun _=>hS3d,?_⟩;clear hK K;try simp only [Act.put,sA,sB,sC]
   refine wpAnyD_one (i:=9) (by kernel_rfl) rfl (fun K hK=>?_);go_simp;refine hK _ _ ⟨fun _=>hS3d,?_⟩;clear hK K;try simp only [Act.put,sA,sB,sC]
   refine wpAnyD_one (i:=10) (by kernel_rfl) rfl (fun K hK=>?_);rw [if_pos (by rfl)];go_simp;refine hK _ _ ⟨fun h=>(by cases h),?_⟩;clear hK K;try simp only [Act.put,sA,sB,sC]
   refine late_done (by kernel_rfl) ?_ _;refine NoPanic.normal ?_;go_wp2;go_ret;refine HFin.out _ _ O7 (.slice p7 L7 c7) (ts++ [X.heap.size]) rfl HT7.out (by simp) ?_;exact((Chg.of_below HB2.out HH.out.lt).trans (((HCX.out.mono (fun x e=>.inl e)).trans (HC5.out.mono (fun x e=>False.elim e))).trans (HC7.out.mono (fun x e=>.inr e))))
end Go.Proofs.YtlmlljlappjjjaaGreatDoor
