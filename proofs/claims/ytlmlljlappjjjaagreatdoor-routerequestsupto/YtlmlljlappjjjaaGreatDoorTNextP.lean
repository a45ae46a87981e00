/- The node behind a plain segment, laid in where there is none, by the program. -/
import Derived.Test.YtlmlljlappjjjaaGreatDoorTNext
namespace Go.Proofs.YtlmlljlappjjjaaGreatDoor
open Go.RowKit Go.Maps
structure NyS (U:World) (n sb m:Nat) (X:ByteArray):Prop where
 c0:U.cell? ⟨n,0,none⟩=some (.map (some m))
 cs:U.cell? ⟨sb,1,none⟩=some (.string X)
theorem grow_plain {w w1 w2:World}{G:Gt}{k:List Ky}{m:Nat} (hm:G.mp k=some m) (x:B) (hno:G.nd (k++ [.plain x])=none) (hw1:Below w.heap.size w w1) (hg:w1.grownBy w2 (some m)) (hno4:∀ o v,w.cell? ⟨m,o,none⟩≠some v):GrowT w w2 G {G with nd:=updK G.nd (k++ [.plain x]) w.heap.size}:=by
 refine⟨(Below.kept hw1).trans (kept_grown hg) (fun i _ e=>.inr ⟨k,by rw [hm];exact e⟩),fun i hi=>(fp_nd hi).elim .inl (fun e=>.inr (by omega)),rfl,fun k' b e=>?_,fun b v e=>cell_same (cell_keep hw1 e) (hg.block b (Nat.lt_of_lt_of_le (lt_of_cell e) hw1.size) (fun e1=>by injection e1 with e1;subst e1;exact hno4 _ _ e))⟩;show updK G.nd (k++ [.plain x]) _ k'=some b;rw [updK_other _ _ (fun e1=>by rw [e1,hno] at e;cases e)];exact e
theorem put_plain {w:World}{G:Gt}{M:Nat}{k:List Ky}{n m:Nat} (h:TreeAt w (Fp G) G M) (hM:M<1000000) (hk:G.nd k=some n) (hm:G.mp k=some m) (x:B) (hx:x.length≤140737488355328) (hno:G.nd (k++ [.plain x])=none) (T:TypeId):
  ∃ w2,(Instr.mapUpdate 167 (.map (some m)) (.string (str x)) (.pointer (some ⟨w.heap.size,0,none⟩))).run Tryz.prog (w.alloc (.cells #[.map none,.pointer none,.pointer none,.pointer none] T (0,0)))= .ok () w2∧TreeAt w2 (Fp {G with nd:=updK G.nd (k++ [.plain x]) w.heap.size}) {G with nd:=updK G.nd (k++ [.plain x]) w.heap.size} (M+1)∧GrowT w w2 G {G with nd:=updK G.nd (k++ [.plain x]) w.heap.size}∧(∀ i,i<w.heap.size→i≠m→w2.heap[i]?=w.heap[i]?):=by
 have hkey:=Go.WideMaps.keyOf_string_mk (k:=9) Tryz.underlying9 (s:=str x) (show x.toArray.size≤maxLen by unfold maxLen;simp;omega);have e:(str x).data.toList=x:=by simp
 rw [e] at hkey;have hw1:=below_new w (.cells #[.map none,.pointer none,.pointer none,.pointer none] T (0,0));obtain⟨_,nn,D,ho,hn,hf⟩:=(h.next hw1).map k m hm;obtain⟨w2,hrun,ho2,hg2⟩:=ho.update lawP Tryz.underlying167 (by unfold maxLen;omega) hkey (show ptrR (.pointer (some ⟨w.heap.size,0,none⟩))=some (.held (some ⟨w.heap.size,0,none⟩),[]) from rfl);refine⟨w2,hrun,(h.plained hk hm x hno (Nat.le_refl _) (nodeZ_at w T) hw1 hn hf ho.isMap ho2 hg2).exact,grow_plain hm x hno hw1 hg2 (fun o v e=>(h.map k m hm).2.nocell e),fun i hi hne=>?_⟩;exact(hg2.block i (Nat.lt_of_lt_of_le hi hw1.size) (fun e=>hne (by injection e))).trans (hw1.block i hi)
theorem eqlSome (m:Nat) (w:World):(binOp .eql 167 (.map (some m)) (.map none)).run Tryz.prog w= .ok (.bool false) w:=by kernel_rfl
theorem mkMap (w:World):(Instr.makeMap 167 none).run Tryz.prog w= .ok (.map (some w.heap.size)) (w.alloc (.map #[] 0)):=by kernel_rfl
theorem eqlNil (w:World):(binOp .eql 167 (.map none) (.map none)).run Tryz.prog w= .ok (.bool true) w:=by kernel_rfl
set_option maxRecDepth 20000 in
set_option maxHeartbeats 16000000 in
theorem next_plain {G:Gt}{M:Nat} (w:World) (x:B) (hxl:x.length≤140737488355328) (k:List Ky) (n:Nat) (hx:kindT x=0) (hM:M<1000000) (hT:TreeAt w (Fp G) G M) (hk:G.nd k=some n):
  Calls Tryz.prog 104 #[.pointer (some ⟨n,0,none⟩),.agg #[.int .i64 (kindT x:Int),.string (str (segX x))]] w fun e w'=>NextAns w G M (k++ [keyT x]) e w':=by
 rw [keyT_plain hx,hx,show segX x=x from by unfold segX;rw [if_pos hx]];obtain⟨X,hX⟩:∃ X,str x=X:=⟨_,rfl⟩;rw [hX];have hXe:=hX;have hbb:=below_new w (.cells #[.int .i64 0,.string X] 174 (0,0));have HTb:=hid (hT.next hbb);have hnd:=(HTb.out.node k n hk).2;have q0:=hnd.c0;have hcn:=cells_new w [.int .i64 0,.string X] 174 1 _ rfl;rw [add_off] at hcn;obtain⟨sb,hsb⟩:∃ sb,w.heap.size=sb:=⟨_,rfl⟩;have hsn:¬sb=n:=by rw [←hsb];exact nd_ne hT hk
 have hsn2:¬sb+1=n:=by have:=(hT.node k n hk).2.lt;omega
 have hszb:(w.alloc (.cells #[.int .i64 0,.string X] 174 (0,0))).heap.size=sb+1:=by rw [←hsb];simp
 obtain⟨WB,hWB⟩:∃ WB,w.alloc (.cells #[.int .i64 0,.string X] 174 (0,0))=WB:=⟨_,rfl⟩;have qs0:=cells_new w [.int .i64 0,.string X] 174 0 _ rfl;have qs1:=hcn;rw [add_off] at qs0;rw [hsb] at qs0 qs1;rw [show (w.alloc (.cells [.int .i64 0,.string X].toArray 174 (0,0)))=WB from hWB] at qs0 qs1;cases hm:G.mp k with
 |some m=>
  rw [hm] at q0;have qe:=eqlSome m WB;cases hc:G.nd (k++ [.plain x]) with
  |some c=>
   have hS0a:NxS (w.alloc (.cells #[.int .i64 0,.string X] 174 (0,0))).drew n sb m X (.pointer (some ⟨c,0,none⟩)):=⟨q0,by rw [←hsb];exact hcn,by have h:=look_run (HTb.out.same (same_drew1 _)) k x hxl;rw [hm,hc,ptrN_some,hX] at h;exact h⟩;have hS0b:NxS (w.alloc (.cells #[.int .i64 0,.string X] 174 (0,0))).drew.drew n sb m X (.pointer (some ⟨c,0,none⟩)):=⟨q0,by rw [←hsb];exact hcn,by have h:=look_run ((HTb.out.same (same_drew1 _)).same (same_drew1 _)) k x hxl;rw [hm,hc,ptrN_some,hX] at h;exact h⟩;obtain⟨V,hV⟩:∃ V:Value,.pointer (some ⟨c,0,none⟩)=V:=⟨_,rfl⟩;have HFin:=hid (show NextAns w G M (k++ [.plain x]) (.returned (.pointer (some ⟨c,0,none⟩))) (w.alloc (.cells #[.int .i64 0,.string X] 174 (0,0))).drew.drew from⟨c,G,rfl,((HTb.out.same (same_drew1 _)).same (same_drew1 _)).wide (fun _ h=>h) (Nat.le_succ _),hc,((GrowT.refl w G).next hbb).next ((same_drew1 _).trans (same_drew1 _)).below⟩);clear hV V;rw [hWB] at hS0a hS0b HFin q0;clear hnd;go_enter Tryz.func104,Tryz.ntmps104;go_wp2;refine wp_region_noPanic ?_;refine any_begin 8 (by kernel_rfl) (by kernel_rfl) ?_;refine late_begin (fun U=>NxS U n sb m X (.pointer (some ⟨c,0,none⟩))) (fun _=>false) hS0a (fun hS=>?_);refine ltk (i:=0) (some 48) rfl rfl (v:= ?v0a) ?hy0a hS ?rest0a
   case hy0a=>intro w0 hSw;obtain⟨a0,a1,a2⟩:=hSw;go_simp;try with_reducible rfl
   simp only [Act.put,sA,sB,sC];refine ltk (i:=1) (some 49) rfl rfl (v:= ?v1a) ?hy1a hS ?rest1a
   case hy1a=>intro w0 hSw;obtain⟨a0,a1,a2⟩:=hSw;go_simp;try with_reducible rfl
   simp only [Act.put,sA,sB,sC];refine ltk (i:=2) (some 50) rfl rfl (v:= ?v2a) ?hy2a hS ?rest2a
   case hy2a=>intro w0 hSw;obtain⟨a0,a1,a2⟩:=hSw;go_simp;try with_reducible rfl
   simp only [Act.put,sA,sB,sC];refine ltk (i:=3) (some 51) rfl rfl (v:= ?v3a) ?hy3a hS ?rest3a
   case hy3a=>intro w0 hSw;obtain⟨a0,a1,a2⟩:=hSw;go_simp;try with_reducible rfl
   simp only [Act.put,sA,sB,sC];refine ltk (i:=4) (some 52) rfl rfl (v:= ?v4a) ?hy4a hS ?rest4a
   case hy4a=>intro w0 hSw;obtain⟨a0,a1,a2⟩:=hSw;go_simp;try with_reducible rfl
   simp only [Act.put,sA,sB,sC];refine ltk (i:=5) (some 53) rfl rfl (v:= ?v5a) ?hy5a hS ?rest5a
   case hy5a=>intro w0 hSw;obtain⟨a0,a1,a2⟩:=hSw;go_simp;try with_reducible rfl
   simp only [Act.put,sA,sB,sC];refine late_take (i:=6) (some 54) rfl rfl (by kernel_rfl) (by kernel_rfl) (by kernel_rfl) (by kernel_rfl) (by kernel_rfl) (fun _ _ _ h=>h) (by rfl) (v:=.pointer (some ⟨c,0,none⟩)) ?hy6a hS ?rest6a
   case hy6a=>intro w0 hSw;exact exec_lookup rfl rfl rfl hSw.look
   simp only [Act.put,sA,sB,sC];refine ltk (i:=7) (some 55) rfl rfl (v:= ?v7a) ?hy7a hS ?rest7a
   case hy7a=>intro w0 hSw;obtain⟨a0,a1,a2⟩:=hSw;go_simp;try with_reducible rfl
   simp only [Act.put,sA,sB,sC];refine late_done (by kernel_rfl) ?_ _;refine NoPanic.normal ?_;go_wp2;refine wp_region_noPanic ?_;refine any_begin 8 (by kernel_rfl) (by kernel_rfl) ?_;refine late_begin (fun U=>NxS U n sb m X (.pointer (some ⟨c,0,none⟩))) (fun _=>false) hS0b (fun hS=>?_);refine ltk (i:=0) (some 64) rfl rfl (v:= ?v0b) ?hy0b hS ?rest0b
   case hy0b=>intro w0 hSw;obtain⟨a0,a1,a2⟩:=hSw;go_simp;try with_reducible rfl
   simp only [Act.put,sA,sB,sC];refine ltk (i:=1) (some 65) rfl rfl (v:= ?v1b) ?hy1b hS ?rest1b
   case hy1b=>intro w0 hSw;obtain⟨a0,a1,a2⟩:=hSw;go_simp;try with_reducible rfl
   simp only [Act.put,sA,sB,sC];refine ltk (i:=2) (some 66) rfl rfl (v:= ?v2b) ?hy2b hS ?rest2b
   case hy2b=>intro w0 hSw;obtain⟨a0,a1,a2⟩:=hSw;go_simp;try with_reducible rfl
   simp only [Act.put,sA,sB,sC];refine ltk (i:=3) (some 67) rfl rfl (v:= ?v3b) ?hy3b hS ?rest3b
   case hy3b=>intro w0 hSw;obtain⟨a0,a1,a2⟩:=hSw;go_simp;try with_reducible rfl
   simp only [Act.put,sA,sB,sC];refine ltk (i:=4) (some 68) rfl rfl (v:= ?v4b) ?hy4b hS ?rest4b
   case hy4b=>intro w0 hSw;obtain⟨a0,a1,a2⟩:=hSw;go_simp;try with_reducible rfl
   simp only [Act.put,sA,sB,sC];refine ltk (i:=5) (some 69) rfl rfl (v:= ?v5b) ?hy5b hS ?rest5b
   case hy5b=>intro w0 hSw;obtain⟨a0,a1,a2⟩:=hSw;go_simp;try with_reducible rfl
   simp only [Act.put,sA,sB,sC];refine late_take (i:=6) (some 70) rfl rfl (by kernel_rfl) (by kernel_rfl) (by kernel_rfl) (by kernel_rfl) (by kernel_rfl) (fun _ _ _ h=>h) (by rfl) (v:=.pointer (some ⟨c,0,none⟩)) ?hy6b hS ?rest6b
   case hy6b=>intro w0 hSw;exact exec_lookup rfl rfl rfl hSw.look
   simp only [Act.put,sA,sB,sC];refine ltk (i:=7) (some 4) rfl rfl (v:= ?v7b) ?hy7b hS ?rest7b
   case hy7b=>intro w0 hSw;obtain⟨a0,a1,a2⟩:=hSw;go_simp;try with_reducible rfl
   simp only [Act.put,sA,sB,sC];refine late_done (by kernel_rfl) ?_ _;refine NoPanic.normal ?_;go_wp2;go_ret;exact HFin.out
  |none=>
   rw [hWB] at HTb q0 hbb hszb;have HBw:=hid hbb;have HG0:=hid ((GrowT.refl w G).next hbb);have HT1:=hid (show TreeAt WB (Fp G) G M from HTb.out);have hS0c:NxS WB.drew n sb m X (.pointer none):=⟨((HT1.out.node k n hk).2.c0).trans (by rw [hm]),qs1,by have h:=look_run (HT1.out.same (same_drew1 _)) k x hxl;rw [hm,hc,ptrN_none,hX] at h;exact h⟩;have HT2:=hid ((HT1.out.same (same_drew1 _)).same (same_drew1 WB.drew));have hS0d:NyS WB.drew.drew n sb m X:=⟨hS0c.c0,qs1⟩;obtain⟨W4,hRun,hT4,hG4,hst⟩:=put_plain HT2.out hM hk hm x hxl hc 169;rw [hX] at hRun;have hsbl:sb<WB.heap.size:=lt_of_cell qs1;have hsm:sb≠m:=fun e=>by subst e;exact(HT1.out.map k sb hm).2.nocell qs1
   obtain⟨c,hc9⟩:∃ c,WB.heap.size=c:=⟨_,rfl⟩;have hc8:WB.drew.drew.heap.size=c:=hc9;rw [hc8] at hRun hT4 hG4;have hS3d:NyS (WB.drew.drew.alloc (.cells #[.map none,.pointer none,.pointer none,.pointer none] 169 (0,0))) n sb m X:=⟨cell_keep (below_new _ _) hS0d.c0,cell_keep (below_new _ _) hS0d.cs⟩;have hcs4:W4.cell? ⟨sb,1,none⟩=some (.string X):=cell_same hS0d.cs (hst sb hsbl hsm);have hc04:W4.cell? ⟨n,0,none⟩=some (.map (some m)):=((hT4.node k n (hG4.nd k n hk)).2.c0).trans (by show some (Value.map (Gt.mp G k))=_;rw [hm]);have hS4d:NyS W4 n sb m X:=⟨hc04,hcs4⟩;have hlk:=look_run (hT4.same (same_drew1 W4)) k x hxl;have hupd:updK (Gt.nd G) (k++ [.plain x]) c (k++ [.plain x])=some c:=updK_same _ _ _;have hS0e:NxS W4.drew n sb m X (.pointer (some ⟨c,0,none⟩)):=⟨hc04,hcs4,by rw [show (Gt.mp {G with nd:=updK (Gt.nd G) (k++ [.plain x]) c} k)=some m from hm,show (Gt.nd {G with nd:=updK (Gt.nd G) (k++ [.plain x]) c} (k++ [.plain x]))=some c from hupd,ptrN_some,hX] at hlk;exact hlk⟩;have HRun:=hid hRun;have HFin:=hid (show NextAns w G M (k++ [.plain x]) (.returned (.pointer (some ⟨c,0,none⟩))) W4.drew from⟨c,_,rfl,hT4.same (same_drew1 _),hupd,(GrowT.trans HG0.out (GrowT.ahead ((same_drew1 WB).trans (same_drew1 _)).below hG4)).next (same_drew1 _).below⟩);clear hT4 hG4 hst hRun hlk hupd;go_enter Tryz.func104,Tryz.ntmps104;go_wp2;refine wp_region_noPanic ?_;refine any_begin 8 (by kernel_rfl) (by kernel_rfl) ?_;refine late_begin (fun U=>NxS U n sb m X (.pointer none)) (fun _=>false) hS0c (fun hS=>?_);refine ltk (i:=0) (some 48) rfl rfl (v:= ?v0c) ?hy0c hS ?rest0c
   case hy0c=>intro w0 hSw;obtain⟨a0,a1,a2⟩:=hSw;go_simp;try with_reducible rfl
   simp only [Act.put,sA,sB,sC];refine ltk (i:=1) (some 49) rfl rfl (v:= ?v1c) ?hy1c hS ?rest1c
   case hy1c=>intro w0 hSw;obtain⟨a0,a1,a2⟩:=hSw;go_simp;try with_reducible rfl
   simp only [Act.put,sA,sB,sC];refine ltk (i:=2) (some 50) rfl rfl (v:= ?v2c) ?hy2c hS ?rest2c
   case hy2c=>intro w0 hSw;obtain⟨a0,a1,a2⟩:=hSw;go_simp;try with_reducible rfl
   simp only [Act.put,sA,sB,sC];refine ltk (i:=3) (some 51) rfl rfl (v:= ?v3c) ?hy3c hS ?rest3c
   case hy3c=>intro w0 hSw;obtain⟨a0,a1,a2⟩:=hSw;go_simp;try with_reducible rfl
   simp only [Act.put,sA,sB,sC];refine ltk (i:=4) (some 52) rfl rfl (v:= ?v4c) ?hy4c hS ?rest4c
   case hy4c=>intro w0 hSw;obtain⟨a0,a1,a2⟩:=hSw;go_simp;try with_reducible rfl
   simp only [Act.put,sA,sB,sC];refine ltk (i:=5) (some 53) rfl rfl (v:= ?v5c) ?hy5c hS ?rest5c
   case hy5c=>intro w0 hSw;obtain⟨a0,a1,a2⟩:=hSw;go_simp;try with_reducible rfl
   simp only [Act.put,sA,sB,sC];refine late_take (i:=6) (some 54) rfl rfl (by kernel_rfl) (by kernel_rfl) (by kernel_rfl) (by kernel_rfl) (by kernel_rfl) (fun _ _ _ h=>h) (by rfl) (v:=.pointer none) ?hy6c hS ?rest6c
   case hy6c=>intro w0 hSw;exact exec_lookup rfl rfl rfl hSw.look
   simp only [Act.put,sA,sB,sC];refine ltk (i:=7) (some 55) rfl rfl (v:= ?v7c) ?hy7c hS ?rest7c
   case hy7c=>intro w0 hSw;obtain⟨a0,a1,a2⟩:=hSw;go_simp;try with_reducible rfl
   simp only [Act.put,sA,sB,sC];refine late_done (by kernel_rfl) ?_ _;refine NoPanic.normal ?_;go_wp2;refine wp_region_noPanic ?_;refine any_begin 9 (by kernel_rfl) (by kernel_rfl) ?_;refine late_begin (fun U=>NyS U n sb m X) (fun _=>false) hS0d (fun hS=>?_);refine ltk (i:=0) (some 56) rfl rfl (v:= ?v0d) ?hy0d hS ?rest0d
   case hy0d=>intro w0 hSw;obtain⟨a0,a1⟩:=hSw;go_simp;try with_reducible rfl
   simp only [Act.put,sA,sB,sC];refine ltk (i:=1) (some 57) rfl rfl (v:= ?v1d) ?hy1d hS ?rest1d
   case hy1d=>intro w0 hSw;obtain⟨a0,a1⟩:=hSw;go_simp;try with_reducible rfl
   simp only [Act.put,sA,sB,sC];refine ltk (i:=2) (some 58) rfl rfl (v:= ?v2d) ?hy2d hS ?rest2d
   case hy2d=>intro w0 hSw;obtain⟨a0,a1⟩:=hSw;go_simp;try with_reducible rfl
   simp only [Act.put,sA,sB,sC];refine ltk (i:=3) (some 59) rfl rfl (v:= ?v3d) ?hy3d hS ?rest3d
   case hy3d=>intro w0 hSw;obtain⟨a0,a1⟩:=hSw;go_simp;try with_reducible rfl
   simp only [Act.put,sA,sB,sC];refine ltk (i:=4) (some 60) rfl rfl (v:= ?v4d) ?hy4d hS ?rest4d
   case hy4d=>intro w0 hSw;obtain⟨a0,a1⟩:=hSw;go_simp;try with_reducible rfl
   simp only [Act.put,sA,sB,sC];refine ltk (i:=5) (some 61) rfl rfl (v:= ?v5d) ?hy5d hS ?rest5d
   case hy5d=>intro w0 hSw;obtain⟨a0,a1⟩:=hSw;go_simp;try with_reducible rfl
   simp only [Act.put,sA,sB,sC];refine ltk (i:=6) (some 62) rfl rfl (v:= ?v6d) ?hy6d hS ?rest6d
   case hy6d=>intro w0 hSw;obtain⟨a0,a1⟩:=hSw;go_simp;try with_reducible rfl
   simp only [Act.put,sA,sB,sC];refine wpAnyD_one (i:=7) (by kernel_rfl) rfl (fun K hK=>?_);go_simp;refine hK _ _ ⟨fun _=>hS3d,?_⟩;clear hK K;try simp only [Act.put,sA,sB,sC]
   refine wpAnyD_one (i:=8) (by kernel_rfl) rfl (fun K hK=>?_);rw [if_pos (by rfl)];refine wp_mapUpdate rfl rfl rfl rfl HRun.out ?_;refine hK _ _ ⟨fun _=>hS4d,?_⟩;clear hK K;simp only [Act.put];refine late_done (by kernel_rfl) ?_ _;refine NoPanic.normal ?_;go_wp2;refine wp_region_noPanic ?_;refine any_begin 8 (by kernel_rfl) (by kernel_rfl) ?_;refine late_begin (fun U=>NxS U n sb m X (.pointer (some ⟨c,0,none⟩))) (fun _=>false) hS0e (fun hS=>?_);refine ltk (i:=0) (some 64) rfl rfl (v:= ?v0e) ?hy0e hS ?rest0e
   case hy0e=>intro w0 hSw;obtain⟨a0,a1,a2⟩:=hSw;go_simp;try with_reducible rfl
   simp only [Act.put,sA,sB,sC];refine ltk (i:=1) (some 65) rfl rfl (v:= ?v1e) ?hy1e hS ?rest1e
   case hy1e=>intro w0 hSw;obtain⟨a0,a1,a2⟩:=hSw;go_simp;try with_reducible rfl
   simp only [Act.put,sA,sB,sC];refine ltk (i:=2) (some 66) rfl rfl (v:= ?v2e) ?hy2e hS ?rest2e
   case hy2e=>intro w0 hSw;obtain⟨a0,a1,a2⟩:=hSw;go_simp;try with_reducible rfl
   simp only [Act.put,sA,sB,sC];refine ltk (i:=3) (some 67) rfl rfl (v:= ?v3e) ?hy3e hS ?rest3e
   case hy3e=>intro w0 hSw;obtain⟨a0,a1,a2⟩:=hSw;go_simp;try with_reducible rfl
   simp only [Act.put,sA,sB,sC];refine ltk (i:=4) (some 68) rfl rfl (v:= ?v4e) ?hy4e hS ?rest4e
   case hy4e=>intro w0 hSw;obtain⟨a0,a1,a2⟩:=hSw;go_simp;try with_reducible rfl
   simp only [Act.put,sA,sB,sC];refine ltk (i:=5) (some 69) rfl rfl (v:= ?v5e) ?hy5e hS ?rest5e
   case hy5e=>intro w0 hSw;obtain⟨a0,a1,a2⟩:=hSw;go_simp;try with_reducible rfl
   simp only [Act.put,sA,sB,sC];refine late_take (i:=6) (some 70) rfl rfl (by kernel_rfl) (by kernel_rfl) (by kernel_rfl) (by kernel_rfl) (by kernel_rfl) (fun _ _ _ h=>h) (by rfl) (v:=.pointer (some ⟨c,0,none⟩)) ?hy6e hS ?rest6e
   case hy6e=>intro w0 hSw;exact exec_lookup rfl rfl rfl hSw.look
   simp only [Act.put,sA,sB,sC];refine ltk (i:=7) (some 4) rfl rfl (v:= ?v7e) ?hy7e hS ?rest7e
   case hy7e=>intro w0 hSw;obtain⟨a0,a1,a2⟩:=hSw;go_simp;try with_reducible rfl
   simp only [Act.put,sA,sB,sC];refine late_done (by kernel_rfl) ?_ _;refine NoPanic.normal ?_;go_wp2;go_ret;exact HFin.out
 |none=>
  rw [hm] at q0;rw [hWB] at HTb q0 hbb hszb hnd;have qe:=eqlNil WB;have qmk:=mkMap WB;rw [hszb] at qmk;have HM1:=hid (HTb.out.mapped hk hm).exact;have HGm:=hid (GrowT.ahead hbb (grow_map (w:=WB) hk));have hnd2:=hnd.keep ((below_new WB (.map #[] 0)).block n hnd.lt);have qf1:=hnd2.fz 0;have qc1:=hnd2.c0;rw [hm] at qc1;have qz:=cell_keep (below_new WB (.map #[] 0)) qs1;have hsn3:sb≠n:=hsn;have hcsW:((WB.alloc (.map #[] 0)).setCell ⟨n,0,none⟩ (.map (some WB.heap.size))).cell? ⟨sb,1,none⟩=some (.string X):=by
   rw [World.cell?_setCell_other _ _ _ _ (fun e=>hsn (by injection e with e;exact e.symm))];exact qz
  have hnoC:G.nd (k++ [.plain x])=none:=HTb.out.nomap k x hm;rw [hszb] at HM1 HGm hcsW;obtain⟨G1,hG1⟩:∃ G1:Gt,{G with mp:=updK G.mp k (sb+1)}=G1:=⟨_,rfl⟩;have hk1:G1.nd k=some n:=by rw [←hG1];exact hk
  have hm1:G1.mp k=some (sb+1):=by rw [←hG1];exact updK_same _ _ _
  have hc1:G1.nd (k++ [.plain x])=none:=by rw [←hG1];exact hnoC
  rw [hG1] at HM1 HGm;obtain⟨W1,hW1⟩:∃ W1,(WB.alloc (.map #[] 0)).setCell ⟨n,0,none⟩ (.map (some (sb+1)))=W1:=⟨_,rfl⟩;rw [hW1] at HM1 HGm hcsW;clear hnd hnd2 hG1;obtain⟨m,hmm⟩:∃ m,sb+1=m:=⟨_,rfl⟩;rw [hmm] at hW1 hm1;have HT1:=hid (show TreeAt W1 (Fp G1) G1 M from HM1.out);have hS0f:NxS W1.drew n sb m X (.pointer none):=⟨((HT1.out.node k n hk1).2.c0).trans (by rw [hm1]),hcsW,by have h:=look_run (HT1.out.same (same_drew1 _)) k x hxl;rw [hm1,hc1,ptrN_none,hX] at h;exact h⟩;have HT2:=hid ((HT1.out.same (same_drew1 _)).same (same_drew1 W1.drew));have hS0g:NyS W1.drew.drew n sb m X:=⟨hS0f.c0,hcsW⟩;obtain⟨W4,hRun,hT4,hG4,hst⟩:=put_plain HT2.out hM hk1 hm1 x hxl hc1 169;rw [hX] at hRun;have hsbl:sb<W1.heap.size:=lt_of_cell hcsW;have hsm:sb≠m:=fun e=>by subst e;exact(HT1.out.map k sb hm1).2.nocell hcsW
  obtain⟨c,hc9⟩:∃ c,W1.heap.size=c:=⟨_,rfl⟩;have hc8:W1.drew.drew.heap.size=c:=hc9;rw [hc8] at hRun hT4 hG4;have hS3g:NyS (W1.drew.drew.alloc (.cells #[.map none,.pointer none,.pointer none,.pointer none] 169 (0,0))) n sb m X:=⟨cell_keep (below_new _ _) hS0g.c0,cell_keep (below_new _ _) hS0g.cs⟩;have hcs4:W4.cell? ⟨sb,1,none⟩=some (.string X):=cell_same hS0g.cs (hst sb hsbl hsm);have hc04:W4.cell? ⟨n,0,none⟩=some (.map (some m)):=((hT4.node k n (hG4.nd k n hk1)).2.c0).trans (by show some (Value.map (Gt.mp G1 k))=_;rw [hm1]);have hS4g:NyS W4 n sb m X:=⟨hc04,hcs4⟩;have hlk:=look_run (hT4.same (same_drew1 W4)) k x hxl;have hupd:updK (Gt.nd G1) (k++ [.plain x]) c (k++ [.plain x])=some c:=updK_same _ _ _;have hS0h:NxS W4.drew n sb m X (.pointer (some ⟨c,0,none⟩)):=⟨hc04,hcs4,by rw [show (Gt.mp {G1 with nd:=updK (Gt.nd G1) (k++ [.plain x]) c} k)=some m from hm1,show (Gt.nd {G1 with nd:=updK (Gt.nd G1) (k++ [.plain x]) c} (k++ [.plain x]))=some c from hupd,ptrN_some,hX] at hlk;exact hlk⟩;have HRun:=hid hRun;have HFin:=hid (show NextAns w G M (k++ [.plain x]) (.returned (.pointer (some ⟨c,0,none⟩))) W4.drew from⟨c,_,rfl,hT4.same (same_drew1 _),hupd,(GrowT.trans HGm.out (GrowT.ahead ((same_drew1 W1).trans (same_drew1 _)).below hG4)).next (same_drew1 _).below⟩);clear hT4 hG4 hst hRun hlk hupd;go_enter Tryz.func104,Tryz.ntmps104;go_wp2;refine wp_region_noPanic ?_;refine any_begin 8 (by kernel_rfl) (by kernel_rfl) ?_;refine late_begin (fun U=>NxS U n sb m X (.pointer none)) (fun _=>false) hS0f (fun hS=>?_);refine ltk (i:=0) (some 48) rfl rfl (v:= ?v0f) ?hy0f hS ?rest0f
  case hy0f=>intro w0 hSw;obtain⟨a0,a1,a2⟩:=hSw;go_simp;try with_reducible rfl
  simp only [Act.put,sA,sB,sC];refine ltk (i:=1) (some 49) rfl rfl (v:= ?v1f) ?hy1f hS ?rest1f
  case hy1f=>intro w0 hSw;obtain⟨a0,a1,a2⟩:=hSw;go_simp;try with_reducible rfl
  simp only [Act.put,sA,sB,sC];refine ltk (i:=2) (some 50) rfl rfl (v:= ?v2f) ?hy2f hS ?rest2f
  case hy2f=>intro w0 hSw;obtain⟨a0,a1,a2⟩:=hSw;go_simp;try with_reducible rfl
  simp only [Act.put,sA,sB,sC];refine ltk (i:=3) (some 51) rfl rfl (v:= ?v3f) ?hy3f hS ?rest3f
  case hy3f=>intro w0 hSw;obtain⟨a0,a1,a2⟩:=hSw;go_simp;try with_reducible rfl
  simp only [Act.put,sA,sB,sC];refine ltk (i:=4) (some 52) rfl rfl (v:= ?v4f) ?hy4f hS ?rest4f
  case hy4f=>intro w0 hSw;obtain⟨a0,a1,a2⟩:=hSw;go_simp;try with_reducible rfl
  simp only [Act.put,sA,sB,sC];refine ltk (i:=5) (some 53) rfl rfl (v:= ?v5f) ?hy5f hS ?rest5f
  case hy5f=>intro w0 hSw;obtain⟨a0,a1,a2⟩:=hSw;go_simp;try with_reducible rfl
  simp only [Act.put,sA,sB,sC];refine late_take (i:=6) (some 54) rfl rfl (by kernel_rfl) (by kernel_rfl) (by kernel_rfl) (by kernel_rfl) (by kernel_rfl) (fun _ _ _ h=>h) (by rfl) (v:=.pointer none) ?hy6f hS ?rest6f
  case hy6f=>intro w0 hSw;exact exec_lookup rfl rfl rfl hSw.look
  simp only [Act.put,sA,sB,sC];refine ltk (i:=7) (some 55) rfl rfl (v:= ?v7f) ?hy7f hS ?rest7f
  case hy7f=>intro w0 hSw;obtain⟨a0,a1,a2⟩:=hSw;go_simp;try with_reducible rfl
  simp only [Act.put,sA,sB,sC];refine late_done (by kernel_rfl) ?_ _;refine NoPanic.normal ?_;go_wp2;refine wp_region_noPanic ?_;refine any_begin 9 (by kernel_rfl) (by kernel_rfl) ?_;refine late_begin (fun U=>NyS U n sb m X) (fun _=>false) hS0g (fun hS=>?_);refine ltk (i:=0) (some 56) rfl rfl (v:= ?v0g) ?hy0g hS ?rest0g
  case hy0g=>intro w0 hSw;obtain⟨a0,a1⟩:=hSw;go_simp;try with_reducible rfl
  simp only [Act.put,sA,sB,sC];refine ltk (i:=1) (some 57) rfl rfl (v:= ?v1g) ?hy1g hS ?rest1g
  case hy1g=>intro w0 hSw;obtain⟨a0,a1⟩:=hSw;go_simp;try with_reducible rfl
  simp only [Act.put,sA,sB,sC];refine ltk (i:=2) (some 58) rfl rfl (v:= ?v2g) ?hy2g hS ?rest2g
  case hy2g=>intro w0 hSw;obtain⟨a0,a1⟩:=hSw;go_simp;try with_reducible rfl
  simp only [Act.put,sA,sB,sC];refine ltk (i:=3) (some 59) rfl rfl (v:= ?v3g) ?hy3g hS ?rest3g
  case hy3g=>intro w0 hSw;obtain⟨a0,a1⟩:=hSw;go_simp;try with_reducible rfl
  simp only [Act.put,sA,sB,sC];refine ltk (i:=4) (some 60) rfl rfl (v:= ?v4g) ?hy4g hS ?rest4g
  case hy4g=>intro w0 hSw;obtain⟨a0,a1⟩:=hSw;go_simp;try with_reducible rfl
  simp only [Act.put,sA,sB,sC];refine ltk (i:=5) (some 61) rfl rfl (v:= ?v5g) ?hy5g hS ?rest5g
  case hy5g=>intro w0 hSw;obtain⟨a0,a1⟩:=hSw;go_simp;try with_reducible rfl
  simp only [Act.put,sA,sB,sC];refine ltk (i:=6) (some 62) rfl rfl (v:= ?v6g) ?hy6g hS ?rest6g
  case hy6g=>intro w0 hSw;obtain⟨a0,a1⟩:=hSw;go_simp;try with_reducible rfl
  simp only [Act.put,sA,sB,sC];refine wpAnyD_one (i:=7) (by kernel_rfl) rfl (fun K hK=>?_);go_simp;refine hK _ _ ⟨fun _=>hS3g,?_⟩;clear hK K;try simp only [Act.put,sA,sB,sC]
  refine wpAnyD_one (i:=8) (by kernel_rfl) rfl (fun K hK=>?_);rw [if_pos (by rfl)];refine wp_mapUpdate rfl rfl rfl rfl HRun.out ?_;refine hK _ _ ⟨fun _=>hS4g,?_⟩;clear hK K;simp only [Act.put];refine late_done (by kernel_rfl) ?_ _;refine NoPanic.normal ?_;go_wp2;refine wp_region_noPanic ?_;refine any_begin 8 (by kernel_rfl) (by kernel_rfl) ?_;refine late_begin (fun U=>NxS U n sb m X (.pointer (some ⟨c,0,none⟩))) (fun _=>false) hS0h (fun hS=>?_);refine ltk (i:=0) (some 64) rfl rfl (v:= ?v0h) ?hy0h hS ?rest0h
  case hy0h=>intro w0 hSw;obtain⟨a0,a1,a2⟩:=hSw;go_simp;try with_reducible rfl
  simp only [Act.put,sA,sB,sC];refine ltk (i:=1) (some 65) rfl rfl (v:= ?v1h) ?hy1h hS ?rest1h
  case hy1h=>intro w0 hSw;obtain⟨a0,a1,a2⟩:=hSw;go_simp;try with_reducible rfl
  simp only [Act.put,sA,sB,sC];refine ltk (i:=2) (some 66) rfl rfl (v:= ?v2h) ?hy2h hS ?rest2h
  case hy2h=>intro w0 hSw;obtain⟨a0,a1,a2⟩:=hSw;go_simp;try with_reducible rfl
  simp only [Act.put,sA,sB,sC];refine ltk (i:=3) (some 67) rfl rfl (v:= ?v3h) ?hy3h hS ?rest3h
  case hy3h=>intro w0 hSw;obtain⟨a0,a1,a2⟩:=hSw;go_simp;try with_reducible rfl
  simp only [Act.put,sA,sB,sC];refine ltk (i:=4) (some 68) rfl rfl (v:= ?v4h) ?hy4h hS ?rest4h
  case hy4h=>intro w0 hSw;obtain⟨a0,a1,a2⟩:=hSw;go_simp;try with_reducible rfl
  simp only [Act.put,sA,sB,sC];refine ltk (i:=5) (some 69) rfl rfl (v:= ?v5h) ?hy5h hS ?rest5h
  case hy5h=>intro w0 hSw;obtain⟨a0,a1,a2⟩:=hSw;go_simp;try with_reducible rfl
  simp only [Act.put,sA,sB,sC];refine late_take (i:=6) (some 70) rfl rfl (by kernel_rfl) (by kernel_rfl) (by kernel_rfl) (by kernel_rfl) (by kernel_rfl) (fun _ _ _ h=>h) (by rfl) (v:=.pointer (some ⟨c,0,none⟩)) ?hy6h hS ?rest6h
  case hy6h=>intro w0 hSw;exact exec_lookup rfl rfl rfl hSw.look
  simp only [Act.put,sA,sB,sC];refine ltk (i:=7) (some 4) rfl rfl (v:= ?v7h) ?hy7h hS ?rest7h
  case hy7h=>intro w0 hSw;obtain⟨a0,a1,a2⟩:=hSw;go_simp;try with_reducible rfl
  simp only [Act.put,sA,sB,sC];refine late_done (by kernel_rfl) ?_ _;refine NoPanic.normal ?_;go_wp2;go_ret;exact HFin.out
end Go.Proofs.YtlmlljlappjjjaaGreatDoor
