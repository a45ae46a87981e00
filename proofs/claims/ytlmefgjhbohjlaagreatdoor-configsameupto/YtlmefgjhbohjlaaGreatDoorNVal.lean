/- The program's reader: what is there; texts, numbers, names. -/
import Derived.Test.YtlmefgjhbohjlaaGreatDoorWMem
namespace Go.Proofs.YtlmefgjhbohjlaaGreatDoor
set_option maxRecDepth 20000
set_option maxHeartbeats 8000000
open Go.RowKit
theorem phas_any (g:Nat) (t:JV) (cs:List Value) (z:Option B) (p:B) (X:ByteArray) (hX:X=str p) (hp:p.length≤4096) (w:World) (h:RdS_v w g t cs z):Calls Tryz.prog 61 #[.pointer (some ⟨g,0,none⟩),.string X] w fun e w'=>e= .returned (.bool (atV t p).isSome)∧Below w.heap.size w w':=by
 have HA:=hid (fun (W:World) (hb:Below w.heap.size w W)=>at_any t p (by omega) W cs h.fits (h.next hb).e.k (h.next hb).on);rw [←hX] at HA;obtain⟨k1,k2,k3,k4,k5,k6,k7,k8,k9,k10,k11,hcs⟩:=h.val.form;have ho:=h.obj;rw [hcs] at ho HA;obtain⟨q0,q1,q2,q3,q4,q5,q6,q7,q8⟩:=cells9 (show w.heap[g]?=some (.cells #[.int .i64 k1,.bool k2,.string (str k3),.int .i64 k4,.bool k5,.slice k6 k7 k8,.slice k9 k10 k11,.bool z.isSome,.string (str (z.getD []))] 61 (0,0)) from ho);have HV:=hid (show (atV t p).isSome=(goto t (steps p)).isSome from rfl);obtain⟨r,hr⟩:∃ r,goto t (steps p)=r:=⟨_,rfl⟩;rw [hr] at HA HV;rw [HV.out];clear h ho hX hr HV;cases r with
 |none=>
  have HE:=hid (show errOf (codeN none)= .iface 63 (.int .i64 8) from rfl);go_enter Tryz.func61,Tryz.ntmps61;go_wp2_with (go_at_call 124;(with_reducible refine(HA.out _ (Below.refl _ _)).mono ?_);rintro e w1 ⟨cs1,rfl,hv1,hb⟩;rw [HE.out];have HB1:=hid hb;obtain⟨u1,u2,u3,u4,u5,u6,u7,u8,u9,u10,u11,rfl⟩:=hv1.form;clear hb hv1);go_ret;exact⟨rfl,below_out HB1.out (below_new _ _)⟩
 |some r=>
  have HE:=hid (show errOf (codeN (some r))= .nilIface from rfl);go_enter Tryz.func61,Tryz.ntmps61;go_wp2_with (go_at_call 124;(with_reducible refine(HA.out _ (Below.refl _ _)).mono ?_);rintro e w1 ⟨cs1,rfl,hv1,hb⟩;rw [HE.out];have HB1:=hid hb;obtain⟨u1,u2,u3,u4,u5,u6,u7,u8,u9,u10,u11,rfl⟩:=hv1.form;clear hb hv1);go_ret;exact⟨rfl,below_out HB1.out (below_new _ _)⟩
theorem errOf_ne {k:Nat} (h:k≠0):∃ n:Int,errOf k= .iface 63 (.int .i64 n):=⟨_,errOf_pos h⟩
theorem ptext_of (g:Nat) (t:JV) (cs:List Value) (z:Option B) (p:B) (X:ByteArray) (hX:X=str p) (hp:p.length≤4096) (w:World) (h:RdS_v w g t cs z):Calls Tryz.prog 126 #[.pointer (some ⟨g,0,none⟩),.string X] w fun e w'=>e= .returned (.string (str (textM t p z).1))∧RdS_v w' g t cs (textM t p z).2∧Tg g w w':=by
 have HR:=hid h;have HF:=hid (fun (W:World) (hb:Below w.heap.size w W)=>pfail_any g t cs z p W (h.next hb));have HA:=hid (text_any_k t p (by omega) w g cs (Nat.le_of_lt h.lt) h.fits h.e.k h.val);rw [←hX] at HA HF;obtain⟨k1,k2,k3,k4,k5,k6,k7,k8,k9,k10,k11,hcs⟩:=h.val.form;have ho:=h.obj;rw [hcs] at ho HA;obtain⟨q0,q1,q2,q3,q4,q5,q6,q7,q8⟩:=cells9 (show w.heap[g]?=some (.cells #[.int .i64 k1,.bool k2,.string (str k3),.int .i64 k4,.bool k5,.slice k6 k7 k8,.slice k9 k10 k11,.bool z.isSome,.string (str (z.getD []))] 61 (0,0)) from ho);have HM:=hid (show textM t p z=((ofKind 4 (goto t (steps p))).1.text,if (ofKind 4 (goto t (steps p))).2=0 then z else failM z p) from rfl);obtain⟨r,hr⟩:∃ r,ofKind 4 (goto t (steps p))=r:=⟨_,rfl⟩;rw [hr] at HA HM;rw [HM.out];obtain⟨r1,r2⟩:=r;dsimp only at*;obtain⟨T,hT⟩:∃ T,str r1.text=T:=⟨_,rfl⟩;rw [hT] at HA ⊢;clear h ho hX hr HM hcs hT;by_cases h0:r2=0
 · subst h0;rw [if_pos rfl];have HE:=hid errOf_zero;rw [HE.out] at HA;go_enter Tryz.func126,Tryz.ntmps126;go_wp2_with (go_at_call 205;(with_reducible refine HA.out.mono ?_);rintro e w1 ⟨rfl,hb⟩;have HB1:=hid hb;clear hb);go_ret;exact⟨rfl,HR.out.next HB1.out,tg_of HB1.out⟩
 · rw [if_neg h0];obtain⟨n,hn⟩:=errOf_ne h0;rw [hn] at HA;clear h0 hn;go_enter Tryz.func126,Tryz.ntmps126;go_wp2_with (first
    |(go_at_call 205;(with_reducible refine HA.out.mono ?_);rintro e w1 ⟨rfl,hb⟩;have HB1:=hid hb;clear hb)
    |(go_at_call 123;(with_reducible refine(HF.out _ HB1.out).mono ?_);rintro e w2 ⟨rfl,hr2,ht2⟩;have HR2:=hid hr2;have HT2:=hid ((tg_of HB1.out).on ht2);clear hr2 ht2))
   go_ret;exact⟨rfl,HR2.out,HT2.out⟩
theorem pobject_of (g:Nat) (t:JV) (cs:List Value) (z:Option B) (p:B) (X:ByteArray) (hX:X=str p) (hp:p.length≤4096) (ns:List B) (hns:ns.length≤64) (hnz:∀ y∈ns,y.length≤64) (ps:Option Addr) (c:Nat) (w:World) (h:RdS_v w g t cs z) (hN:NamesOn w ns ps):Calls Tryz.prog 60 #[.pointer (some ⟨g,0,none⟩),.string X,.slice ps ns.length c] w fun e w'=>e= .returned (.tuple #[])∧RdS_v w' g t cs (objM t p ns z)∧Tg g w w':=by
 have HR:=hid h;have HF:=hid (fun (W:World) (hb:Below w.heap.size w W)=>pfail_any g t cs z p W (h.next hb));have HA:=hid (only_any t p (by omega) ns (by omega) (fun y hy=>by have:=hnz y hy;omega) w g cs ps c (Nat.le_of_lt h.lt) h.fits h.e.k h.val hN);rw [←hX] at HA HF;obtain⟨k1,k2,k3,k4,k5,k6,k7,k8,k9,k10,k11,hcs⟩:=h.val.form;have ho:=h.obj;rw [hcs] at ho HA;obtain⟨q0,q1,q2,q3,q4,q5,q6,q7,q8⟩:=cells9 (show w.heap[g]?=some (.cells #[.int .i64 k1,.bool k2,.string (str k3),.int .i64 k4,.bool k5,.slice k6 k7 k8,.slice k9 k10 k11,.bool z.isSome,.string (str (z.getD []))] 61 (0,0)) from ho);have HM:=hid (show objM t p ns z=if onlyN (ofKind 6 (goto t (steps p))) ns=0 then z else failM z p from rfl);obtain⟨r,hr⟩:∃ r,onlyN (ofKind 6 (goto t (steps p))) ns=r:=⟨_,rfl⟩;rw [hr] at HA HM;rw [HM.out];obtain⟨nl,hnl⟩:∃ n,ns.length=n:=⟨_,rfl⟩;rw [hnl] at HA ⊢;clear h ho hX hr HM hcs hN hns hnl;by_cases h0:r=0
 · subst h0;rw [if_pos rfl];have HE:=hid errOf_zero;rw [HE.out] at HA;go_enter Tryz.func60,Tryz.ntmps60;go_wp2_with (go_at_call 122;(with_reducible refine HA.out.mono ?_);rintro e w1 ⟨rfl,hb⟩;have HB1:=hid hb;clear hb);refine bodyPost_end (results_none rfl _ _ _) rfl ?_;exact⟨rfl,HR.out.next HB1.out,tg_of HB1.out⟩
 · rw [if_neg h0];obtain⟨n,hn⟩:=errOf_ne h0;rw [hn] at HA;clear h0 hn;go_enter Tryz.func60,Tryz.ntmps60;go_wp2_with (first
    |(go_at_call 122;(with_reducible refine HA.out.mono ?_);rintro e w1 ⟨rfl,hb⟩;have HB1:=hid hb;clear hb)
    |(go_at_call 123;(with_reducible refine(HF.out _ HB1.out).mono ?_);rintro e w2 ⟨rfl,hr2,ht2⟩;have HR2:=hid hr2;have HT2:=hid ((tg_of HB1.out).on ht2);clear hr2 ht2))
   refine bodyPost_end (results_none rfl _ _ _) rfl ?_;exact⟨rfl,HR2.out,HT2.out⟩
theorem ptextOr_of (g:Nat) (t:JV) (cs:List Value) (z:Option B) (p:B) (X:ByteArray) (hX:X=str p) (hp:p.length≤4096) (d:B) (w:World) (h:RdS_v w g t cs z):Calls Tryz.prog 209 #[.pointer (some ⟨g,0,none⟩),.string X,.string (str d)] w fun e w'=>e= .returned (.string (str (textD t p d z).1))∧RdS_v w' g t cs (textD t p d z).2∧Tg g w w':=by
 have HR:=hid h;have HA:=hid (phas_any g t cs z p X hX hp w h);have HT:=hid (fun (W:World) (hb:Below w.heap.size w W)=>ptext_of g t cs z p X hX hp W (h.next hb));unfold textD;obtain⟨T,hT⟩:∃ T,str d=T:=⟨_,rfl⟩;rw [hT];clear h;by_cases h0:atV t p=none
 · rw [h0] at HA;rw [if_pos h0];clear h0 HT hX;dsimp only;rw [hT];clear hT;go_enter Tryz.func209,Tryz.ntmps209;go_wp2_with (go_at_call 61;(with_reducible refine HA.out.mono ?_);rintro e w1 ⟨rfl,hb⟩;have HB1:=hid hb;clear hb);go_ret;exact⟨rfl,HR.out.next HB1.out,tg_of HB1.out⟩
 · rw [if_neg h0];rw [show (atV t p).isSome=true from Option.isSome_iff_ne_none.2 h0] at HA;clear h0 hX hT;go_enter Tryz.func209,Tryz.ntmps209;go_wp2_with (first
    |(go_at_call 61;(with_reducible refine HA.out.mono ?_);rintro e w1 ⟨rfl,hb⟩;have HB1:=hid hb;clear hb)
    |(go_at_call 126;(with_reducible refine(HT.out _ HB1.out).mono ?_);rintro e w2 ⟨rfl,hr2,ht2⟩;have HR2:=hid hr2;have HT2:=hid ((tg_of HB1.out).on ht2);clear hr2 ht2))
   go_ret;exact⟨rfl,HR2.out,HT2.out⟩
theorem pint_any (t:JV) (p:B) (hp:p.length≤1048577) (w:World) (N:Nat) (cs:List Value) (hN:N≤w.heap.size) (hf:Fits_k t) (hn:Nums t) (hE:Env_k w) (hv:ValB_k w N t cs):Calls Tryz.prog 211 #[.agg cs.toArray,.string (str p),.int .i64 (-9223372036854775808),.int .i64 9223372036854775807] w fun e w'=>e= .returned (.tuple #[.int .i64 (intE t p).1,errOf (intE t p).2])∧Below w.heap.size w w':=by
 have HI:=hid (nums_kind (steps p) 3 hn);obtain⟨k1,k2,k3,k4,k5,k6,k7,k8,k9,k10,k11,rfl⟩:=hv.form;have HFk:=hid (findKind_any 3 t p hp);obtain⟨S,hS⟩:∃ S,str p=S:=⟨_,rfl⟩;have HS:=hid hS;rw [hS];have HF:=hid hf;have HE:=hid hE;have HV:=hid hv;obtain⟨W1,hW1⟩:∃ W1,W1=((w.alloc (C7 k1 k2 k3 k4 k5 k6 k7 k8 k9 k10 k11)).alloc (.cells #[.int .i64 3] 3 (0,0))):=⟨_,rfl⟩;have HB0:=hid (show Below w.heap.size w W1 from by rw [hW1];exact(two_at_k w _ _).2.2);have HCell:=hid (show W1.cell? ⟨w.heap.size+1,0,none⟩=some (.int .i64 3) from by have:=(two_at_k w (C7 k1 k2 k3 k4 k5 k6 k7 k8 k9 k10 k11) (.cells #[.int .i64 3] 3 (0,0))).2.1;rw [←hW1] at this;simp [World.cell?,this]);have HN0:=hid hN;have HN1:=hid (show N≤W1.heap.size from Nat.le_trans hN HB0.out.size);have HW1:=hid hW1;have HM:=hid (show intE t p=if (ofKind 3 (goto t (steps p))).2≠0 then (0,(ofKind 3 (goto t (steps p))).2) else if (ofKind 3 (goto t (steps p))).1.isWhole=false then (0,7) else ((ofKind 3 (goto t (steps p))).1.num,0) from rfl);obtain⟨G,hG⟩:∃ G,ofKind 3 (goto t (steps p))=G:=⟨_,rfl⟩;have HG:=hid hG;rw [hG] at HI HM;clear hf hE hv hp hG hS hW1 hN hn;obtain⟨⟨xk,xb,xt,xn,xh,xl,xs⟩,cd⟩:=G;simp only [JV.num] at HI;by_cases h0:cd=0
 case neg=>
  rw [show intE t p=(0,cd) from HM.out.trans (if_pos h0)];obtain⟨n,hn⟩:=errOf_ne h0;have HEr:=hid hn;dsimp only;rw [hn];clear h0 hn HI HM;go_enter Tryz.func211,Tryz.ntmps211;go_wp2_with (go_at_call 201;have hcall:=HFk.out W1 N (w.heap.size+1) 0 _ HN1.out HF.out (HE.out.below HB0.out) (HV.out.below (HB0.out.mono HN0.out)) HCell.out;rw [HG.out,HS.out] at hcall;rw [←HW1.out];(with_reducible refine hcall.mono ?_);clear hcall;rintro e w1 ⟨cs1,rfl,hv1,hb⟩;have HB1:=hid (below_out HB0.out hb);obtain⟨p1,c1,p2,c2,rfl,_,_⟩:=hv1.open;rw [HEr.out];clear hb hv1);go_ret2;exact⟨rfl,below_out HB1.out (below_new _ _)⟩
 subst h0;have HEr:=hid errOf_zero;cases xh with
 |false=>
  rw [show intE t p=(0,7) from HM.out];dsimp only;rw [errOf_pos (by decide)];clear HI HM;go_enter Tryz.func211,Tryz.ntmps211;go_wp2_with (go_at_call 201;have hcall:=HFk.out W1 N (w.heap.size+1) 0 _ HN1.out HF.out (HE.out.below HB0.out) (HV.out.below (HB0.out.mono HN0.out)) HCell.out;rw [HG.out,HS.out] at hcall;rw [←HW1.out];(with_reducible refine hcall.mono ?_);clear hcall;rintro e w1 ⟨cs1,rfl,hv1,hb⟩;have HB1:=hid (below_out HB0.out hb);obtain⟨p1,c1,p2,c2,rfl,_,_⟩:=hv1.open;rw [HEr.out];clear hb hv1);go_ret2;exact⟨rfl,below_out HB1.out (below_new _ _)⟩
 |true=>
  rw [show intE t p=(xn,0) from HM.out];dsimp only;rw [HEr.out];clear HM;have hi1:decide (xn< -9223372036854775808)=false:=by rw [decide_eq_false_iff_not];have:=HI.out.1;omega
  have hi2:decide ((9223372036854775807:Int)<xn)=false:=by rw [decide_eq_false_iff_not];have:=HI.out.2;omega
  clear HI;go_enter Tryz.func211,Tryz.ntmps211;go_wp2_with (go_at_call 201;have hcall:=HFk.out W1 N (w.heap.size+1) 0 _ HN1.out HF.out (HE.out.below HB0.out) (HV.out.below (HB0.out.mono HN0.out)) HCell.out;rw [HG.out,HS.out] at hcall;rw [←HW1.out];(with_reducible refine hcall.mono ?_);clear hcall;rintro e w1 ⟨cs1,rfl,hv1,hb⟩;have HB1:=hid (below_out HB0.out hb);obtain⟨p1,c1,p2,c2,rfl,_,_⟩:=hv1.open;rw [HEr.out];clear hb hv1);go_ret2;exact⟨rfl,below_out HB1.out (below_new _ _)⟩
theorem pnumber_of (g:Nat) (t:JV) (cs:List Value) (z:Option B) (p:B) (X:ByteArray) (hX:X=str p) (hp:p.length≤4096) (w:World) (h:RdS_v w g t cs z):Calls Tryz.prog 137 #[.pointer (some ⟨g,0,none⟩),.string X] w fun e w'=>e= .returned (.int .i64 (intM t p z).1)∧RdS_v w' g t cs (intM t p z).2∧Tg g w w':=by
 have HR:=hid h;have HF:=hid (fun (W:World) (hb:Below w.heap.size w W)=>pfail_any g t cs z p W (h.next hb));have HA:=hid (pint_any t p (by omega) w g cs (Nat.le_of_lt h.lt) h.fits h.nums h.e.k h.val);rw [←hX] at HA HF;obtain⟨k1,k2,k3,k4,k5,k6,k7,k8,k9,k10,k11,hcs⟩:=h.val.form;have ho:=h.obj;rw [hcs] at ho HA;obtain⟨q0,q1,q2,q3,q4,q5,q6,q7,q8⟩:=cells9 (show w.heap[g]?=some (.cells #[.int .i64 k1,.bool k2,.string (str k3),.int .i64 k4,.bool k5,.slice k6 k7 k8,.slice k9 k10 k11,.bool z.isSome,.string (str (z.getD []))] 61 (0,0)) from ho);unfold intM;obtain⟨r,hr⟩:∃ r,intE t p=r:=⟨_,rfl⟩;rw [hr] at HA ⊢;obtain⟨r1,r2⟩:=r;dsimp only at*;clear h ho hX hr hcs;by_cases h0:r2=0
 · subst h0;rw [if_pos rfl];have HE:=hid errOf_zero;rw [HE.out] at HA;go_enter Tryz.func137,Tryz.ntmps137;go_wp2_with (go_at_call 211;(with_reducible refine HA.out.mono ?_);rintro e w1 ⟨rfl,hb⟩;have HB1:=hid hb;clear hb);go_ret;exact⟨rfl,HR.out.next HB1.out,tg_of HB1.out⟩
 · rw [if_neg h0];obtain⟨n,hn⟩:=errOf_ne h0;rw [hn] at HA;clear h0 hn;go_enter Tryz.func137,Tryz.ntmps137;go_wp2_with (first
    |(go_at_call 211;(with_reducible refine HA.out.mono ?_);rintro e w1 ⟨rfl,hb⟩;have HB1:=hid hb;clear hb)
    |(go_at_call 123;(with_reducible refine(HF.out _ HB1.out).mono ?_);rintro e w2 ⟨rfl,hr2,ht2⟩;have HR2:=hid hr2;have HT2:=hid ((tg_of HB1.out).on ht2);clear hr2 ht2))
   go_ret;exact⟨rfl,HR2.out,HT2.out⟩
theorem pnumberOr_of (g:Nat) (t:JV) (cs:List Value) (z:Option B) (p:B) (X:ByteArray) (hX:X=str p) (hp:p.length≤4096) (d:Int) (w:World) (h:RdS_v w g t cs z):Calls Tryz.prog 68 #[.pointer (some ⟨g,0,none⟩),.string X,.int .i64 d] w fun e w'=>e= .returned (.int .i64 (intD t p d z).1)∧RdS_v w' g t cs (intD t p d z).2∧Tg g w w':=by
 have HR:=hid h;have HA:=hid (phas_any g t cs z p X hX hp w h);have HT:=hid (fun (W:World) (hb:Below w.heap.size w W)=>pnumber_of g t cs z p X hX hp W (h.next hb));unfold intD;clear h;by_cases h0:atV t p=none
 · rw [h0] at HA;rw [if_pos h0];clear h0 HT hX;dsimp only;go_enter Tryz.func68,Tryz.ntmps68;go_wp2_with (go_at_call 61;(with_reducible refine HA.out.mono ?_);rintro e w1 ⟨rfl,hb⟩;have HB1:=hid hb;clear hb);go_ret;exact⟨rfl,HR.out.next HB1.out,tg_of HB1.out⟩
 · rw [if_neg h0];rw [show (atV t p).isSome=true from Option.isSome_iff_ne_none.2 h0] at HA;clear h0 hX;go_enter Tryz.func68,Tryz.ntmps68;go_wp2_with (first
    |(go_at_call 61;(with_reducible refine HA.out.mono ?_);rintro e w1 ⟨rfl,hb⟩;have HB1:=hid hb;clear hb)
    |(go_at_call 137;(with_reducible refine(HT.out _ HB1.out).mono ?_);rintro e w2 ⟨rfl,hr2,ht2⟩;have HR2:=hid hr2;have HT2:=hid ((tg_of HB1.out).on ht2);clear hr2 ht2))
   go_ret;exact⟨rfl,HR2.out,HT2.out⟩
def putL (W:World) (b:Nat):Nat→List Value→World
 |_,[]=>W
 |k,v::vs=>putL (W.setCell ⟨b,k,none⟩ v) b (k+1) vs
def setFrom (cs:Array Value):Nat→List Value→Array Value
 |_,[]=>cs
 |k,v::vs=>setFrom (cs.setIfInBounds k v) (k+1) vs
theorem putL_same {b:Nat}{T:TypeId}:∀ (vs:List Value) (k:Nat) (W:World) (cs:Array Value),W.heap[b]?=some (.cells cs T (0,0))→(putL W b k vs).heap[b]?=some (.cells (setFrom cs k vs) T (0,0))
 | [],_,_,_,h=>h
 |v::vs,k,W,cs,h=>putL_same vs (k+1) _ _ (heap_setCell_same W b k cs T v h)
theorem putL_tg {b:Nat}:∀ (vs:List Value) (k:Nat) (W:World),Tg b W (putL W b k vs)
 | [],_,W=>Tg.refl b W
 |v::vs,k,W=>(tg_set W b k v).on (putL_tg vs (k+1) _)
theorem putL_size {b:Nat}:∀ (vs:List Value) (k:Nat) (W:World),(putL W b k vs).heap.size=W.heap.size
 | [],_,_=>rfl
 |v::vs,k,W=>(putL_size vs (k+1) _).trans (by simp [World.setCell])
theorem RdS_v.put {W:World}{g b:Nat}{t:JV}{cs:List Value}{z:Option B} (h:RdS_v W g t cs z) (hb:g<b) (k:Nat) (vs:List Value):RdS_v (putL W b k vs) g t cs z:=by
 have ht:=putL_tg (b:=b) vs k W;have hu:Below g W (putL W b k vs):=ht.under (Nat.le_of_lt h.lt) (by omega);exact⟨(ht.block g h.lt (by omega)).trans h.obj,h.val.below hu,h.fits,h.nums,fun V hV=>h.env V (hu.trans hV)⟩
theorem Tg.put {w W:World}{g b:Nat} (h:Tg g w W) (hb:w.heap.size≤b) (k:Nat) (vs:List Value):Tg g w (putL W b k vs):=by
 have ht:=putL_tg (b:=b) vs k W;exact⟨ht.os.trans h.os,ht.tape.trans h.tape,ht.output.trans h.output,Nat.le_trans h.size ht.size,fun i hi hf=>(ht.block i (Nat.lt_of_lt_of_le hi h.size) (by omega)).trans (h.block i hi hf)⟩
structure RW (w0 W:World) (g:Nat) (t:JV) (cs:List Value) (z:Option B) (b4 b5:Nat) (o4 o5:Obj):Prop where
 rd:RdS_v W g t cs z
 tg:Tg g w0 W
 h4:W.heap[b4]?=some o4
 h5:W.heap[b5]?=some o5
 l4:w0.heap.size≤b4
 l5:w0.heap.size≤b5
 ne:b4<b5
 lg:g<w0.heap.size
section
variable {w0 W W' : World} {g b4 b5 : Nat} {t : JV} {cs : List Value} {z z' : Option B} {o4 o5 : Obj} {ar : Array Value} {T : TypeId}
theorem RW.call (h:RW w0 W g t cs z b4 b5 o4 o5) (hr:RdS_v W' g t cs z') (ht:Tg g W W'):RW w0 W' g t cs z' b4 b5 o4 o5:=
 ⟨hr,h.tg.on ht,(ht.block b4 (lt_of_heap h.h4) (by have:=h.l4;have:=h.lg;omega)).trans h.h4,(ht.block b5 (lt_of_heap h.h5) (by have:=h.l5;have:=h.lg;omega)).trans h.h5,h.l4,h.l5,h.ne,h.lg⟩
theorem RW.put5 (h:RW w0 W g t cs z b4 b5 o4 (.cells ar T (0,0))) (k:Nat) (vs:List Value):RW w0 (putL W b5 k vs) g t cs z b4 b5 o4 (.cells (setFrom ar k vs) T (0,0)):=
 ⟨h.rd.put (by have:=h.l5;have:=h.lg;omega) k vs,h.tg.put h.l5 k vs,((putL_tg vs k W).block b4 (lt_of_heap h.h4) (by have:=h.ne;omega)).trans h.h4,putL_same vs k W ar h.h5,h.l4,h.l5,h.ne,h.lg⟩
theorem RW.put4 (h:RW w0 W g t cs z b4 b5 (.cells ar T (0,0)) o5) (k:Nat) (vs:List Value):RW w0 (putL W b4 k vs) g t cs z b4 b5 (.cells (setFrom ar k vs) T (0,0)) o5:=
 ⟨h.rd.put (by have:=h.l4;have:=h.lg;omega) k vs,h.tg.put h.l4 k vs,putL_same vs k W ar h.h4,((putL_tg vs k W).block b5 (lt_of_heap h.h5) (by have:=h.ne;omega)).trans h.h5,h.l4,h.l5,h.ne,h.lg⟩
theorem RW.new (hr:RdS_v W g t cs z) (ht:Tg g w0 W) (h4:W.heap[b4]?=some o4) (l4:w0.heap.size≤b4) (lg:g<w0.heap.size) (o5:Obj):RW w0 (W.alloc o5) g t cs z b4 W.heap.size o4 o5:=
 ⟨hr.next (below_new W o5),ht.new o5,((below_new W o5).block b4 (lt_of_heap h4)).trans h4,heap_alloc_new W o5,l4,ht.size,lt_of_heap h4,lg⟩
theorem RW.next (h:RW w0 W g t cs z b4 b5 o4 o5) (hb:Below W.heap.size W W'):RW w0 W' g t cs z b4 b5 o4 o5:=h.call (h.rd.next hb) (tg_of hb)
end
theorem names_row {W:World}{b:Nat}{ns:List B}{T:TypeId} (h:W.heap[b]?=some (.cells (ns.map (fun t=>Value.string (str t))).toArray T (0,0))):NamesOn W ns (some ⟨b,0,none⟩):=by
 intro j t hj;refine⟨b,0,rfl,?_⟩;simp [World.cell?,h,hj]
theorem path_str {p:B}{S:ByteArray} (s:B) (h:p≠ []) (hS:str p=S):S++str (46::s)=str (behindC p s):=by
 subst hS;unfold behindC;rw [if_neg h];apply arr_inj;simp
theorem path_len {p:B} (s:B) (h:p≠ []) (n:Nat) (hp:p.length≤n) (hs:s.length≤64):(behindC p s).length≤n+65:=by
 unfold behindC;rw [if_neg h];simp;omega
theorem two_new_v (w:World) (o1 o2:Obj):Below w.heap.size w ((w.alloc o1).alloc o2)∧((w.alloc o1).alloc o2).heap[w.heap.size]?=some o1∧((w.alloc o1).alloc o2).heap[w.heap.size+1]?=some o2:=
 ⟨(two_at_k w o1 o2).2.2,(two_at_k w o1 o2).1,(two_at_k w o1 o2).2.1⟩
theorem objM_none {v:JV}{p:B}{ns:List B}{z:Option B} (h:objM v p ns z=none):z=none:=by cases z with|none=>rfl|some q=>rw [objM_some] at h;cases h
theorem textM_none {v:JV}{p:B}{z:Option B} (h:(textM v p z).2=none):z=none:=by cases z with|none=>rfl|some q=>rw [textM_some] at h;cases h
theorem textD_none {v:JV}{p d:B}{z:Option B} (h:(textD v p d z).2=none):z=none:=by cases z with|none=>rfl|some q=>rw [textD_some] at h;cases h
theorem intM_none {v:JV}{p:B}{z:Option B} (h:(intM v p z).2=none):z=none:=by cases z with|none=>rfl|some q=>rw [intM_some] at h;cases h
theorem intD_none {v:JV}{p:B}{d:Int}{z:Option B} (h:(intD v p d z).2=none):z=none:=by cases z with|none=>rfl|some q=>rw [intD_some] at h;cases h
theorem textsM_none {v:JV}{p:B}{z:Option B} (h:(textsM v p z).2=none):z=none:=by cases z with|none=>rfl|some q=>rw [textsM_some] at h;cases h
theorem listM_none {α:Type}{f:B→Option B→α×Option B}{v:JV}{p:B}{z:Option B} (h:(listM f v p z).2=none):z=none:=by cases z with|none=>rfl|some q=>rw [listM_some] at h;cases h
theorem wordM_none {ws:List (B×Int)}{t:B×Option B}{p:B} (h:(wordM ws t p).2=none):t.2=none:=by
 cases h2:t.2 with
 |none=>rfl
 |some q=>rw [wordM_some ws t p q h2] at h;cases h
def chrL:List Int:=[65,66,67,68,69,70,71,72,73,74,75,76,77,78,79,80,81,82,83,84,85,86,87,88,89,90,97,98,99,100,101,102,103,104,105,106,107,108,109,110,111,112,113,114,115,116,117,118,119,120,121,122,48,49,50,51,52,53,54,55,56,57,45,95]
def chr (d:Int):Int:=chrL.getD d.toNat 0
def val_b (c:Int):Option Int:=
 if 65≤c∧c≤90 then some (c-65) else if 97≤c∧c≤122 then some (c-97+26) else if 48≤c∧c≤57 then some (c-48+52) else if c=45 then some 62 else if c=95 then some 63 else none
theorem all_nat {n:Nat}{p:Int→Prop} (h:∀ k:Fin n,p ((k.val:Nat):Int)) (x:Int) (h0:0≤x) (h1:x<n):p x:=by
 have:=h ⟨x.toNat,by omega⟩;simpa [Int.toNat_of_nonneg h0] using this
theorem val_chr (d:Int) (h0:0≤d) (h1:d<64):val_b (chr d)=some d:=
 all_nat (n:=64) (p:=fun d=>val_b (chr d)=some d) (by decide+kernel) d h0 h1
theorem chr_val (c d:Int) (h:val_b c=some d):chr d=c∧0≤d∧d<64:=by
 have h0:0≤c∧c<256:=by
  unfold val_b at h;repeat' split at h
  all_goals first|(simp at h;done)|omega
 revert h;have:=all_nat (n:=256) (p:=fun c=>∀ d∈val_b c,chr d=c∧0≤d∧d<64) (by decide+kernel) c h0.1 h0.2;exact fun h=>this d h
def encS (r:Nat) (p:Int):List Int→List Int
 | []=>if r=0 then [] else if r=1 then [p*16] else [p*4]
 |x::xs=>if r=0 then x / 4::encS 1 (x % 4) xs else if r=1 then (p*16+x / 16)::encS 2 (x % 16) xs else (p*4+x / 64)::x % 64::encS 0 0 xs
def textL (bs:List Int):List Int:=(encS 0 0 bs).map chr
def decS (r:Nat) (p:Int):List Int→Option (List Int)
 | []=>if p=0 then some [] else none
 |c::cs=>match val_b c with
  |none=>none
  |some d=>if r=0 then decS 1 d cs else if r=1 then (decS 2 (d % 16) cs).map ((p*4+d / 16):: ·) else if r=2 then (decS 3 (d % 4) cs).map ((p*16+d / 4):: ·) else (decS 0 0 cs).map ((p*64+d):: ·)
def bytesL (s:List Int):Option (List Int):=if s.length % 4=1 then none else decS 0 0 s
def Oct (bs:List Int):Prop:=∀ x∈bs,0≤x∧x<256
theorem Oct.tail {x:Int}{xs:List Int} (h:Oct (x::xs)):Oct xs:=fun y hy=>h y (List.mem_cons_of_mem _ hy)
theorem Oct.head {x:Int}{xs:List Int} (h:Oct (x::xs)):0≤x∧x<256:=h x (List.mem_cons_self ..)
theorem enc_len_b (bs:List Int):(encS 0 0 bs).length=(8*bs.length+5) / 6∧(∀ p,(encS 1 p bs).length=(8*bs.length+7) / 6)∧∀ p,(encS 2 p bs).length=(8*bs.length+9) / 6:=by
 induction bs with
 |nil=>simp [encS]
 |cons x xs ih=>
  refine⟨?_,?_,?_⟩
  · simp [encS,ih.2.1];omega
  · intro p;simp [encS,ih.2.2];omega
  · intro p;simp [encS,ih.1];omega
theorem back_S (bs:List Int) (h:Oct bs):decS 0 0 ((encS 0 0 bs).map chr)=some bs∧
 (∀ q p,0≤q→q<64→0≤p→p<4→decS 1 q ((encS 1 p bs).map chr)=some ((q*4+p)::bs))∧
 ∀ q p,0≤q→q<16→0≤p→p<16→decS 2 q ((encS 2 p bs).map chr)=some ((q*16+p)::bs):=by
 induction bs with
 |nil=>
  refine⟨by simp [encS,decS],?_,?_⟩
  · intro q p h0 h1 h2 h3;simp only [encS,Nat.one_ne_zero,if_false,if_true,List.map_cons,List.map_nil,decS,val_chr (p*16) (by omega) (by omega)];simp [show p*16 % 16=0 by omega,show p*16 / 16=p by omega]
  · intro q p h0 h1 h2 h3;simp [encS,show p*4 % 4=0 by omega,show p*4 / 4=p by omega,decS,val_chr (p*4) (by omega) (by omega)]
 |cons x xs ih=>
  have hx:=h.head;obtain⟨a,b,c⟩:=ih h.tail;refine⟨?_,?_,?_⟩
  · simp only [encS,if_true,List.map_cons,decS,val_chr (x / 4) (by omega) (by omega)];rw [b _ _ (by omega) (by omega) (by omega) (by omega)];simp;omega
  · intro q p h0 h1 h2 h3;simp only [encS,Nat.one_ne_zero,if_false,if_true,List.map_cons,decS,val_chr (p*16+x / 16) (by omega) (by omega)];rw [c _ _ (by omega) (by omega) (by omega) (by omega)];simp;omega
  · intro q p h0 h1 h2 h3;have e1:=val_chr (p*4+x / 64) (by omega) (by omega);have e2:=val_chr (x % 64) (by omega) (by omega);simp [encS,decS,e1,e2,a];omega
theorem back (bs:List Int) (h:Oct bs):bytesL (textL bs)=some bs:=by
 unfold bytesL textL;rw [if_neg (by simp [(enc_len_b bs).1];omega)];exact(back_S bs h).1
theorem only_S:∀ (s:List Int),(∀ bs,s.length % 4≠1→decS 0 0 s=some bs→Oct bs∧(encS 0 0 bs).map chr=s)∧
 (∀ q bs,0≤q→q<64→s.length % 4≠0→decS 1 q s=some bs→∃ p l,0≤p∧p<4∧bs=(q*4+p)::l∧Oct l∧(encS 1 p l).map chr=s)∧
 (∀ q bs,0≤q→q<16→s.length % 4≠3→s≠ []→decS 2 q s=some bs→∃ p l,0≤p∧p<16∧bs=(q*16+p)::l∧Oct l∧(encS 2 p l).map chr=s)∧
 ∀ q bs,0≤q→q<4→s.length % 4≠2→s≠ []→decS 3 q s=some bs→∃ p l,0≤p∧p<64∧bs=(q*64+p)::l∧Oct l∧chr p::(encS 0 0 l).map chr=s:=by
 intro s
 induction s with
 |nil=>
  refine⟨?_,?_,?_,?_⟩
  · intro bs _ h;simp [decS] at h;subst h;exact⟨by intro x hx;simp at hx,by simp [encS]⟩
  · intro q bs _ _ h;simp at h
  · intro q bs _ _ _ h;simp at h
  · intro q bs _ _ _ h;simp at h
 |cons c cs ih=>
  obtain⟨iA,iB,iC,iD⟩:=ih;refine⟨?_,?_,?_,?_⟩
  · intro bs hl h;simp only [List.length_cons] at hl;unfold decS at h;cases hv:val_b c with
    |none=>rw [hv] at h;simp at h
    |some d=>
     rw [hv] at h;simp only [if_true] at h;obtain⟨hc,h0,h1⟩:=chr_val c d hv;obtain⟨p,l,h2,h3,rfl,h4,h5⟩:=iB d bs h0 h1 (by omega) h;refine⟨?_,?_⟩
     · intro x hx;rcases List.mem_cons.1 hx with rfl|hx
       · omega
       · exact h4 x hx
     · simp [encS,show (d*4+p) / 4=d by omega,show (d*4+p) % 4=p by omega,hc,h5]
  · intro q bs hq0 hq1 hl h;simp only [List.length_cons] at hl;unfold decS at h;cases hv:val_b c with
    |none=>rw [hv] at h;simp at h
    |some d=>
     rw [hv] at h;simp at h;obtain⟨l,h,rfl⟩:=h;obtain⟨hc,h0,h1⟩:=chr_val c d hv;by_cases hn:cs= []
     · subst hn;simp [decS] at h;obtain⟨h2,rfl⟩:=h;exact⟨d / 16,[],by omega,by omega,rfl,by intro x hx;simp at hx,by simp [encS,show d / 16*16=d by omega,hc]⟩
     · obtain⟨p,l',h2,h3,rfl,h4,h5⟩:=iC (d % 16) l (by omega) (by omega) (by omega) hn h;refine⟨d / 16,_,by omega,by omega,rfl,?_,?_⟩
       · intro x hx;rcases List.mem_cons.1 hx with rfl|hx
         · omega
         · exact h4 x hx
       · simp [encS,show d / 16*16+(d % 16*16+p) / 16=d by omega,show (d % 16*16+p) % 16=p by omega,hc,h5]
  · intro q bs hq0 hq1 hl _ h;simp only [List.length_cons] at hl;unfold decS at h;cases hv:val_b c with
    |none=>rw [hv] at h;simp at h
    |some d=>
     rw [hv] at h;simp at h;obtain⟨l,h,rfl⟩:=h;obtain⟨hc,h0,h1⟩:=chr_val c d hv;by_cases hn:cs= []
     · subst hn;simp [decS] at h;obtain⟨h2,rfl⟩:=h;exact⟨d / 4,[],by omega,by omega,rfl,by intro x hx;simp at hx,by simp [encS,show d / 4*4=d by omega,hc]⟩
     · obtain⟨p,l',h2,h3,rfl,h4,h5⟩:=iD (d % 4) l (by omega) (by omega) (by omega) hn h;refine⟨d / 4,_,by omega,by omega,rfl,?_,?_⟩
       · intro x hx;rcases List.mem_cons.1 hx with rfl|hx
         · omega
         · exact h4 x hx
       · simp [encS,show d / 4*4+(d % 4*64+p) / 64=d by omega,show (d % 4*64+p) % 64=p by omega,hc];exact h5
  · intro q bs hq0 hq1 hl _ h;simp only [List.length_cons] at hl;unfold decS at h;cases hv:val_b c with
    |none=>rw [hv] at h;simp at h
    |some d=>
     rw [hv] at h;simp at h;obtain⟨l,h,rfl⟩:=h;obtain⟨hc,h0,h1⟩:=chr_val c d hv;obtain⟨h4,h5⟩:=iA l (by omega) h;exact⟨d,l,h0,h1,rfl,h4,by rw [hc,h5]⟩
theorem only (s bs:List Int) (h:bytesL s=some bs):Oct bs∧textL bs=s:=by
 unfold bytesL at h;split at h
 · simp at h
 · exact(only_S s).1 bs (by assumption) h
def bitAt (bs:List Int) (j:Nat):Int:=bs.getD (j / 8) 0 / 2 ^ (7-j % 8) % 2
def part (bs:List Int) (i:Nat):Nat→Int
 |0=>0
 |t+1=>2*part bs i t+bitAt bs (i+t)
def bytesB (l:List Int):B:=l.map fun n=>UInt8.ofNat n.toNat
def numsB (s:B):List Int:=s.map fun b=>(b.toNat:Int)
def askB:AskB:=⟨fun s=>(bytesL (numsB s)).map bytesB,fun s=>bytesB (textL (numsB s))⟩
def secM (k:AskB) (v:JV) (p:B) (z:Option B):B×Option B:=
 ((k.dec (textM v p z).1).getD [],if (k.dec (textM v p z).1).isSome then (textM v p z).2 else failM (textM v p z).2 p)
theorem text_short_v {t:JV}{p:B}{z:Option B} (h:Fits_k t):(textM t p z).1.length≤1048576:=by
 have h2:=fits_kind t (steps p) (k:=4) h;show (ofKind 4 (goto t (steps p))).1.text.length≤1048576;cases h3:(ofKind 4 (goto t (steps p))).1 with
 |mk k b s n hh ls ns=>
  rw [h3] at h2;unfold Fits_k at h2;exact h2.1
def textJ (s:B):JV:=.mk 4 false s 0 false [] []
def numJ (n:Int):JV:=.mk 3 false (Lib.itoa n) n true [] []
def listJ (l:List JV):JV:=.mk 5 false [] 0 false l []
def objJ (l:List (B×JV)):JV:=.mk 6 false [] 0 false (l.map (·.2)) (l.map (·.1))
abbrev Ms:=List (B×JV)
def optT (n s d:B):Ms:=if s=d then [] else [(n,textJ s)]
def optN (n:B) (k d:Int):Ms:=if k=d then [] else [(n,numJ k)]
def optL (n:B) (l:List B):Ms:=if l= [] then [] else [(n,listJ (l.map textJ))]
def keyJ (k:AskB) (x:KeyC):JV:=objJ [(n_id,textJ x.id),(n_secret,textJ (k.enc x.sec))]
def backJ (x:BackC):JV:=objJ ((n_addr,textJ x.addr)::optN n_weight x.wt 1)
def breakJ (a b:Int):JV:=objJ [(n_fails,numJ a),(n_open,numJ b)]
def probeJ (x:ProbeC):JV:=objJ [(n_path,textJ x.path),(n_every,numJ x.every),(n_timeout,numJ x.timeout),(n_rise,numJ x.rise),(n_fall,numJ x.fall)]
def polW (n:Int):B:=if n=1 then n_turns else n_hash
def byW (n:Int):B:=if n=1 then n_client else n_subject
def poolMs (x:PoolC):Ms:=[(n_name,textJ x.name),(n_backends,listJ (x.backs.map backJ))]++(optT n_policy (polW x.policy) n_turns++(optN n_retries x.retries 0++(optN n_timeout x.timeout 30++
 ((if x.fails=0∧x.opn=0 then [] else [(n_breaker,breakJ x.fails x.opn)])++(if x.probe=⟨[],0,0,0,0⟩ then [] else [(n_probe,probeJ x.probe)])))))
def poolJ (x:PoolC):JV:=objJ (poolMs x)
def authJ (x:AuthC):JV:=objJ (optT n_issuer x.iss []++(optT n_audience x.aud []++(optL n_scopes x.scopes++optN n_leeway x.leeway 0)))
def limJ (x:LimC):JV:=objJ [(n_by,textJ (byW x.by_)),(n_rate,numJ x.rate),(n_per,numJ x.per),(n_burst,numJ x.burst)]
def routeMs (x:RouteC):Ms:=[(n_host,textJ x.host),(n_path,textJ x.path)]++(optL n_methods x.methods++((n_pool,textJ x.pool)::((if x.auth.on then [(n_auth,authJ x.auth)] else [])++(if x.lim=⟨0,0,0,0⟩ then [] else [(n_limit,limJ x.lim)]))))
def routeJ (x:RouteC):JV:=objJ (routeMs x)
def cfgMs (k:AskB) (c:CfgC):Ms:=(if c.keys= [] then [] else [(n_keys,listJ (c.keys.map (keyJ k)))])++((n_pools,listJ (c.pools.map poolJ))::(n_routes,listJ (c.routes.map routeJ))::
 (optN n_maxhead c.maxhead 8192++(optN n_maxbody c.maxbody 65536++(optN n_maxconns c.maxconns 64++(optN n_idle c.idle 60++optN n_header c.header 10)))))
def cfgJ (k:AskB) (c:CfgC):JV:=objJ (cfgMs k c)
def child (x:JV) (s:B):Option JV:=(placeN x s).bind fun i=>x.parts[i]?
theorem goto_one (x:JV) (s:B):goto x [s]=child x s:=by
 unfold child;simp only [goto];cases placeN x s with
 |none=>rfl
 |some i=>cases h:x.parts[i]? <;> simp [h]
def Step (s:B):Prop:=s≠ []∧∀ x∈s,x≠46
def stepB (s:B):Bool:=!s.isEmpty && s.all (· != 46)
theorem step_of {s:B} (h:stepB s=true):Step s:=by
 unfold stepB at h;rw [Bool.and_eq_true,List.all_eq_true] at h;refine⟨fun e=>by rw [e] at h;simp at h,fun x hx=>?_⟩;simpa using h.2 x hx
theorem steps_one {s:B} (h:Step s):steps s= [s]:=by
 unfold steps;rw [if_neg h.1,cutL_none_k s h.2]
theorem steps_behind (p:B) {s:B} (h:Step s):steps (behindC p s)=steps p++ [s]:=by
 unfold behindC;by_cases hp:p= []
 · rw [if_pos hp,hp,steps_one h];rfl
 · rw [if_neg hp];unfold steps;rw [if_neg (by simp),if_neg hp,cutL_join,cutL_none_k s h.2]
theorem at_behind (v:JV) (p:B) {s:B} (h:Step s):atV v (behindC p s)=(atV v p).bind (child · s):=by
 unfold atV;rw [steps_behind p h,goto_append];cases goto v (steps p) with
 |none=>rfl
 |some x=>exact goto_one x s
def getM (l:Ms) (s:B):Option JV:=(l.find? (fun e=>e.1== s)).map (·.2)
theorem getM_nil (s:B):getM [] s=none:=rfl
theorem getM_cons (e:B×JV) (l:Ms) (s:B):getM (e::l) s=if e.1=s then some e.2 else getM l s:=by
 unfold getM;rw [List.find?_cons];by_cases h:e.1=s
 · simp [h]
 · rw [if_neg h,beq_eq_false_iff_ne.2 h]
theorem getM_app (a b:Ms) (s:B):getM (a++b) s=(getM a s).or (getM b s):=by
 unfold getM;rw [List.find?_append];cases List.find? (fun e=>e.1== s) a <;> simp
theorem child_obj:∀ (l:Ms) {s:B},s≠ []→child (objJ l) s=getM l s:=by
 intro l s hs;unfold child objJ;rw [place_obj hs];unfold nameAt
 induction l with
 |nil=>simp [getM_nil]
 |cons e l ih=>
  rw [getM_cons];by_cases h:e.1=s
  · rw [if_pos h];subst h;simp [JV.parts]
  · rw [if_neg h,←ih];simp only [List.map_cons,List.idxOf_cons,beq_eq_false_iff_ne.2 h,cond_false,List.length_cons];by_cases hk:List.idxOf s (l.map (·.1))<(l.map (·.1)).length∧List.idxOf s (l.map (·.1))<(l.map (·.2)).length
    · rw [if_pos hk,if_pos ⟨by omega,by omega⟩];simp [JV.parts]
    · rw [if_neg hk,if_neg (by omega)];rfl
theorem child_list (l:List JV) (i:Nat) (h:i<l.length) (hl:l.length≤1099511627776) (hs:numC i≠ []):child (listJ l) (numC i)=some l[i]:=by
 unfold child listJ;rw [place_list hs];unfold numC;rw [numAt_of h hl];simp [JV.parts,h]
theorem optT_get (n s d t:B):getM (optT n s d) t=if n=t then (if s=d then none else some (textJ s)) else none:=by
 unfold optT;split
 · rw [getM_nil];split <;> rfl
 · rw [getM_cons,getM_nil]
theorem optN_get (n:B) (k d:Int) (t:B):getM (optN n k d) t=if n=t then (if k=d then none else some (numJ k)) else none:=by
 unfold optN;split
 · rw [getM_nil];split <;> rfl
 · rw [getM_cons,getM_nil]
theorem optL_get (n:B) (l:List B) (t:B):getM (optL n l) t=if n=t then (if l= [] then none else some (listJ (l.map textJ))) else none:=by
 unfold optL;split
 · rw [getM_nil];split <;> rfl
 · rw [getM_cons,getM_nil]
theorem ite_get (P:Prop) [Decidable P] (n:B) (x:JV) (t:B):getM (if P then [] else [(n,x)]) t=if n=t then (if P then none else some x) else none:=by
 split
 · rw [getM_nil];split <;> rfl
 · rw [getM_cons,getM_nil]
theorem ite_get2 (P:Prop) [Decidable P] (n:B) (x:JV) (t:B):getM (if P then [(n,x)] else []) t=if n=t then (if P then some x else none) else none:=by
 split
 · rw [getM_cons,getM_nil]
 · rw [getM_nil];split <;> rfl
def namesIn (l:Ms) (ns:List B):Bool:=l.all (fun e=>ns.contains e.1)
theorem only_obj (l:Ms) (ns:List B):onlyN (ofKind 6 (some (objJ l))) ns=if namesIn l ns then 0 else 10:=by
 unfold onlyN ofKind objJ namesIn;simp only [JV.kind,JV.names,List.all_map,if_true,ne_eq,not_true_eq_false,if_false,Function.comp_def]
theorem in_cons (e:B×JV) (l:Ms) (ns:List B):namesIn (e::l) ns=(ns.contains e.1 && namesIn l ns):=rfl
theorem in_app (a b:Ms) (ns:List B):namesIn (a++b) ns=(namesIn a ns && namesIn b ns):=by unfold namesIn;rw [List.all_append]
theorem in_optT {n s d:B}{ns:List B} (h:ns.contains n=true):namesIn (optT n s d) ns=true:=by unfold optT;split;rfl;rw [in_cons,h];rfl
theorem in_optN {n:B}{k d:Int}{ns:List B} (h:ns.contains n=true):namesIn (optN n k d) ns=true:=by unfold optN;split;rfl;rw [in_cons,h];rfl
theorem in_optL {n:B}{l:List B}{ns:List B} (h:ns.contains n=true):namesIn (optL n l) ns=true:=by unfold optL;split;rfl;rw [in_cons,h];rfl
theorem in_ite {P:Prop} [Decidable P] {n:B}{x:JV}{ns:List B} (h:ns.contains n=true):namesIn (if P then [] else [(n,x)]) ns=true:=by split;rfl;rw [in_cons,h];rfl
theorem in_ite2 {P:Prop} [Decidable P] {n:B}{x:JV}{ns:List B} (h:ns.contains n=true):namesIn (if P then [(n,x)] else []) ns=true:=by
 split
 · rw [in_cons,h];rfl
 · rfl
end Go.Proofs.YtlmefgjhbohjlaaGreatDoor
