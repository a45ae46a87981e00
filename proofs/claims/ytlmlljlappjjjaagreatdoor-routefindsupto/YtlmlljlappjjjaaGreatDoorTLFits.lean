/- What the laws call: an error's number, fields and texts held against each other; Beats, and the document's Fits and Beats; what must come whatever the input is. -/
import Derived.Test.YtlmlljlappjjjaaGreatDoorHFine
namespace Go.Proofs.YtlmlljlappjjjaaGreatDoor
set_option maxRecDepth 20000
set_option maxHeartbeats 8000000
open Go.RowKit
def RFitsAns (o:Option (Option (List (B×B)))) (w:World) (e:Ending) (w':World):Prop:=Below w.heap.size w w'∧match o with
 |none=>e= .returned (.tuple #[.bool false,.slice none 0 0,.int .i64 3])
 |some none=>e= .returned (.tuple #[.bool false,.slice none 0 0,.int .i64 0])
 |some (some F)=>∃ q d,e= .returned (.tuple #[.bool true,.slice q F.length d,.int .i64 0])∧OwnF w' w.heap.size (.slice q F.length d) F
theorem rfitsO_any (pa path:B) (ha:pa.length≤4398046511104) (hp:path.length≤4294967280) (w:World):Calls Tryz.prog 22 #[.string (str pa),.string (str path)] w fun e w'=>RFitsAns (fitsO pa path) w e w':=by
 have HCk:=hid (fun W:World=>rcheck_any_r pa ha W);obtain⟨ck,hck⟩:∃ ck,checkP pa=ck:=⟨_,rfl⟩;have HCk2:=hid (show ∀ W:World,Calls Tryz.prog 28 #[.string (str pa)] W fun e w'=>e= .returned (.int .i64 (if ck then 0 else 3))∧Below W.heap.size W w' from fun W=>by have h:=HCk.out W;unfold RChkAns at h;rw [hck] at h;exact h);clear HCk;cases hb:begB 47 path with
 |false=>
  have e1:fitsO pa path=none:=by unfold fitsO;rw [hb,Bool.and_false];rfl
  have HSp:=hid (fun W:World=>rsplit_none (p:=path) (by omega) hb W);rw [e1];obtain⟨S,hS⟩:∃ S,str pa=S:=⟨_,rfl⟩;obtain⟨Y,hY⟩:∃ S,str path=S:=⟨_,rfl⟩;rw [hS] at HCk2 ⊢;rw [hY] at HSp ⊢;clear hS hY ha hp hb e1 hck;cases ck with
  |false=>
   rw [if_neg (by decide)] at HCk2;go_enter Tryz.func22,Tryz.ntmps22;go_wp2_with (first|(go_at_call 53;(with_reducible refine(HSp.out _).mono ?_);rintro e w1 ⟨rfl,hw1⟩;subst w1)|(go_at_call 28;(with_reducible refine(HCk2.out _).mono ?_);rintro e w2 ⟨rfl,hb2⟩;have HB2:=hid hb2;clear hb2));go_ret3;exact⟨HB2.out,rfl⟩
  |true=>
   rw [if_pos rfl] at HCk2;go_enter Tryz.func22,Tryz.ntmps22;go_wp2_with (first|(go_at_call 53;(with_reducible refine(HSp.out _).mono ?_);rintro e w1 ⟨rfl,hw1⟩;subst w1)|(go_at_call 28;(with_reducible refine(HCk2.out _).mono ?_);rintro e w2 ⟨rfl,hb2⟩;have HB2:=hid hb2;clear hb2));go_ret3;exact⟨HB2.out,rfl⟩
 |true=>
  obtain⟨t,rfl⟩:=beg_cons hb;have htl:t.length≤4294967280:=by simp at hp;omega
  have HSp:=hid (fun W:World=>rsplit_yes t (by omega) W);have hcl:=cutT_len t;obtain⟨X,hX⟩:∃ X,cutT t=X:=⟨_,rfl⟩;obtain⟨n,hn⟩:∃ n,X.length=n:=⟨_,rfl⟩;have HN:=hid hn;rw [hX,hn] at HSp hcl;cases ck with
  |false=>
   have e1:fitsO pa (47::t)=none:=by unfold fitsO;rw [hck];rfl
   rw [e1];rw [if_neg (by decide)] at HCk2;obtain⟨S,hS⟩:∃ S,str pa=S:=⟨_,rfl⟩;obtain⟨Y,hY⟩:∃ S,str (47::t)=S:=⟨_,rfl⟩;rw [hS] at HCk2 ⊢;rw [hY] at HSp ⊢;clear hS hY ha hp hb e1 hck hX hn;go_enter Tryz.func22,Tryz.ntmps22;go_wp2_with (first|(go_at_call 53;(with_reducible refine(HSp.out _).mono ?_);rintro e w1 ⟨p1,c1,rfl,ho,hb1⟩;have HB1:=hid hb1;clear hb1 ho)|(go_at_call 28;(with_reducible refine(HCk2.out _).mono ?_);rintro e w2 ⟨rfl,hb2⟩;have HB2:=hid (below_out HB1.out hb2);clear hb2));go_ret3;exact⟨HB2.out,rfl⟩
  |true=>
   rw [if_pos rfl] at HCk2;obtain⟨tp,etp,h64,h256,hrl⟩:=check_parts hck;have e1:fitsO pa (47::t)=some (fitsT (cutT tp) X):=by unfold fitsO;rw [hck,hb,etp];show some (fitsT (cutT tp) (cutT t))=_;rw [hX]
   rw [e1];have HFt:=hid (fun (py:Option Addr) (c:Nat) (hc:n≤c) (W:World) (h:TxAt W py X)=>rfits_any_r tp (by rw [etp] at h256;simp at h256;omega) X py n c HN.out (by omega) hc (by rw [←hX,joinT_cut];omega) W h);rw [←etp] at HFt;obtain⟨S,hS⟩:∃ S,str pa=S:=⟨_,rfl⟩;obtain⟨Y,hY⟩:∃ S,str (47::t)=S:=⟨_,rfl⟩;rw [hS] at HCk2 HFt ⊢;rw [hY] at HSp ⊢;obtain⟨R,hR⟩:∃ R,fitsT (cutT tp) X=R:=⟨_,rfl⟩;rw [hR] at HFt ⊢;clear hS hY ha hp hb e1 hck hX hn hR etp h64 h256 hrl;cases R with
   |none=>
    go_enter Tryz.func22,Tryz.ntmps22;go_wp2_with (first|(go_at_call 53;(with_reducible refine(HSp.out _).mono ?_);rintro e w1 ⟨p1,c1,rfl,ho,hb1⟩;have HB1:=hid hb1;have HCp:=hid ho.cap;have HTx:=hid ho.tx;clear hb1 ho)|(go_at_call 28;(with_reducible refine(HCk2.out _).mono ?_);rintro e w2 ⟨rfl,hb2⟩;have HB2:=hid (below_out HB1.out hb2);have HT2:=hid (HTx.out.next hb2);clear hb2)|(go_at_call 54;(with_reducible refine(HFt.out _ _ HCp.out _ HT2.out).mono ?_);rintro e w3 ⟨rfl,hb3⟩;have HB3:=hid (below_out HB2.out hb3);clear hb3));go_ret3;exact⟨HB3.out,rfl⟩
   |some F=>
    obtain⟨L,hL⟩:∃ L,F.length=L:=⟨_,rfl⟩;have HF2:=hid (fun (py:Option Addr) (c:Nat) (hc:n≤c) (W:World) (h:TxAt W py X)=>(HFt.out py c hc W h).mono (R':=fun e w'=>∃ q d,e= .returned (.tuple #[.bool true,.slice q L d])∧OwnF w' W.heap.size (.slice q L d) F∧Below W.heap.size W w') (by rintro e w' ⟨q,d,h3,h4⟩;rw [hL] at h3 h4;exact⟨q,d,h3,h4⟩));have HL:=hid hL;clear hL HFt;go_enter Tryz.func22,Tryz.ntmps22;go_wp2_with (first|(go_at_call 53;(with_reducible refine(HSp.out _).mono ?_);rintro e w1 ⟨p1,c1,rfl,ho,hb1⟩;have HB1:=hid hb1;have HCp:=hid ho.cap;have HTx:=hid ho.tx;clear hb1 ho)|(go_at_call 28;(with_reducible refine(HCk2.out _).mono ?_);rintro e w2 ⟨rfl,hb2⟩;have HB2:=hid (below_out HB1.out hb2);have HT2:=hid (HTx.out.next hb2);clear hb2)|(go_at_call 54;(with_reducible refine(HF2.out _ _ HCp.out _ HT2.out).mono ?_);rintro e w3 ⟨q3,d3,rfl,ho3,hb3⟩;have HO3:=hid (ho3.lowT HB2.out.size);have HB3:=hid (below_out HB2.out hb3);clear hb3 ho3));go_ret3;exact⟨HB3.out,q3,d3,by rw [HL.out];rfl,by rw [HL.out];exact HO3.out⟩
theorem rfits_none {pa path:B} (ha:pa.length≤4398046511104) (hp:path.length≤4294967280) (h:fitsO pa path=none) (w:World) (_:MxAt w):Calls Tryz.prog 22 #[.string (str pa),.string (str path)] w fun e w'=>(∃ v,e= .returned (.tuple #[.bool false,v,.int .i64 3]))∧Below w.heap.size w w':=by
 refine(rfitsO_any pa path ha hp w).mono ?_;rw [h];rintro e w' ⟨hb,he⟩;exact⟨⟨_,he⟩,hb⟩
theorem rfits_no {pa path:B} (ha:pa.length≤4398046511104) (hp:path.length≤4294967280) (h:fitsO pa path=some none) (w:World) (_:MxAt w):Calls Tryz.prog 22 #[.string (str pa),.string (str path)] w fun e w'=>(∃ v,e= .returned (.tuple #[.bool false,v,.int .i64 0]))∧Below w.heap.size w w':=by
 refine(rfitsO_any pa path ha hp w).mono ?_;rw [h];rintro e w' ⟨hb,he⟩;exact⟨⟨_,he⟩,hb⟩
theorem rfits_yes {pa path:B}{F:List (B×B)} (ha:pa.length≤4398046511104) (hp:path.length≤4294967280) (h:fitsO pa path=some (some F)) (w:World) (_:MxAt w):Calls Tryz.prog 22 #[.string (str pa),.string (str path)] w fun e w'=>(∃ v,e= .returned (.tuple #[.bool true,v,.int .i64 0]))∧Below w.heap.size w w':=by
 refine(rfitsO_any pa path ha hp w).mono ?_;rw [h];rintro e w' ⟨hb,q,d,he,_⟩;exact⟨⟨_,he⟩,hb⟩
theorem fitsO_check {a path:B}{o:Option (List (B×B))} (h:fitsO a path=some o):checkP a=true:=by
 unfold fitsO at h;cases hc:checkP a with
 |true=>rfl
 |false=>rw [hc] at h;cases h
theorem rbetter_yes {pa pb:B} (ha:checkP pa=true) (hb:checkP pb=true) (w:World) (_:MxAt w):Calls Tryz.prog 73 #[.string (str pa),.string (str pb)] w fun e w'=>e= .returned (.bool (betterT (cutT pa.tail) (cutT pb.tail)))∧Below w.heap.size w w':=by
 obtain⟨ta,rfl,_,h1,_⟩:=check_parts ha;obtain⟨tb,rfl,_,h2,_⟩:=check_parts hb;simp at h1 h2;exact rbetter_any ta tb (by omega) (by omega) w
theorem rbeats_any (a b path:B) (ha:a.length≤4398046511104) (hb:b.length≤4398046511104) (hp:path.length≤4294967280) (w:World) (hmx:MxAt w):Calls Tryz.prog 38 #[.string (str a),.string (str b),.string (str path)] w fun e w'=>e= .returned (.tuple #[.bool (beatsO a b path).1,.int .i64 ((beatsO a b path).2:Int)])∧Below w.heap.size w w':=by
 have HMx:=hid hmx;obtain⟨SA,hSA⟩:∃ S,str a=S:=⟨_,rfl⟩;obtain⟨SB,hSB⟩:∃ S,str b=S:=⟨_,rfl⟩;obtain⟨SP,hSP⟩:∃ S,str path=S:=⟨_,rfl⟩;rcases ho:fitsO a path with _|(_|F)
 · rcases hq:fitsO b path with _|(_|F2)
   · have e1:beatsO a b path=(false,3):=by unfold beatsO;rw [ho,hq]
     have H1:=hid (fun (W:World) (h:MxAt W)=>rfits_none ha hp ho W h);have H2:=hid (fun (W:World) (h:MxAt W)=>rfits_none hb hp hq W h);rw [e1];dsimp only;rw [hSA,hSP] at H1;rw [hSB,hSP] at H2;rw [hSA,hSB,hSP];clear hSA hSB hSP ho hq e1 ha hb hp hmx;go_enter Tryz.func38,Tryz.ntmps38;go_wp2_with (first|(go_at_call 22;first|((with_reducible refine(H1.out _ HMx.out).mono ?_);rintro e w1 ⟨⟨v1,rfl⟩,hb1⟩;have HB1:=hid hb1;have HM1:=hid (HMx.out.next hb1);clear hb1 H1)|((with_reducible refine(H2.out _ HM1.out).mono ?_);rintro e w2 ⟨⟨v2,rfl⟩,hb2⟩;have HB2:=hid (below_out HB1.out hb2);have HM2:=hid (HM1.out.next hb2);clear hb2 H2))|(go_at_call 73;(with_reducible refine(H3.out _ HM2.out).mono ?_);rintro e w3 ⟨rfl,hb3⟩;have HB3:=hid (below_out HB2.out hb3);clear hb3));go_ret2;exact⟨rfl,HB2.out⟩
   · have e1:beatsO a b path=(false,3):=by unfold beatsO;rw [ho,hq]
     have H1:=hid (fun (W:World) (h:MxAt W)=>rfits_none ha hp ho W h);have H2:=hid (fun (W:World) (h:MxAt W)=>rfits_no hb hp hq W h);rw [e1];dsimp only;rw [hSA,hSP] at H1;rw [hSB,hSP] at H2;rw [hSA,hSB,hSP];clear hSA hSB hSP ho hq e1 ha hb hp hmx;go_enter Tryz.func38,Tryz.ntmps38;go_wp2_with (first|(go_at_call 22;first|((with_reducible refine(H1.out _ HMx.out).mono ?_);rintro e w1 ⟨⟨v1,rfl⟩,hb1⟩;have HB1:=hid hb1;have HM1:=hid (HMx.out.next hb1);clear hb1 H1)|((with_reducible refine(H2.out _ HM1.out).mono ?_);rintro e w2 ⟨⟨v2,rfl⟩,hb2⟩;have HB2:=hid (below_out HB1.out hb2);have HM2:=hid (HM1.out.next hb2);clear hb2 H2))|(go_at_call 73;(with_reducible refine(H3.out _ HM2.out).mono ?_);rintro e w3 ⟨rfl,hb3⟩;have HB3:=hid (below_out HB2.out hb3);clear hb3));go_ret2;exact⟨rfl,HB2.out⟩
   · have e1:beatsO a b path=(false,3):=by unfold beatsO;rw [ho,hq]
     have H1:=hid (fun (W:World) (h:MxAt W)=>rfits_none ha hp ho W h);have H2:=hid (fun (W:World) (h:MxAt W)=>rfits_yes hb hp hq W h);rw [e1];dsimp only;rw [hSA,hSP] at H1;rw [hSB,hSP] at H2;rw [hSA,hSB,hSP];clear hSA hSB hSP ho hq e1 ha hb hp hmx;go_enter Tryz.func38,Tryz.ntmps38;go_wp2_with (first|(go_at_call 22;first|((with_reducible refine(H1.out _ HMx.out).mono ?_);rintro e w1 ⟨⟨v1,rfl⟩,hb1⟩;have HB1:=hid hb1;have HM1:=hid (HMx.out.next hb1);clear hb1 H1)|((with_reducible refine(H2.out _ HM1.out).mono ?_);rintro e w2 ⟨⟨v2,rfl⟩,hb2⟩;have HB2:=hid (below_out HB1.out hb2);have HM2:=hid (HM1.out.next hb2);clear hb2 H2))|(go_at_call 73;(with_reducible refine(H3.out _ HM2.out).mono ?_);rintro e w3 ⟨rfl,hb3⟩;have HB3:=hid (below_out HB2.out hb3);clear hb3));go_ret2;exact⟨rfl,HB2.out⟩
 · rcases hq:fitsO b path with _|(_|F2)
   · have e1:beatsO a b path=(false,3):=by unfold beatsO;rw [ho,hq]
     have H1:=hid (fun (W:World) (h:MxAt W)=>rfits_no ha hp ho W h);have H2:=hid (fun (W:World) (h:MxAt W)=>rfits_none hb hp hq W h);rw [e1];dsimp only;rw [hSA,hSP] at H1;rw [hSB,hSP] at H2;rw [hSA,hSB,hSP];clear hSA hSB hSP ho hq e1 ha hb hp hmx;go_enter Tryz.func38,Tryz.ntmps38;go_wp2_with (first|(go_at_call 22;first|((with_reducible refine(H1.out _ HMx.out).mono ?_);rintro e w1 ⟨⟨v1,rfl⟩,hb1⟩;have HB1:=hid hb1;have HM1:=hid (HMx.out.next hb1);clear hb1 H1)|((with_reducible refine(H2.out _ HM1.out).mono ?_);rintro e w2 ⟨⟨v2,rfl⟩,hb2⟩;have HB2:=hid (below_out HB1.out hb2);have HM2:=hid (HM1.out.next hb2);clear hb2 H2))|(go_at_call 73;(with_reducible refine(H3.out _ HM2.out).mono ?_);rintro e w3 ⟨rfl,hb3⟩;have HB3:=hid (below_out HB2.out hb3);clear hb3));go_ret2;exact⟨rfl,HB2.out⟩
   · have e1:beatsO a b path=(false,8):=by unfold beatsO;rw [ho,hq]
     have H1:=hid (fun (W:World) (h:MxAt W)=>rfits_no ha hp ho W h);have H2:=hid (fun (W:World) (h:MxAt W)=>rfits_no hb hp hq W h);rw [e1];dsimp only;rw [hSA,hSP] at H1;rw [hSB,hSP] at H2;rw [hSA,hSB,hSP];clear hSA hSB hSP ho hq e1 ha hb hp hmx;go_enter Tryz.func38,Tryz.ntmps38;go_wp2_with (first|(go_at_call 22;first|((with_reducible refine(H1.out _ HMx.out).mono ?_);rintro e w1 ⟨⟨v1,rfl⟩,hb1⟩;have HB1:=hid hb1;have HM1:=hid (HMx.out.next hb1);clear hb1 H1)|((with_reducible refine(H2.out _ HM1.out).mono ?_);rintro e w2 ⟨⟨v2,rfl⟩,hb2⟩;have HB2:=hid (below_out HB1.out hb2);have HM2:=hid (HM1.out.next hb2);clear hb2 H2))|(go_at_call 73;(with_reducible refine(H3.out _ HM2.out).mono ?_);rintro e w3 ⟨rfl,hb3⟩;have HB3:=hid (below_out HB2.out hb3);clear hb3));go_ret2;exact⟨rfl,HB2.out⟩
   · have e1:beatsO a b path=(false,8):=by unfold beatsO;rw [ho,hq]
     have H1:=hid (fun (W:World) (h:MxAt W)=>rfits_no ha hp ho W h);have H2:=hid (fun (W:World) (h:MxAt W)=>rfits_yes hb hp hq W h);rw [e1];dsimp only;rw [hSA,hSP] at H1;rw [hSB,hSP] at H2;rw [hSA,hSB,hSP];clear hSA hSB hSP ho hq e1 ha hb hp hmx;go_enter Tryz.func38,Tryz.ntmps38;go_wp2_with (first|(go_at_call 22;first|((with_reducible refine(H1.out _ HMx.out).mono ?_);rintro e w1 ⟨⟨v1,rfl⟩,hb1⟩;have HB1:=hid hb1;have HM1:=hid (HMx.out.next hb1);clear hb1 H1)|((with_reducible refine(H2.out _ HM1.out).mono ?_);rintro e w2 ⟨⟨v2,rfl⟩,hb2⟩;have HB2:=hid (below_out HB1.out hb2);have HM2:=hid (HM1.out.next hb2);clear hb2 H2))|(go_at_call 73;(with_reducible refine(H3.out _ HM2.out).mono ?_);rintro e w3 ⟨rfl,hb3⟩;have HB3:=hid (below_out HB2.out hb3);clear hb3));go_ret2;exact⟨rfl,HB2.out⟩
 · rcases hq:fitsO b path with _|(_|F2)
   · have e1:beatsO a b path=(false,3):=by unfold beatsO;rw [ho,hq]
     have H1:=hid (fun (W:World) (h:MxAt W)=>rfits_yes ha hp ho W h);have H2:=hid (fun (W:World) (h:MxAt W)=>rfits_none hb hp hq W h);rw [e1];dsimp only;rw [hSA,hSP] at H1;rw [hSB,hSP] at H2;rw [hSA,hSB,hSP];clear hSA hSB hSP ho hq e1 ha hb hp hmx;go_enter Tryz.func38,Tryz.ntmps38;go_wp2_with (first|(go_at_call 22;first|((with_reducible refine(H1.out _ HMx.out).mono ?_);rintro e w1 ⟨⟨v1,rfl⟩,hb1⟩;have HB1:=hid hb1;have HM1:=hid (HMx.out.next hb1);clear hb1 H1)|((with_reducible refine(H2.out _ HM1.out).mono ?_);rintro e w2 ⟨⟨v2,rfl⟩,hb2⟩;have HB2:=hid (below_out HB1.out hb2);have HM2:=hid (HM1.out.next hb2);clear hb2 H2))|(go_at_call 73;(with_reducible refine(H3.out _ HM2.out).mono ?_);rintro e w3 ⟨rfl,hb3⟩;have HB3:=hid (below_out HB2.out hb3);clear hb3));go_ret2;exact⟨rfl,HB2.out⟩
   · have e1:beatsO a b path=(false,8):=by unfold beatsO;rw [ho,hq]
     have H1:=hid (fun (W:World) (h:MxAt W)=>rfits_yes ha hp ho W h);have H2:=hid (fun (W:World) (h:MxAt W)=>rfits_no hb hp hq W h);rw [e1];dsimp only;rw [hSA,hSP] at H1;rw [hSB,hSP] at H2;rw [hSA,hSB,hSP];clear hSA hSB hSP ho hq e1 ha hb hp hmx;go_enter Tryz.func38,Tryz.ntmps38;go_wp2_with (first|(go_at_call 22;first|((with_reducible refine(H1.out _ HMx.out).mono ?_);rintro e w1 ⟨⟨v1,rfl⟩,hb1⟩;have HB1:=hid hb1;have HM1:=hid (HMx.out.next hb1);clear hb1 H1)|((with_reducible refine(H2.out _ HM1.out).mono ?_);rintro e w2 ⟨⟨v2,rfl⟩,hb2⟩;have HB2:=hid (below_out HB1.out hb2);have HM2:=hid (HM1.out.next hb2);clear hb2 H2))|(go_at_call 73;(with_reducible refine(H3.out _ HM2.out).mono ?_);rintro e w3 ⟨rfl,hb3⟩;have HB3:=hid (below_out HB2.out hb3);clear hb3));go_ret2;exact⟨rfl,HB2.out⟩
   · have e1:beatsO a b path=(betterT (cutT a.tail) (cutT b.tail),0):=by unfold beatsO;rw [ho,hq]
     have H1:=hid (fun (W:World) (h:MxAt W)=>rfits_yes ha hp ho W h);have H2:=hid (fun (W:World) (h:MxAt W)=>rfits_yes hb hp hq W h);have H3:=hid (fun (W:World) (h:MxAt W)=>rbetter_yes (fitsO_check ho) (fitsO_check hq) W h);rw [hSA,hSB] at H3;rw [e1];dsimp only;rw [hSA,hSP] at H1;rw [hSB,hSP] at H2;rw [hSA,hSB,hSP];obtain⟨bb,hbb⟩:∃ x,betterT (cutT a.tail) (cutT b.tail)=x:=⟨_,rfl⟩;rw [hbb] at H3 ⊢;clear hbb;clear hSA hSB hSP ho hq e1 ha hb hp hmx;go_enter Tryz.func38,Tryz.ntmps38;go_wp2_with (first|(go_at_call 22;first|((with_reducible refine(H1.out _ HMx.out).mono ?_);rintro e w1 ⟨⟨v1,rfl⟩,hb1⟩;have HB1:=hid hb1;have HM1:=hid (HMx.out.next hb1);clear hb1 H1)|((with_reducible refine(H2.out _ HM1.out).mono ?_);rintro e w2 ⟨⟨v2,rfl⟩,hb2⟩;have HB2:=hid (below_out HB1.out hb2);have HM2:=hid (HM1.out.next hb2);clear hb2 H2))|(go_at_call 73;(with_reducible refine(H3.out _ HM2.out).mono ?_);rintro e w3 ⟨rfl,hb3⟩;have HB3:=hid (below_out HB2.out hb3);clear hb3));go_ret2;exact⟨rfl,HB3.out⟩
theorem mx_below {w w':World}{b:Nat} (h:MxAt w) (hb:Below b w w') (hl:0<b):MxAt w':=by
 obtain⟨m,h⟩:=h;exact⟨m,cell_same h (hb.block _ hl)⟩
def TrX (w:World) (X:Nat→Prop) (t:Nat) (P:List (B×Int)) (M:Nat):Prop:=∃ G es v,Tr w t P M G es v∧∀ i,Ft_r G es v i→X i
theorem TrX.keep {w w':World}{X:Nat→Prop}{t:Nat}{P:List (B×Int)}{M:Nat} (h:TrX w X t P M) (hk:∀ i,X i→i<w.heap.size→w'.heap[i]?=w.heap[i]?):TrX w' X t P M:=by
 obtain⟨G,es,v,h1,h2⟩:=h;exact⟨G,es,v,h1.keep (fun i hi hl=>hk i (h2 i hi) hl),h2⟩
theorem addX_any_r {w:World}{X:Nat→Prop}{t:Nat}{P:List (B×Int)}{M:Nat} (h:TrX w X t P M) (hmx:MxAt w) (hM:M+64<1000000) (hP:P.length≤1000000) (p:B) (hp:p.length≤140737488355328) (id:Int):
  Calls Tryz.prog 60 #[.pointer (some ⟨t,0,none⟩),.string (str p),.int .i64 id] w fun e w'=>e= .returned (errOf (addE_r P p))∧TrX w' (fun i=>X i∨(w.heap.size≤i∧i<w'.heap.size)) t (addP_r P p id) (M+64)∧Kept X w w':=by
 obtain⟨G,es,v,h1,h2⟩:=h;refine(add_any_r h1 hmx hM hP p hp id).mono ?_;rintro e w' ⟨he,G',es',v',k1,k2,k3⟩;exact⟨he,⟨G',es',v',k1,fun i hi=>(k3 i hi).elim (fun h=>.inl (h2 i h)) (fun e1=>.inr ⟨e1,k1.ft_lt hi⟩)⟩,k2.mono (fun i _ h=>h2 i h)⟩
def idxP (l:List B):List (B×Int):=l.zipIdx.map fun x=>(x.1,(x.2:Int))
theorem idxP_len (l:List B):(idxP l).length=l.length:=by simp [idxP]
theorem idxP_snoc (l:List B) (s:B):idxP (l++ [s])=idxP l++ [(s,(l.length:Int))]:=by
 unfold idxP;rw [List.zipIdx_append];simp
theorem idxP_at {l:List B}{i:Nat}{s:B} (h:l[i]?=some s):(idxP l)[i]?=some (s,(i:Int)):=by
 unfold idxP;rw [List.getElem?_map,List.getElem?_zipIdx,h];simp
theorem idxP_of {l:List B}{x:B×Int} (h:x∈idxP l):∃ i:Nat,l[i]?=some x.1∧x.2=(i:Int):=by
 obtain⟨i,hi⟩:=List.getElem?_of_mem h;have hl:i<l.length:=by have:=(List.getElem?_eq_some_iff.1 hi).1;rw [idxP_len] at this;exact this
 rw [idxP_at (List.getElem?_eq_getElem hl)] at hi;injection hi with hi
 exact⟨i,by rw [←hi];exact List.getElem?_eq_getElem hl,by rw [←hi]⟩
theorem fitsT_len:∀ (l r:List B) (F:List (B×B)),fitsT l r=some F→F.length≤l.length
 | [],[],F,h=>by simp [fitsT] at h;subst h;exact Nat.le_refl _
 | [],_::_,F,h=>by simp [fitsT] at h
 |_::_,[],F,h=>by simp [fitsT] at h
 |x::l,y::r,F,h=>by
  unfold fitsT at h;split at h
  · injection h with h;subst h;simp
  · split at h
    · split at h
      · cases h
      · cases hf:fitsT l r with
        |none=>rw [hf] at h;cases h
        |some F2=>
         rw [hf] at h;have:=fitsT_len l r F2 hf;injection h with h
         subst h;simp;omega
    · split at h
      · have:=fitsT_len l r F h;simp;omega
      · cases h
theorem fits_few {a path:B}{F:List (B×B)} (h:fitsO a path=some (some F)):F.length≤64:=by
 have hc:=fitsO_check h;obtain⟨t,e,h64,_⟩:=check_parts hc;unfold fitsO at h;split at h
 · injection h with h
   have:=fitsT_len _ _ F h;rw [e] at this;exact Nat.le_trans this h64
 · cases h
end Go.Proofs.YtlmlljlappjjjaaGreatDoor
