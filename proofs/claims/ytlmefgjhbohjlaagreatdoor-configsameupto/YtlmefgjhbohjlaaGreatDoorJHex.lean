/- digits, numbers and words of a reader. -/
import Derived.Test.YtlmefgjhbohjlaaGreatDoorJNum
namespace Go.Proofs.YtlmefgjhbohjlaaGreatDoor
set_option maxRecDepth 20000
set_option maxHeartbeats 2000000
open Go.RowKit
theorem Skips.yes {S l t:B}{b:Nat}{s:ByteArray}{d:Nat}{w w':World}{e:Ending} (h:Skips S l b s d w e w') (k:skip S l=some t):e= .returned (.bool true)∧Rd w' b s t d∧Turn b w w':=by
 unfold Skips at h;rw [k] at h;exact h
theorem Skips.no {S l:B}{b:Nat}{s:ByteArray}{d:Nat}{w w':World}{e:Ending} (h:Skips S l b s d w e w') (k:skip S l=none):e= .returned (.bool false)∧Rd w' b s l d∧Turn b w w':=by
 unfold Skips at h;rw [k] at h;exact h
theorem Skips.any {S l:B}{b:Nat}{s:ByteArray}{d:Nat}{w w':World}{e:Ending} (h:Skips S l b s d w e w'):∃ x,e= .returned (.bool x)∧Rd w' b s (skipD S l) d∧Turn b w w':=by
 unfold Skips at h;unfold skipD;split at h
 · next k=>rw [k];exact⟨_,h⟩
 · next k=>rw [k];exact⟨_,h⟩
def Told (r:Res Unit) (b:Nat) (s:ByteArray) (d:Nat) (w:World) (e:Ending) (w':World):Prop:=
 match r with
 | .ok _ t=>e= .returned .nilIface∧Rd w' b s t d∧Turn b w w'
 | .err k t=>e= .returned (errV_j k)∧Rd w' b s t d∧Turn b w w'
theorem Told.yes {r:Res Unit}{t:B}{b:Nat}{s:ByteArray}{d:Nat}{w w':World}{e:Ending} (h:Told r b s d w e w') (k:r= .ok () t):e= .returned .nilIface∧Rd w' b s t d∧Turn b w w':=by
 rw [k] at h;exact h
theorem Told.no {r:Res Unit}{t:B}{n:Nat}{b:Nat}{s:ByteArray}{d:Nat}{w w':World}{e:Ending} (h:Told r b s d w e w') (k:r= .err n t):e= .returned (errV_j n)∧Rd w' b s t d∧Turn b w w':=by
 rw [k] at h;exact h
theorem digits_any {w:World}{b:Nat}{s:ByteArray}{l:B}{d:Nat} (h:Rd w b s l d):
 Calls Tryz.prog 290 #[.pointer (some ⟨b,0,none⟩)] w fun e w'=>Told (digits l) b s d w e w':=by
 have R0:=hid (And.intro h (Turn.refl b w));clear h;cases hs:skip digitsL l with
 |none=>
  have HS:=hid hs;clear hs;go_enter Tryz.func290,Tryz.ntmps290;go_wp2_with (go_at_call 192;(with_reducible refine(skip_dg R0.out.1).mono ?_);intro e w1 hq;obtain⟨rfl,hz⟩:=Skips.no hq HS.out;have R1:=hid (And.intro hz.1 (R0.out.2.trans hz.2));clear hz hq R0);go_ret;unfold digits;rw [HS.out];exact⟨rfl,R1.out⟩
 |some t=>
  have HS:=hid hs;clear hs;obtain⟨L,HL⟩:∃ L,Hid (skips digitsL t=L):=⟨_,rfl⟩;go_enter Tryz.func290,Tryz.ntmps290;go_wp2_with (go_at_call 192;(with_reducible refine(skip_dg R0.out.1).mono ?_);intro e w1 hq;obtain⟨rfl,hz⟩:=Skips.yes hq HS.out;have R1:=hid (And.intro hz.1 (R0.out.2.trans hz.2));clear hz hq R0);go_loopg [8] (t.length+1) (fun gk _ wr=>∃ u:B,u.length<gk∧skips digitsL u=L∧Rd wr b s u d∧Turn b w wr)
  case atStart=>exact⟨t,by omega,HL.out,R1.out⟩
  case round=>
   obtain⟨u,h1,h2,h3,h4⟩:=hrel;have H:=hid h2;have R2:=hid (And.intro h3 h4);clear h2 h3 h4;cases hs:skip digitsL u with
   |none=>
    have HT:=hid hs;clear hs;go_wp2_with (go_at_call 192;(with_reducible refine(skip_dg R2.out.1).mono ?_);intro e w3 hq;obtain⟨rfl,hz⟩:=Skips.no hq HT.out;have R3:=hid (And.intro hz.1 (R2.out.2.trans hz.2));clear hz hq R2);go_ret;unfold digits;rw [HS.out];refine⟨rfl,?_⟩;rw [HL.out,←H.out,skips_none HT.out];exact R3.out
   |some v=>
    have HT:=hid hs;clear hs;go_wp2_with (go_at_call 192;(with_reducible refine(skip_dg R2.out.1).mono ?_);intro e w3 hq;obtain⟨rfl,hz⟩:=Skips.yes hq HT.out;have R3:=hid (And.intro hz.1 (R2.out.2.trans hz.2));clear hz hq R2);go_roundg (v.length+1)
    case measure=>have:=skip_length HT.out;omega
    case rel=>exact⟨v,by omega,by rw [←H.out];exact(skips_some HT.out).symm,R3.out⟩
theorem numParts_any {w:World}{b:Nat}{s:ByteArray}{l:B}{d:Nat} (h:Rd w b s l d):
 Calls Tryz.prog 249 #[.pointer (some ⟨b,0,none⟩)] w fun e w'=>Told (numParts l) b s d w e w':=by
 have R0:=hid (And.intro h (Turn.refl b w));clear h;obtain⟨l1,H1⟩:∃ l1,Hid (skipD [45] l=l1):=⟨_,rfl⟩;cases hHN:skip [48] l1 with
 |none=>
  have HN:=hid hHN;clear hHN;cases hHD:digits l1 with
  |ok x n1=>
   have HD:=hid hHD;clear hHD;cases hHP:skip [46] n1 with
   |none=>
    have HP:=hid hHP;clear hHP;cases hHE:skip [101,69] n1 with
    |none=>
     have HE:=hid hHE;clear hHE;go_enter Tryz.func249,Tryz.ntmps249;go_wp2_with (first
      |(go_at_call 192;(with_reducible refine(skip_minus R0.out.1).mono ?_);intro e w1 hq;obtain⟨x1,rfl,hz⟩:=Skips.any hq;rw [H1.out] at hz;have R1:=hid (And.intro hz.1 (R0.out.2.trans hz.2));clear hz hq R0)
      |(go_at_call 192;(with_reducible refine(skip_nought R1.out.1).mono ?_);intro e w2 hq;obtain⟨rfl,hz⟩:=Skips.no hq HN.out;have R2:=hid (And.intro hz.1 (R1.out.2.trans hz.2));clear hz hq R1)
      |(go_at_call 290;(with_reducible refine(digits_any R2.out.1).mono ?_);intro e w3 hq;obtain⟨rfl,hz⟩:=Told.yes hq HD.out;have R3:=hid (And.intro hz.1 (R2.out.2.trans hz.2));clear hz hq R2)
      |(go_at_call 192;(with_reducible refine(skip_point R3.out.1).mono ?_);intro e w4 hq;obtain⟨rfl,hz⟩:=Skips.no hq HP.out;have R4:=hid (And.intro hz.1 (R3.out.2.trans hz.2));clear hz hq R3)
      |(go_at_call 192;(with_reducible refine(skip_exp R4.out.1).mono ?_);intro e w5 hq;obtain⟨rfl,hz⟩:=Skips.no hq HE.out;have R5:=hid (And.intro hz.1 (R4.out.2.trans hz.2));clear hz hq R4))
     go_ret;rw [show numParts l= .ok () n1 by simp only [numParts,numHead,H1.out,HN.out,HD.out,numFrac,HP.out,numExp,HE.out]];exact⟨rfl,R5.out⟩
    |some e1=>
     have HE:=hid hHE;clear hHE;obtain⟨e2,H3⟩:∃ e2,Hid (skipD [43,45] e1=e2):=⟨_,rfl⟩;cases hHF:digits e2 with
     |ok x y=>
      have HF:=hid hHF;clear hHF;go_enter Tryz.func249,Tryz.ntmps249;go_wp2_with (first
       |(go_at_call 192;(with_reducible refine(skip_minus R0.out.1).mono ?_);intro e w1 hq;obtain⟨x1,rfl,hz⟩:=Skips.any hq;rw [H1.out] at hz;have R1:=hid (And.intro hz.1 (R0.out.2.trans hz.2));clear hz hq R0)
       |(go_at_call 192;(with_reducible refine(skip_nought R1.out.1).mono ?_);intro e w2 hq;obtain⟨rfl,hz⟩:=Skips.no hq HN.out;have R2:=hid (And.intro hz.1 (R1.out.2.trans hz.2));clear hz hq R1)
       |(go_at_call 290;(with_reducible refine(digits_any R2.out.1).mono ?_);intro e w3 hq;obtain⟨rfl,hz⟩:=Told.yes hq HD.out;have R3:=hid (And.intro hz.1 (R2.out.2.trans hz.2));clear hz hq R2)
       |(go_at_call 192;(with_reducible refine(skip_point R3.out.1).mono ?_);intro e w4 hq;obtain⟨rfl,hz⟩:=Skips.no hq HP.out;have R4:=hid (And.intro hz.1 (R3.out.2.trans hz.2));clear hz hq R3)
       |(go_at_call 192;(with_reducible refine(skip_exp R4.out.1).mono ?_);intro e w5 hq;obtain⟨rfl,hz⟩:=Skips.yes hq HE.out;have R5:=hid (And.intro hz.1 (R4.out.2.trans hz.2));clear hz hq R4)
       |(go_at_call 192;(with_reducible refine(skip_sign R5.out.1).mono ?_);intro e w6 hq;obtain⟨x6,rfl,hz⟩:=Skips.any hq;rw [H3.out] at hz;have R6:=hid (And.intro hz.1 (R5.out.2.trans hz.2));clear hz hq R5)
       |(go_at_call 290;(with_reducible refine(digits_any R6.out.1).mono ?_);intro e w7 hq;obtain⟨rfl,hz⟩:=Told.yes hq HF.out;have R7:=hid (And.intro hz.1 (R6.out.2.trans hz.2));clear hz hq R6))
      go_ret;rw [show numParts l= .ok () y by simp only [numParts,numHead,H1.out,HN.out,HD.out,numFrac,HP.out,numExp,HE.out,H3.out,HF.out]];exact⟨rfl,R7.out⟩
     |err x y=>
      have HF:=hid hHF;clear hHF;go_enter Tryz.func249,Tryz.ntmps249;go_wp2_with (first
       |(go_at_call 192;(with_reducible refine(skip_minus R0.out.1).mono ?_);intro e w1 hq;obtain⟨x1,rfl,hz⟩:=Skips.any hq;rw [H1.out] at hz;have R1:=hid (And.intro hz.1 (R0.out.2.trans hz.2));clear hz hq R0)
       |(go_at_call 192;(with_reducible refine(skip_nought R1.out.1).mono ?_);intro e w2 hq;obtain⟨rfl,hz⟩:=Skips.no hq HN.out;have R2:=hid (And.intro hz.1 (R1.out.2.trans hz.2));clear hz hq R1)
       |(go_at_call 290;(with_reducible refine(digits_any R2.out.1).mono ?_);intro e w3 hq;obtain⟨rfl,hz⟩:=Told.yes hq HD.out;have R3:=hid (And.intro hz.1 (R2.out.2.trans hz.2));clear hz hq R2)
       |(go_at_call 192;(with_reducible refine(skip_point R3.out.1).mono ?_);intro e w4 hq;obtain⟨rfl,hz⟩:=Skips.no hq HP.out;have R4:=hid (And.intro hz.1 (R3.out.2.trans hz.2));clear hz hq R3)
       |(go_at_call 192;(with_reducible refine(skip_exp R4.out.1).mono ?_);intro e w5 hq;obtain⟨rfl,hz⟩:=Skips.yes hq HE.out;have R5:=hid (And.intro hz.1 (R4.out.2.trans hz.2));clear hz hq R4)
       |(go_at_call 192;(with_reducible refine(skip_sign R5.out.1).mono ?_);intro e w6 hq;obtain⟨x6,rfl,hz⟩:=Skips.any hq;rw [H3.out] at hz;have R6:=hid (And.intro hz.1 (R5.out.2.trans hz.2));clear hz hq R5)
       |(go_at_call 290;(with_reducible refine(digits_any R6.out.1).mono ?_);intro e w7 hq;obtain⟨rfl,hz⟩:=Told.no hq HF.out;have R7:=hid (And.intro hz.1 (R6.out.2.trans hz.2));clear hz hq R6))
      go_ret;rw [show numParts l= .err x y by simp only [numParts,numHead,H1.out,HN.out,HD.out,numFrac,HP.out,numExp,HE.out,H3.out,HF.out]];exact⟨rfl,R7.out⟩
   |some p1=>
    have HP:=hid hHP;clear hHP;cases hHQ:digits p1 with
    |ok x p2=>
     have HQ:=hid hHQ;clear hHQ;cases hHE:skip [101,69] p2 with
     |none=>
      have HE:=hid hHE;clear hHE;go_enter Tryz.func249,Tryz.ntmps249;go_wp2_with (first
       |(go_at_call 192;(with_reducible refine(skip_minus R0.out.1).mono ?_);intro e w1 hq;obtain⟨x1,rfl,hz⟩:=Skips.any hq;rw [H1.out] at hz;have R1:=hid (And.intro hz.1 (R0.out.2.trans hz.2));clear hz hq R0)
       |(go_at_call 192;(with_reducible refine(skip_nought R1.out.1).mono ?_);intro e w2 hq;obtain⟨rfl,hz⟩:=Skips.no hq HN.out;have R2:=hid (And.intro hz.1 (R1.out.2.trans hz.2));clear hz hq R1)
       |(go_at_call 290;(with_reducible refine(digits_any R2.out.1).mono ?_);intro e w3 hq;obtain⟨rfl,hz⟩:=Told.yes hq HD.out;have R3:=hid (And.intro hz.1 (R2.out.2.trans hz.2));clear hz hq R2)
       |(go_at_call 192;(with_reducible refine(skip_point R3.out.1).mono ?_);intro e w4 hq;obtain⟨rfl,hz⟩:=Skips.yes hq HP.out;have R4:=hid (And.intro hz.1 (R3.out.2.trans hz.2));clear hz hq R3)
       |(go_at_call 290;(with_reducible refine(digits_any R4.out.1).mono ?_);intro e w5 hq;obtain⟨rfl,hz⟩:=Told.yes hq HQ.out;have R5:=hid (And.intro hz.1 (R4.out.2.trans hz.2));clear hz hq R4)
       |(go_at_call 192;(with_reducible refine(skip_exp R5.out.1).mono ?_);intro e w6 hq;obtain⟨rfl,hz⟩:=Skips.no hq HE.out;have R6:=hid (And.intro hz.1 (R5.out.2.trans hz.2));clear hz hq R5))
      go_ret;rw [show numParts l= .ok () p2 by simp only [numParts,numHead,H1.out,HN.out,HD.out,numFrac,HP.out,HQ.out,numExp,HE.out]];exact⟨rfl,R6.out⟩
     |some e1=>
      have HE:=hid hHE;clear hHE;obtain⟨e2,H3⟩:∃ e2,Hid (skipD [43,45] e1=e2):=⟨_,rfl⟩;cases hHF:digits e2 with
      |ok x y=>
       have HF:=hid hHF;clear hHF;go_enter Tryz.func249,Tryz.ntmps249;go_wp2_with (first
        |(go_at_call 192;(with_reducible refine(skip_minus R0.out.1).mono ?_);intro e w1 hq;obtain⟨x1,rfl,hz⟩:=Skips.any hq;rw [H1.out] at hz;have R1:=hid (And.intro hz.1 (R0.out.2.trans hz.2));clear hz hq R0)
        |(go_at_call 192;(with_reducible refine(skip_nought R1.out.1).mono ?_);intro e w2 hq;obtain⟨rfl,hz⟩:=Skips.no hq HN.out;have R2:=hid (And.intro hz.1 (R1.out.2.trans hz.2));clear hz hq R1)
        |(go_at_call 290;(with_reducible refine(digits_any R2.out.1).mono ?_);intro e w3 hq;obtain⟨rfl,hz⟩:=Told.yes hq HD.out;have R3:=hid (And.intro hz.1 (R2.out.2.trans hz.2));clear hz hq R2)
        |(go_at_call 192;(with_reducible refine(skip_point R3.out.1).mono ?_);intro e w4 hq;obtain⟨rfl,hz⟩:=Skips.yes hq HP.out;have R4:=hid (And.intro hz.1 (R3.out.2.trans hz.2));clear hz hq R3)
        |(go_at_call 290;(with_reducible refine(digits_any R4.out.1).mono ?_);intro e w5 hq;obtain⟨rfl,hz⟩:=Told.yes hq HQ.out;have R5:=hid (And.intro hz.1 (R4.out.2.trans hz.2));clear hz hq R4)
        |(go_at_call 192;(with_reducible refine(skip_exp R5.out.1).mono ?_);intro e w6 hq;obtain⟨rfl,hz⟩:=Skips.yes hq HE.out;have R6:=hid (And.intro hz.1 (R5.out.2.trans hz.2));clear hz hq R5)
        |(go_at_call 192;(with_reducible refine(skip_sign R6.out.1).mono ?_);intro e w7 hq;obtain⟨x7,rfl,hz⟩:=Skips.any hq;rw [H3.out] at hz;have R7:=hid (And.intro hz.1 (R6.out.2.trans hz.2));clear hz hq R6)
        |(go_at_call 290;(with_reducible refine(digits_any R7.out.1).mono ?_);intro e w8 hq;obtain⟨rfl,hz⟩:=Told.yes hq HF.out;have R8:=hid (And.intro hz.1 (R7.out.2.trans hz.2));clear hz hq R7))
       go_ret;rw [show numParts l= .ok () y by simp only [numParts,numHead,H1.out,HN.out,HD.out,numFrac,HP.out,HQ.out,numExp,HE.out,H3.out,HF.out]];exact⟨rfl,R8.out⟩
      |err x y=>
       have HF:=hid hHF;clear hHF;go_enter Tryz.func249,Tryz.ntmps249;go_wp2_with (first
        |(go_at_call 192;(with_reducible refine(skip_minus R0.out.1).mono ?_);intro e w1 hq;obtain⟨x1,rfl,hz⟩:=Skips.any hq;rw [H1.out] at hz;have R1:=hid (And.intro hz.1 (R0.out.2.trans hz.2));clear hz hq R0)
        |(go_at_call 192;(with_reducible refine(skip_nought R1.out.1).mono ?_);intro e w2 hq;obtain⟨rfl,hz⟩:=Skips.no hq HN.out;have R2:=hid (And.intro hz.1 (R1.out.2.trans hz.2));clear hz hq R1)
        |(go_at_call 290;(with_reducible refine(digits_any R2.out.1).mono ?_);intro e w3 hq;obtain⟨rfl,hz⟩:=Told.yes hq HD.out;have R3:=hid (And.intro hz.1 (R2.out.2.trans hz.2));clear hz hq R2)
        |(go_at_call 192;(with_reducible refine(skip_point R3.out.1).mono ?_);intro e w4 hq;obtain⟨rfl,hz⟩:=Skips.yes hq HP.out;have R4:=hid (And.intro hz.1 (R3.out.2.trans hz.2));clear hz hq R3)
        |(go_at_call 290;(with_reducible refine(digits_any R4.out.1).mono ?_);intro e w5 hq;obtain⟨rfl,hz⟩:=Told.yes hq HQ.out;have R5:=hid (And.intro hz.1 (R4.out.2.trans hz.2));clear hz hq R4)
        |(go_at_call 192;(with_reducible refine(skip_exp R5.out.1).mono ?_);intro e w6 hq;obtain⟨rfl,hz⟩:=Skips.yes hq HE.out;have R6:=hid (And.intro hz.1 (R5.out.2.trans hz.2));clear hz hq R5)
        |(go_at_call 192;(with_reducible refine(skip_sign R6.out.1).mono ?_);intro e w7 hq;obtain⟨x7,rfl,hz⟩:=Skips.any hq;rw [H3.out] at hz;have R7:=hid (And.intro hz.1 (R6.out.2.trans hz.2));clear hz hq R6)
        |(go_at_call 290;(with_reducible refine(digits_any R7.out.1).mono ?_);intro e w8 hq;obtain⟨rfl,hz⟩:=Told.no hq HF.out;have R8:=hid (And.intro hz.1 (R7.out.2.trans hz.2));clear hz hq R7))
       go_ret;rw [show numParts l= .err x y by simp only [numParts,numHead,H1.out,HN.out,HD.out,numFrac,HP.out,HQ.out,numExp,HE.out,H3.out,HF.out]];exact⟨rfl,R8.out⟩
    |err x y=>
     have HQ:=hid hHQ;clear hHQ;go_enter Tryz.func249,Tryz.ntmps249;go_wp2_with (first
      |(go_at_call 192;(with_reducible refine(skip_minus R0.out.1).mono ?_);intro e w1 hq;obtain⟨x1,rfl,hz⟩:=Skips.any hq;rw [H1.out] at hz;have R1:=hid (And.intro hz.1 (R0.out.2.trans hz.2));clear hz hq R0)
      |(go_at_call 192;(with_reducible refine(skip_nought R1.out.1).mono ?_);intro e w2 hq;obtain⟨rfl,hz⟩:=Skips.no hq HN.out;have R2:=hid (And.intro hz.1 (R1.out.2.trans hz.2));clear hz hq R1)
      |(go_at_call 290;(with_reducible refine(digits_any R2.out.1).mono ?_);intro e w3 hq;obtain⟨rfl,hz⟩:=Told.yes hq HD.out;have R3:=hid (And.intro hz.1 (R2.out.2.trans hz.2));clear hz hq R2)
      |(go_at_call 192;(with_reducible refine(skip_point R3.out.1).mono ?_);intro e w4 hq;obtain⟨rfl,hz⟩:=Skips.yes hq HP.out;have R4:=hid (And.intro hz.1 (R3.out.2.trans hz.2));clear hz hq R3)
      |(go_at_call 290;(with_reducible refine(digits_any R4.out.1).mono ?_);intro e w5 hq;obtain⟨rfl,hz⟩:=Told.no hq HQ.out;have R5:=hid (And.intro hz.1 (R4.out.2.trans hz.2));clear hz hq R4))
     go_ret;rw [show numParts l= .err x y by simp only [numParts,numHead,H1.out,HN.out,HD.out,numFrac,HP.out,HQ.out]];exact⟨rfl,R5.out⟩
  |err x y=>
   have HD:=hid hHD;clear hHD;go_enter Tryz.func249,Tryz.ntmps249;go_wp2_with (first
    |(go_at_call 192;(with_reducible refine(skip_minus R0.out.1).mono ?_);intro e w1 hq;obtain⟨x1,rfl,hz⟩:=Skips.any hq;rw [H1.out] at hz;have R1:=hid (And.intro hz.1 (R0.out.2.trans hz.2));clear hz hq R0)
    |(go_at_call 192;(with_reducible refine(skip_nought R1.out.1).mono ?_);intro e w2 hq;obtain⟨rfl,hz⟩:=Skips.no hq HN.out;have R2:=hid (And.intro hz.1 (R1.out.2.trans hz.2));clear hz hq R1)
    |(go_at_call 290;(with_reducible refine(digits_any R2.out.1).mono ?_);intro e w3 hq;obtain⟨rfl,hz⟩:=Told.no hq HD.out;have R3:=hid (And.intro hz.1 (R2.out.2.trans hz.2));clear hz hq R2))
   go_ret;rw [show numParts l= .err x y by simp only [numParts,numHead,H1.out,HN.out,HD.out]];exact⟨rfl,R3.out⟩
 |some n1=>
  have HN:=hid hHN;clear hHN;cases hHP:skip [46] n1 with
  |none=>
   have HP:=hid hHP;clear hHP;cases hHE:skip [101,69] n1 with
   |none=>
    have HE:=hid hHE;clear hHE;go_enter Tryz.func249,Tryz.ntmps249;go_wp2_with (first
     |(go_at_call 192;(with_reducible refine(skip_minus R0.out.1).mono ?_);intro e w1 hq;obtain⟨x1,rfl,hz⟩:=Skips.any hq;rw [H1.out] at hz;have R1:=hid (And.intro hz.1 (R0.out.2.trans hz.2));clear hz hq R0)
     |(go_at_call 192;(with_reducible refine(skip_nought R1.out.1).mono ?_);intro e w2 hq;obtain⟨rfl,hz⟩:=Skips.yes hq HN.out;have R2:=hid (And.intro hz.1 (R1.out.2.trans hz.2));clear hz hq R1)
     |(go_at_call 192;(with_reducible refine(skip_point R2.out.1).mono ?_);intro e w3 hq;obtain⟨rfl,hz⟩:=Skips.no hq HP.out;have R3:=hid (And.intro hz.1 (R2.out.2.trans hz.2));clear hz hq R2)
     |(go_at_call 192;(with_reducible refine(skip_exp R3.out.1).mono ?_);intro e w4 hq;obtain⟨rfl,hz⟩:=Skips.no hq HE.out;have R4:=hid (And.intro hz.1 (R3.out.2.trans hz.2));clear hz hq R3))
    go_ret;rw [show numParts l= .ok () n1 by simp only [numParts,numHead,H1.out,HN.out,numFrac,HP.out,numExp,HE.out]];exact⟨rfl,R4.out⟩
   |some e1=>
    have HE:=hid hHE;clear hHE;obtain⟨e2,H3⟩:∃ e2,Hid (skipD [43,45] e1=e2):=⟨_,rfl⟩;cases hHF:digits e2 with
    |ok x y=>
     have HF:=hid hHF;clear hHF;go_enter Tryz.func249,Tryz.ntmps249;go_wp2_with (first
      |(go_at_call 192;(with_reducible refine(skip_minus R0.out.1).mono ?_);intro e w1 hq;obtain⟨x1,rfl,hz⟩:=Skips.any hq;rw [H1.out] at hz;have R1:=hid (And.intro hz.1 (R0.out.2.trans hz.2));clear hz hq R0)
      |(go_at_call 192;(with_reducible refine(skip_nought R1.out.1).mono ?_);intro e w2 hq;obtain⟨rfl,hz⟩:=Skips.yes hq HN.out;have R2:=hid (And.intro hz.1 (R1.out.2.trans hz.2));clear hz hq R1)
      |(go_at_call 192;(with_reducible refine(skip_point R2.out.1).mono ?_);intro e w3 hq;obtain⟨rfl,hz⟩:=Skips.no hq HP.out;have R3:=hid (And.intro hz.1 (R2.out.2.trans hz.2));clear hz hq R2)
      |(go_at_call 192;(with_reducible refine(skip_exp R3.out.1).mono ?_);intro e w4 hq;obtain⟨rfl,hz⟩:=Skips.yes hq HE.out;have R4:=hid (And.intro hz.1 (R3.out.2.trans hz.2));clear hz hq R3)
      |(go_at_call 192;(with_reducible refine(skip_sign R4.out.1).mono ?_);intro e w5 hq;obtain⟨x5,rfl,hz⟩:=Skips.any hq;rw [H3.out] at hz;have R5:=hid (And.intro hz.1 (R4.out.2.trans hz.2));clear hz hq R4)
      |(go_at_call 290;(with_reducible refine(digits_any R5.out.1).mono ?_);intro e w6 hq;obtain⟨rfl,hz⟩:=Told.yes hq HF.out;have R6:=hid (And.intro hz.1 (R5.out.2.trans hz.2));clear hz hq R5))
     go_ret;rw [show numParts l= .ok () y by simp only [numParts,numHead,H1.out,HN.out,numFrac,HP.out,numExp,HE.out,H3.out,HF.out]];exact⟨rfl,R6.out⟩
    |err x y=>
     have HF:=hid hHF;clear hHF;go_enter Tryz.func249,Tryz.ntmps249;go_wp2_with (first
      |(go_at_call 192;(with_reducible refine(skip_minus R0.out.1).mono ?_);intro e w1 hq;obtain⟨x1,rfl,hz⟩:=Skips.any hq;rw [H1.out] at hz;have R1:=hid (And.intro hz.1 (R0.out.2.trans hz.2));clear hz hq R0)
      |(go_at_call 192;(with_reducible refine(skip_nought R1.out.1).mono ?_);intro e w2 hq;obtain⟨rfl,hz⟩:=Skips.yes hq HN.out;have R2:=hid (And.intro hz.1 (R1.out.2.trans hz.2));clear hz hq R1)
      |(go_at_call 192;(with_reducible refine(skip_point R2.out.1).mono ?_);intro e w3 hq;obtain⟨rfl,hz⟩:=Skips.no hq HP.out;have R3:=hid (And.intro hz.1 (R2.out.2.trans hz.2));clear hz hq R2)
      |(go_at_call 192;(with_reducible refine(skip_exp R3.out.1).mono ?_);intro e w4 hq;obtain⟨rfl,hz⟩:=Skips.yes hq HE.out;have R4:=hid (And.intro hz.1 (R3.out.2.trans hz.2));clear hz hq R3)
      |(go_at_call 192;(with_reducible refine(skip_sign R4.out.1).mono ?_);intro e w5 hq;obtain⟨x5,rfl,hz⟩:=Skips.any hq;rw [H3.out] at hz;have R5:=hid (And.intro hz.1 (R4.out.2.trans hz.2));clear hz hq R4)
      |(go_at_call 290;(with_reducible refine(digits_any R5.out.1).mono ?_);intro e w6 hq;obtain⟨rfl,hz⟩:=Told.no hq HF.out;have R6:=hid (And.intro hz.1 (R5.out.2.trans hz.2));clear hz hq R5))
     go_ret;rw [show numParts l= .err x y by simp only [numParts,numHead,H1.out,HN.out,numFrac,HP.out,numExp,HE.out,H3.out,HF.out]];exact⟨rfl,R6.out⟩
  |some p1=>
   have HP:=hid hHP;clear hHP;cases hHQ:digits p1 with
   |ok x p2=>
    have HQ:=hid hHQ;clear hHQ;cases hHE:skip [101,69] p2 with
    |none=>
     have HE:=hid hHE;clear hHE;go_enter Tryz.func249,Tryz.ntmps249;go_wp2_with (first
      |(go_at_call 192;(with_reducible refine(skip_minus R0.out.1).mono ?_);intro e w1 hq;obtain⟨x1,rfl,hz⟩:=Skips.any hq;rw [H1.out] at hz;have R1:=hid (And.intro hz.1 (R0.out.2.trans hz.2));clear hz hq R0)
      |(go_at_call 192;(with_reducible refine(skip_nought R1.out.1).mono ?_);intro e w2 hq;obtain⟨rfl,hz⟩:=Skips.yes hq HN.out;have R2:=hid (And.intro hz.1 (R1.out.2.trans hz.2));clear hz hq R1)
      |(go_at_call 192;(with_reducible refine(skip_point R2.out.1).mono ?_);intro e w3 hq;obtain⟨rfl,hz⟩:=Skips.yes hq HP.out;have R3:=hid (And.intro hz.1 (R2.out.2.trans hz.2));clear hz hq R2)
      |(go_at_call 290;(with_reducible refine(digits_any R3.out.1).mono ?_);intro e w4 hq;obtain⟨rfl,hz⟩:=Told.yes hq HQ.out;have R4:=hid (And.intro hz.1 (R3.out.2.trans hz.2));clear hz hq R3)
      |(go_at_call 192;(with_reducible refine(skip_exp R4.out.1).mono ?_);intro e w5 hq;obtain⟨rfl,hz⟩:=Skips.no hq HE.out;have R5:=hid (And.intro hz.1 (R4.out.2.trans hz.2));clear hz hq R4))
     go_ret;rw [show numParts l= .ok () p2 by simp only [numParts,numHead,H1.out,HN.out,numFrac,HP.out,HQ.out,numExp,HE.out]];exact⟨rfl,R5.out⟩
    |some e1=>
     have HE:=hid hHE;clear hHE;obtain⟨e2,H3⟩:∃ e2,Hid (skipD [43,45] e1=e2):=⟨_,rfl⟩;cases hHF:digits e2 with
     |ok x y=>
      have HF:=hid hHF;clear hHF;go_enter Tryz.func249,Tryz.ntmps249;go_wp2_with (first
       |(go_at_call 192;(with_reducible refine(skip_minus R0.out.1).mono ?_);intro e w1 hq;obtain⟨x1,rfl,hz⟩:=Skips.any hq;rw [H1.out] at hz;have R1:=hid (And.intro hz.1 (R0.out.2.trans hz.2));clear hz hq R0)
       |(go_at_call 192;(with_reducible refine(skip_nought R1.out.1).mono ?_);intro e w2 hq;obtain⟨rfl,hz⟩:=Skips.yes hq HN.out;have R2:=hid (And.intro hz.1 (R1.out.2.trans hz.2));clear hz hq R1)
       |(go_at_call 192;(with_reducible refine(skip_point R2.out.1).mono ?_);intro e w3 hq;obtain⟨rfl,hz⟩:=Skips.yes hq HP.out;have R3:=hid (And.intro hz.1 (R2.out.2.trans hz.2));clear hz hq R2)
       |(go_at_call 290;(with_reducible refine(digits_any R3.out.1).mono ?_);intro e w4 hq;obtain⟨rfl,hz⟩:=Told.yes hq HQ.out;have R4:=hid (And.intro hz.1 (R3.out.2.trans hz.2));clear hz hq R3)
       |(go_at_call 192;(with_reducible refine(skip_exp R4.out.1).mono ?_);intro e w5 hq;obtain⟨rfl,hz⟩:=Skips.yes hq HE.out;have R5:=hid (And.intro hz.1 (R4.out.2.trans hz.2));clear hz hq R4)
       |(go_at_call 192;(with_reducible refine(skip_sign R5.out.1).mono ?_);intro e w6 hq;obtain⟨x6,rfl,hz⟩:=Skips.any hq;rw [H3.out] at hz;have R6:=hid (And.intro hz.1 (R5.out.2.trans hz.2));clear hz hq R5)
       |(go_at_call 290;(with_reducible refine(digits_any R6.out.1).mono ?_);intro e w7 hq;obtain⟨rfl,hz⟩:=Told.yes hq HF.out;have R7:=hid (And.intro hz.1 (R6.out.2.trans hz.2));clear hz hq R6))
      go_ret;rw [show numParts l= .ok () y by simp only [numParts,numHead,H1.out,HN.out,numFrac,HP.out,HQ.out,numExp,HE.out,H3.out,HF.out]];exact⟨rfl,R7.out⟩
     |err x y=>
      have HF:=hid hHF;clear hHF;go_enter Tryz.func249,Tryz.ntmps249;go_wp2_with (first
       |(go_at_call 192;(with_reducible refine(skip_minus R0.out.1).mono ?_);intro e w1 hq;obtain⟨x1,rfl,hz⟩:=Skips.any hq;rw [H1.out] at hz;have R1:=hid (And.intro hz.1 (R0.out.2.trans hz.2));clear hz hq R0)
       |(go_at_call 192;(with_reducible refine(skip_nought R1.out.1).mono ?_);intro e w2 hq;obtain⟨rfl,hz⟩:=Skips.yes hq HN.out;have R2:=hid (And.intro hz.1 (R1.out.2.trans hz.2));clear hz hq R1)
       |(go_at_call 192;(with_reducible refine(skip_point R2.out.1).mono ?_);intro e w3 hq;obtain⟨rfl,hz⟩:=Skips.yes hq HP.out;have R3:=hid (And.intro hz.1 (R2.out.2.trans hz.2));clear hz hq R2)
       |(go_at_call 290;(with_reducible refine(digits_any R3.out.1).mono ?_);intro e w4 hq;obtain⟨rfl,hz⟩:=Told.yes hq HQ.out;have R4:=hid (And.intro hz.1 (R3.out.2.trans hz.2));clear hz hq R3)
       |(go_at_call 192;(with_reducible refine(skip_exp R4.out.1).mono ?_);intro e w5 hq;obtain⟨rfl,hz⟩:=Skips.yes hq HE.out;have R5:=hid (And.intro hz.1 (R4.out.2.trans hz.2));clear hz hq R4)
       |(go_at_call 192;(with_reducible refine(skip_sign R5.out.1).mono ?_);intro e w6 hq;obtain⟨x6,rfl,hz⟩:=Skips.any hq;rw [H3.out] at hz;have R6:=hid (And.intro hz.1 (R5.out.2.trans hz.2));clear hz hq R5)
       |(go_at_call 290;(with_reducible refine(digits_any R6.out.1).mono ?_);intro e w7 hq;obtain⟨rfl,hz⟩:=Told.no hq HF.out;have R7:=hid (And.intro hz.1 (R6.out.2.trans hz.2));clear hz hq R6))
      go_ret;rw [show numParts l= .err x y by simp only [numParts,numHead,H1.out,HN.out,numFrac,HP.out,HQ.out,numExp,HE.out,H3.out,HF.out]];exact⟨rfl,R7.out⟩
   |err x y=>
    have HQ:=hid hHQ;clear hHQ;go_enter Tryz.func249,Tryz.ntmps249;go_wp2_with (first
     |(go_at_call 192;(with_reducible refine(skip_minus R0.out.1).mono ?_);intro e w1 hq;obtain⟨x1,rfl,hz⟩:=Skips.any hq;rw [H1.out] at hz;have R1:=hid (And.intro hz.1 (R0.out.2.trans hz.2));clear hz hq R0)
     |(go_at_call 192;(with_reducible refine(skip_nought R1.out.1).mono ?_);intro e w2 hq;obtain⟨rfl,hz⟩:=Skips.yes hq HN.out;have R2:=hid (And.intro hz.1 (R1.out.2.trans hz.2));clear hz hq R1)
     |(go_at_call 192;(with_reducible refine(skip_point R2.out.1).mono ?_);intro e w3 hq;obtain⟨rfl,hz⟩:=Skips.yes hq HP.out;have R3:=hid (And.intro hz.1 (R2.out.2.trans hz.2));clear hz hq R2)
     |(go_at_call 290;(with_reducible refine(digits_any R3.out.1).mono ?_);intro e w4 hq;obtain⟨rfl,hz⟩:=Told.no hq HQ.out;have R4:=hid (And.intro hz.1 (R3.out.2.trans hz.2));clear hz hq R3))
    go_ret;rw [show numParts l= .err x y by simp only [numParts,numHead,H1.out,HN.out,numFrac,HP.out,HQ.out]];exact⟨rfl,R4.out⟩
theorem number_any {w:World}{b:Nat}{s:ByteArray}{l:B}{d:Nat} (h:Rd w b s l d):
 Calls Tryz.prog 198 #[.pointer (some ⟨b,0,none⟩)] w fun e w'=>Told (number l) b s d w e w':=by
 obtain⟨p,hA⟩:=h.at;have c1:=hA.c1;have hm:=hA.most;have hle:=hA.le;have HA:=hid hA;have R0:=hid (And.intro h (Turn.refl b w));clear h hA;cases hr:numParts l with
 |ok x t=>
  have HR:=hid hr;clear hr;by_cases hc:64<l.length-t.length
  · have HC:=hid hc;have hex:∃ q,Hid (s.data.toList.drop (p+64)=l.drop 64∧p+64≤s.size)∧Hid (q=p):=⟨p,⟨by rw [←List.drop_drop,HA.out.drop],by have:=HA.out.len;omega⟩,rfl⟩;obtain⟨q,HX,HQ⟩:=hex;go_enter Tryz.func198,Tryz.ntmps198;go_wp2_with (go_at_call 249;(with_reducible refine(numParts_any R0.out.1).mono ?_);intro e w1 hq;obtain⟨rfl,hz⟩:=Told.yes hq HR.out;have R1:=hid (And.intro hz.1 (R0.out.2.trans hz.2));obtain⟨p1,hA1⟩:=hz.1.at;have d1:=hA1.c1;have f1:=hA1.fz 1;have hl1:(p:Int)+64<p1:=(by have a1:=hA1.len;have a2:=HA.out.len;have a3:=HC.out;have a4:=hA1.le;omega);have hm1:=hA1.le;clear hz hq R0 c1 hA1);go_ret;unfold number;rw [HR.out];rw [if_pos (by exact HC.out)];exact⟨rfl,R1.out.1.moved _ (by push_cast;rfl) HX.out.2 HX.out.1,R1.out.2.setCell _ _⟩
  · have HC:=hid hc;go_enter Tryz.func198,Tryz.ntmps198;go_wp2_with (go_at_call 249;(with_reducible refine(numParts_any R0.out.1).mono ?_);intro e w1 hq;obtain⟨rfl,hz⟩:=Told.yes hq HR.out;have R1:=hid (And.intro hz.1 (R0.out.2.trans hz.2));obtain⟨p1,hA1⟩:=hz.1.at;have d1:=hA1.c1;have hl1:¬((p:Int)+64<p1):=(by have a1:=hA1.len;have a2:=HA.out.len;have a3:=HC.out;have a4:=hA1.le;omega);have hm1:=hA1.le;clear hz hq R0 c1 hA1);go_ret;unfold number;rw [HR.out];rw [if_neg (by exact HC.out)];exact⟨rfl,R1.out⟩
 |err k t=>
  have HR:=hid hr;clear hr;by_cases hc:64<l.length-t.length
  · have HC:=hid hc;have hex:∃ q,Hid (s.data.toList.drop (p+64)=l.drop 64∧p+64≤s.size)∧Hid (q=p):=⟨p,⟨by rw [←List.drop_drop,HA.out.drop],by have:=HA.out.len;omega⟩,rfl⟩;obtain⟨q,HX,HQ⟩:=hex;go_enter Tryz.func198,Tryz.ntmps198;go_wp2_with (go_at_call 249;(with_reducible refine(numParts_any R0.out.1).mono ?_);intro e w1 hq;obtain⟨rfl,hz⟩:=Told.no hq HR.out;have R1:=hid (And.intro hz.1 (R0.out.2.trans hz.2));obtain⟨p1,hA1⟩:=hz.1.at;have d1:=hA1.c1;have f1:=hA1.fz 1;have hl1:(p:Int)+64<p1:=(by have a1:=hA1.len;have a2:=HA.out.len;have a3:=HC.out;have a4:=hA1.le;omega);have hm1:=hA1.le;clear hz hq R0 c1 hA1);go_ret;unfold number;rw [HR.out];rw [if_pos (by exact HC.out)];exact⟨rfl,R1.out.1.moved _ (by push_cast;rfl) HX.out.2 HX.out.1,R1.out.2.setCell _ _⟩
  · have HC:=hid hc;go_enter Tryz.func198,Tryz.ntmps198;go_wp2_with (go_at_call 249;(with_reducible refine(numParts_any R0.out.1).mono ?_);intro e w1 hq;obtain⟨rfl,hz⟩:=Told.no hq HR.out;have R1:=hid (And.intro hz.1 (R0.out.2.trans hz.2));obtain⟨p1,hA1⟩:=hz.1.at;have d1:=hA1.c1;have hl1:¬((p:Int)+64<p1):=(by have a1:=hA1.len;have a2:=HA.out.len;have a3:=HC.out;have a4:=hA1.le;omega);have hm1:=hA1.le;clear hz hq R0 c1 hA1);go_ret;unfold number;rw [HR.out];rw [if_neg (by exact HC.out)];exact⟨rfl,R1.out⟩
theorem word_any (W:ByteArray) (hW:W.size≤10) (h0:W.data.toList.contains 0=false) {w:World}{b:Nat}{s:ByteArray}{l:B}{d:Nat} (h:Rd w b s l d):
 Calls Tryz.prog 194 #[.pointer (some ⟨b,0,none⟩),.string W] w fun e w'=>Told (word W.data.toList l) b s d w e w':=by
 obtain⟨T,HT⟩:∃ T,Hid (word W.data.toList l=T):=⟨_,rfl⟩;rw [HT.out];have R0:=hid (And.intro h (Turn.refl b w));clear h;go_enter Tryz.func194,Tryz.ntmps194;go_wp2;go_loopg [8] (W.size+1) (fun gk s8 wr=>∃ i t,i≤W.size∧gk=W.size-i+1∧s8= .int .i64 (i:Int)∧word (W.data.toList.drop i) t=T∧Rd wr b s t d∧Turn b w wr)
 case atStart=>exact⟨0,l,by omega,by omega,rfl,HT.out,R0.out⟩
 case round=>
  obtain⟨i,t,h1,h2,rfl,h3,h4,h5⟩:=hrel;have H:=hid h3;have R1:=hid (And.intro h4 h5);clear h3 h4 h5;by_cases hi:i<W.size
  · have hi':(i:Int)<(W.size:Int):=by omega
    obtain⟨c,hc⟩:∃ c,W.data.toList[i]?=some c:=⟨_,List.getElem?_eq_getElem (by simpa using hi)⟩;have hg:=getE hc hi;have HD:=hid (show W.data.toList.drop i=c::W.data.toList.drop (i+1) from by
     obtain⟨q1,q2⟩:=List.getElem?_eq_some_iff.1 hc;rw [List.drop_eq_getElem_cons q1,q2])
    clear hc;have HZ:Hid (c≠0):=fun e=>by
     have:=List.mem_of_mem_drop (i:=i) (l:=W.data.toList) (a:=c) (by rw [HD.out];simp);rw [e] at this;have h:=h0;rw [List.contains_eq_mem] at h;simp at h;exact h (by simpa using this)
    by_cases hx:nx t=c
    · cases t with
      |nil=>exact absurd hx (fun e=>HZ.out (by rw [←e];rfl))
      |cons c' t'=>
       obtain rfl:c'=c:=hx;have hv:(((nx (c' ::t')).toNat:Int)== (c'.toNat:Int))=true:=by simp [nx]
       obtain⟨p,hA⟩:=R1.out.1.at;have d1:=hA.c1;have f1:=hA.fz 1;have hle:=hA.le;have hms:=hA.most;have HS:=hid hA.step;clear hA h0;go_wp2;go_quiet ((go_at_call 193;exact Calls.quiet_of (next_any (R1.out.1.drewN _))));go_wp2;go_roundg (W.size-(i+1)+1)
       case measure=>omega
       case rel=>
        refine⟨i+1,t',by omega,rfl,by push_cast;rfl,?_,(R1.out.1.drewN _).moved _ (by push_cast;rfl) HS.out.2 HS.out.1,(R1.out.2.drewN _).setCell _ _⟩;rw [←H.out,HD.out];simp only [word,if_true]
    · have hv:(((nx t).toNat:Int)== (c.toNat:Int))=false:=by
       simp only [beq_eq_false_iff_ne,ne_eq,Int.natCast_inj];exact fun e=>hx (UInt8.toNat_inj.1 e)
      clear h0;go_wp2;go_quiet ((go_at_call 193;exact Calls.quiet_of (next_any (R1.out.1.drewN _))));go_wp2;go_ret;have hw:T= .err 3 t:=by
       rw [←H.out,HD.out];cases t with
       |nil=>rfl
       |cons y u=>
        exact if_neg hx
      rw [hw];exact⟨rfl,R1.out.1.drewN _,R1.out.2.drewN _⟩
  · have hi':¬(i:Int)<(W.size:Int):=by omega
    go_wp2;go_ret;have hnil:W.data.toList.drop i= []:=List.drop_eq_nil_of_le (by show W.size≤i;omega);rw [←H.out,hnil];exact⟨rfl,R1.out⟩
def hexOk (c:UInt8):Bool:=match hexv c with
 |none=>decide (Lib.indexByte hexL c<0)
 |some v=>decide (0≤Lib.indexByte hexL c∧Lib.indexByte hexL c<22∧(if 15<Lib.indexByte hexL c then Lib.indexByte hexL c-6 else Lib.indexByte hexL c)=v∧v<16)
theorem hexOk_all:∀ n:Fin 256,hexOk (UInt8.ofNat n.val)=true:=by decide+kernel
theorem hexOk_any (c:UInt8):hexOk c=true:=by
 have:=hexOk_all ⟨c.toNat,c.toNat_lt⟩;simpa using this
theorem hex_none {c:UInt8} (h:hexv c=none):Lib.indexByte hexL c<0:=by
 have:=hexOk_any c;unfold hexOk at this;rw [h] at this;simpa using this
theorem hex_some {c:UInt8}{v:Nat} (h:hexv c=some v):0≤Lib.indexByte hexL c∧Lib.indexByte hexL c<22∧(if 15<Lib.indexByte hexL c then Lib.indexByte hexL c-6 else Lib.indexByte hexL c)=v∧v<16:=by
 have:=hexOk_any c;unfold hexOk at this;rw [h] at this;exact of_decide_eq_true this
def ToldN (r:Res Nat) (b:Nat) (s:ByteArray) (d:Nat) (w:World) (e:Ending) (w':World):Prop:=
 match r with
 | .ok n t=>e= .returned (.tuple #[.int .i32 (n:Int),.nilIface])∧Rd w' b s t d∧Turn b w w'
 | .err k t=>e= .returned (.tuple #[.int .i32 0,errV_j k])∧Rd w' b s t d∧Turn b w w'
theorem ToldN.yes {r:Res Nat}{n:Nat}{t:B}{b:Nat}{s:ByteArray}{d:Nat}{w w':World}{e:Ending} (h:ToldN r b s d w e w') (k:r= .ok n t):e= .returned (.tuple #[.int .i32 (n:Int),.nilIface])∧Rd w' b s t d∧Turn b w w':=by
 rw [k] at h;exact h
theorem ToldN.no {r:Res Nat}{t:B}{n:Nat}{b:Nat}{s:ByteArray}{d:Nat}{w w':World}{e:Ending} (h:ToldN r b s d w e w') (k:r= .err n t):e= .returned (.tuple #[.int .i32 0,errV_j n])∧Rd w' b s t d∧Turn b w w':=by
 rw [k] at h;exact h
theorem index_hex (c:Int) (w:World):
 Calls Tryz.prog 241 #[.string ⟨#[48,49,50,51,52,53,54,55,56,57,97,98,99,100,101,102,65,66,67,68,69,70]⟩,.int .u8 c] w fun e w'=>e= .returned (.int .i64 (Lib.indexByte hexL c.toNat.toUInt8))∧w'=w:=index_any_j _ _ _
def Pow (k a:Nat):Prop:=a<16 ^ (4-k)
theorem join16 (a v:Nat) (ha:a<4096) (hv:v<16):bits .or .i32 ((a:Int)*16) (v:Int)=((a*16+v:Nat):Int):=by
 rw [bits_join .i32 20 (by decide) (fun n h0 h1=>by rw [IntKind.wrap_i32];omega) 4 _ _ (by omega) (by omega) (by omega) (by omega) (by omega) (by omega)];push_cast;rfl
theorem pow_step {k a v:Nat} (h:Pow (k+1) a) (hv:v<16) (hk:k+1≤4):Pow k (a*16+v):=by
 unfold Pow at h ⊢;have e:16 ^ (4-k)=16 ^ (4-(k+1))*16:=by rw [←Nat.pow_succ];congr 1;omega
 rw [e];omega
theorem four_any {w:World}{b:Nat}{s:ByteArray}{l:B}{d:Nat} (h:Rd w b s l d):
 Calls Tryz.prog 359 #[.pointer (some ⟨b,0,none⟩)] w fun e w'=>ToldN (four 4 0 l) b s d w e w':=by
 obtain⟨T,HT⟩:∃ T,Hid (four 4 0 l=T):=⟨_,rfl⟩;rw [HT.out];have R0:=hid (And.intro h (Turn.refl b w));clear h;go_enter Tryz.func359,Tryz.ntmps359;go_wp2;go_loopg [4,6] 5 (fun gk s4 s6 wr=>∃ (k a:Nat) (t:B),k≤4∧gk=k+1∧s6= .int .i64 ((4-k:Nat):Int)∧s4= .int .i32 (a:Int)∧Pow k a∧four k a t=T∧Rd wr b s t d∧Turn b w wr)
 case atStart=>exact⟨4,0,l,by omega,rfl,rfl,rfl,by unfold Pow;decide,HT.out,R0.out⟩
 case round=>
  obtain⟨k,a,t,hk,rfl,rfl,rfl,hp,h3,h4,h5⟩:=hrel;have H:=hid (And.intro hp h3);have R1:=hid (And.intro h4 h5);clear hp h3 h4 h5;cases k with
  |zero=>
   go_wp2;go_ret2;rw [←H.out.2];exact⟨rfl,R1.out⟩
  |succ k=>
   have hk2:((4-(k+1):Nat):Int)<4:=by omega
   have ha:a<4096:=by
    have:=H.out.1;unfold Pow at this;have h2:16 ^ (4-(k+1))≤16 ^ 3:=Nat.pow_le_pow_right (by omega) (by omega);omega
   cases hx:hexv (nx t) with
   |none=>
    have HX:=hid hx;have hn:=hex_none hx;obtain⟨I,hI⟩:∃ I,Lib.indexByte hexL (nx t)=I:=⟨_,rfl⟩;rw [hI] at hn;clear hx;go_wp2_with (first
     |(go_at_call 193;refine(next_any R1.out.1).mono ?_;rintro e w' ⟨rfl,n,rfl⟩)
     |(go_at_call 241;refine(index_hex _ _).mono ?_;rintro e w' ⟨rfl,hw⟩;have hw2:=hw.symm;subst hw2;rw [toUInt8_toNat,hI]))
    go_ret2;have hw:T= .err 3 t:=by
     rw [←H.out.2];cases t with
     |nil=>rfl
     |cons y u=>simp only [four];rw [show hexv y=none from HX.out]
    rw [hw];exact⟨rfl,R1.out.1.drewN _,R1.out.2.drewN _⟩
   |some v=>
    have hs:=hex_some hx;obtain⟨I,hI⟩:∃ I,Lib.indexByte hexL (nx t)=I:=⟨_,rfl⟩;rw [hI] at hs;obtain⟨i0,i1,i2,i3⟩:=hs;cases t with
    |nil=>simp [nx,hexv] at hx
    |cons y u=>
     have HX:=hid hx;clear hx;obtain⟨p,hA⟩:=R1.out.1.at;have d1:=hA.c1;have f1:=hA.fz 1;have hle:=hA.le;have hms:=hA.most;have HS:=hid hA.step;clear hA;have hor:=join16 a v ha i3;have hI2:=hid hI;clear hI;have hJ:¬I<0:=by omega
     by_cases hc:15<I
     · rw [if_pos hc] at i2;have hsub:I-6=(v:Int):=i2;clear i2;go_wp2_with (first
        |(go_at_call 193;refine(next_any R1.out.1).mono ?_;rintro e w' ⟨rfl,n,rfl⟩)
        |(go_at_call 241;refine(index_hex _ _).mono ?_;rintro e w' ⟨rfl,hw⟩;have hw2:=hw.symm;subst hw2;rw [toUInt8_toNat,hI2.out]))
       go_roundg (k+1)
       case measure=>omega
       case rel=>
        refine⟨k,a*16+v,u,by omega,rfl,?_,?_,?_,?_,(R1.out.1.drewN _).moved _ (by push_cast;rfl) HS.out.2 HS.out.1,(R1.out.2.drewN _).setCell _ _⟩
        · congr 1;omega
        · rfl
        · exact pow_step H.out.1 i3 hk
        · rw [←H.out.2];simp only [four];rw [show hexv y=some v from HX.out]
     · rw [if_neg hc] at i2;subst i2;go_wp2_with (first
        |(go_at_call 193;refine(next_any R1.out.1).mono ?_;rintro e w' ⟨rfl,n,rfl⟩)
        |(go_at_call 241;refine(index_hex _ _).mono ?_;rintro e w' ⟨rfl,hw⟩;have hw2:=hw.symm;subst hw2;rw [toUInt8_toNat,hI2.out]))
       go_roundg (k+1)
       case measure=>omega
       case rel=>
        refine⟨k,a*16+v,u,by omega,rfl,?_,?_,?_,?_,(R1.out.1.drewN _).moved _ (by push_cast;rfl) HS.out.2 HS.out.1,(R1.out.2.drewN _).setCell _ _⟩
        · congr 1;omega
        · rfl
        · exact pow_step H.out.1 i3 hk
        · rw [←H.out.2];simp only [four];rw [show hexv y=some v from HX.out]
end Go.Proofs.YtlmefgjhbohjlaaGreatDoor
