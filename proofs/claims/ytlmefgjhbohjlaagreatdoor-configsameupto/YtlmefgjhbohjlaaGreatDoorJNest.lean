/- What holds while a list or an object is read. -/
import Derived.Test.YtlmefgjhbohjlaaGreatDoorJPart
namespace Go.Proofs.YtlmefgjhbohjlaaGreatDoor
set_option maxRecDepth 20000
set_option maxHeartbeats 4000000
open Go.RowKit
structure TN (N b:Nat) (w w':World):Prop where
 os:w'.os=w.os
 tape:w'.tape=w.tape
 output:w'.output=w.output
 size:w.heap.size≤w'.heap.size
 block:∀ k,k<N→k≠b→w'.heap[k]?=w.heap[k]?
theorem TN.trans {N b:Nat}{x y z:World} (h:TN N b x y) (k:TN N b y z):TN N b x z:=
 ⟨k.os.trans h.os,k.tape.trans h.tape,k.output.trans h.output,Nat.le_trans h.size k.size,fun i hi h1=>(k.block i hi h1).trans (h.block i hi h1)⟩
theorem Turn.tn {N b:Nat}{w w':World} (h:Turn b w w') (hN:N≤w.heap.size):TN N b w w':=⟨h.os,h.tape,h.output,h.size,fun k hk h1=>h.block k (Nat.lt_of_lt_of_le hk hN) h1⟩
theorem Fr.tn {N base b v:Nat}{w w':World} (h:Fr base b v w w') (hN:N≤base) (hv:N≤v):TN N b w w':=⟨h.os,h.tape,h.output,h.size,fun k hk h1=>h.block k (by omega) h1 (by omega)⟩
theorem Turn2.tn {N b m:Nat}{w w':World} (h:Turn2 b m w w') (hN:N≤w.heap.size) (hm:N≤m):TN N b w w':=⟨h.os,h.tape,h.output,h.size,fun k hk h1=>h.block k (by omega) h1 (by omega)⟩
structure Lay (N b v base bx:Nat) (om:Option (Nat×Nat)):Prop where
 lb:b<N
 lv:N≤v∧v<base
 lx:b≠bx∧bx<base∧bx≠v
 nb:6≤b
 lm:∀ m mc,om=some (m,mc)→N≤m∧m<base∧m≠v∧m≠bx∧N≤mc∧mc<base∧mc≠v∧mc≠bx∧mc≠m
structure SI (w0 w:World) (N b v base bx:Nat) (s:ByteArray) (d:Nat) (kd:Int) (om:Option (Nat×Nat)) (l:B) (x:List B×List JV):Prop where
 rd:Rd w b s l d
 obj:∃ lv nv xs F,VObj w v base kd x.2 x.1 lv nv xs F
 env:Env w
 tn:TN N b w0 w
 box:w.heap[bx]?=some (.cells #[.pointer (some ⟨b,0,none⟩)] 195 (0,0))
 set:∀ m mc,om=some (m,mc)→SetAt w m x.1∧w.heap[mc]?=some (.cells #[.map (some m)] 264 (0,0))
theorem SI.move {w0 w w':World}{N b v base bx:Nat}{s:ByteArray}{d d':Nat}{kd:Int}{om:Option (Nat×Nat)}{l l':B}{x:List B×List JV} (L:Lay N b v base bx om) (h:SI w0 w N b v base bx s d kd om l x) (ht:Turn b w w') (hr:Rd w' b s l' d'):SI w0 w' N b v base bx s d' kd om l' x:=by
 obtain⟨lv,nv,xs,F,hO⟩:=h.obj;have hb:=L.lb;have hv:=L.lv;refine⟨hr,⟨lv,nv,xs,F,hO.turn ht (by omega) (by omega)⟩,h.env.turn ht L.nb,h.tn.trans (ht.tn (by have:=hO.le;omega)),?_,fun m mc hm=>?_⟩
 · have:=L.lx;rw [ht.block bx (by have:=hO.le;omega) (by omega)];exact h.box
 · obtain⟨a1,a2,a3,a4,a5,a6,a7,a8,a9⟩:=L.lm m mc hm;obtain⟨s1,s2⟩:=h.set m mc hm;exact⟨World.ownsMap.kept s1 ht.toGrown (by simp;omega),by rw [ht.block mc (by have:=hO.le;omega) (by omega)];exact s2⟩
theorem SI.part {w0 w w':World}{N b v base bx:Nat}{s:ByteArray}{d d':Nat}{kd:Int}{om:Option (Nat×Nat)}{l l':B}{x y:List B×List JV} (L:Lay N b v base bx om) (h:SI w0 w N b v base bx s d kd om l x) (hf:Fr base b v w w') (hr:Rd w' b s l' d') (hO:∃ lv nv xs F,VObj w' v base kd y.2 y.1 lv nv xs F) (hy:y.1=x.1):SI w0 w' N b v base bx s d' kd om l' y:=by
 have hb:=L.lb;have hv:=L.lv;have hbx:=L.lx;refine⟨hr,hO,h.env.of_heap fun k hk=>hf.block k (by have:=L.nb;omega) (by have:=L.nb;omega) (by have:=L.nb;omega),h.tn.trans (hf.tn (by omega) hv.1),?_,fun m mc hm=>?_⟩
 · rw [hf.block bx hbx.2.1 (by omega) hbx.2.2];exact h.box
 · obtain⟨a1,a2,a3,a4,a5,a6,a7,a8,a9⟩:=L.lm m mc hm;obtain⟨s1,s2⟩:=h.set m mc hm;refine⟨?_,by rw [hf.block mc a6 (by omega) a7];exact s2⟩;rw [hy];obtain⟨es,clock,q1,q2⟩:=s1;exact⟨es,clock,by rw [hf.block m a2 (by omega) a3];exact q1,q2⟩
structure SE (w0 w:World) (N b v base:Nat) (s:ByteArray) (kd:Int) (u:B):Prop where
 rd:∃ d,Rd w b s u d
 obj:∃ ls ns lv nv xs F,VObj w v base kd ls ns lv nv xs F
 tn:TN N b w0 w
theorem SI.toE {w0 w:World}{N b v base bx:Nat}{s:ByteArray}{d:Nat}{kd:Int}{om:Option (Nat×Nat)}{l:B}{x:St} (h:SI w0 w N b v base bx s d kd om l x):SE w0 w N b v base s kd l:=by
 obtain⟨lv,nv,xs,F,hO⟩:=h.obj;exact⟨⟨d,h.rd⟩,⟨_,_,lv,nv,xs,F,hO⟩,h.tn⟩
def ToldS (w0:World) (N b v base bx:Nat) (s:ByteArray) (d:Nat) (kd:Int) (om:Option (Nat×Nat)) (r:Res St) (e:Ending) (w':World):Prop:=
 match r with
 | .ok y u=>e= .returned .nilIface∧SI w0 w' N b v base bx s d kd om u y
 | .err k u=>e= .returned (errV_j k)∧SE w0 w' N b v base s kd u
theorem ToldS.yes {w0 w':World}{N b v base bx:Nat}{s:ByteArray}{d:Nat}{kd:Int}{om:Option (Nat×Nat)}{r:Res St}{e:Ending}{y:St}{u:B} (h:ToldS w0 N b v base bx s d kd om r e w') (k:r= .ok y u):e= .returned .nilIface∧SI w0 w' N b v base bx s d kd om u y:=by
 rw [k] at h;exact h
theorem ToldS.no {w0 w':World}{N b v base bx:Nat}{s:ByteArray}{d:Nat}{kd:Int}{om:Option (Nat×Nat)}{r:Res St}{e:Ending}{n:Nat}{u:B} (h:ToldS w0 N b v base bx s d kd om r e w') (k:r= .err n u):e= .returned (errV_j n)∧SE w0 w' N b v base s kd u:=by
 rw [k] at h;exact h
def StepOk (K:Nat) (caps:Array Value) (w0:World) (N b v base bx:Nat) (s:ByteArray) (d:Nat) (kd:Int) (om:Option (Nat×Nat)) (step:St→B→Res St):Prop:=
 ∀ (w:World) (l:B) (x:St),x.1.length≤2000000→x.2.length≤2000000→SI w0 w N b v base bx s d kd om l x→Calls Tryz.prog K caps w fun e w'=>ToldS w0 N b v base bx s d kd om (step x l) e w'
def Short (step:St→B→Res St):Prop:=∀ x l y u,step x l= .ok y u→u.length<l.length∧y.1.length≤x.1.length+1∧y.2.length≤x.2.length+1
theorem skips_le (S l:B):(skips S l).length≤l.length:=by
 induction l with
 |nil=>simp [skips]
 |cons c t ih=>
  simp only [skips];split
  · simp;omega
  · exact Nat.le_refl _
theorem parts_list {w0 w:World}{N b v base bx:Nat}{s:ByteArray}{d:Nat}{kd:Int}{om:Option (Nat×Nat)}{l:B}{x:St}{step:St→B→Res St}{caps:Array Value} (L:Lay N b v base bx om) (hS:Short step) (hK:StepOk 245 caps w0 N b v base bx s d kd om step) (h:SI w0 w N b v base bx s d kd om l x) (f:Nat) (hf:l.length<f) (hM:x.1.length+f≤2000000∧x.2.length+f≤2000000):
 Calls Tryz.prog 289 #[.pointer (some ⟨b,0,none⟩),.string ⟨#[93]⟩,.func (.func 245) #[] caps] w fun e w'=>ToldS w0 N b v base bx s d kd om (partsF step [93] f x l) e w':=by
 obtain⟨T,HT⟩:∃ T,Hid (partsF step [93] f x l=T):=⟨_,rfl⟩;rw [HT.out];have HK:=hid hK;have H0:=hid h;have HSh:=hid hS;clear hK h hS;go_enter Tryz.func289,Tryz.ntmps289;go_wp2;go_loopg [7] f (fun gk _ wr=>∃ (t:B) (y:St),t.length<gk∧(y.1.length+gk≤2000000∧y.2.length+gk≤2000000)∧partsF step [93] gk y t=T∧SI w0 wr N b v base bx s d kd om t y)
 case atStart=>exact⟨l,x,hf,hM,HT.out,H0.out⟩
 case round=>
  obtain⟨t,y,ht,hM2,hj,hx⟩:=hrel;have HM:=hid hM2;clear hM2;have R0:=hid hx;have H:=hid hj;clear hx hj H0;cases gk with
  |zero=>omega
  |succ f'=>
   cases hs:step y t with
   |err k u=>
    have HS1:=hid hs;have HR:Hid (T= .err k u):=by unfold Hid;rw [←H.out];simp only [partsF];rw [hs]
    clear hs;go_wp2_with (go_at_call 245;have hcall:=HK.out _ _ _ (by have:=HM.out;omega) (by have:=HM.out;omega) R0.out;(with_reducible refine hcall.mono ?_);clear hcall;intro e w1 hq;obtain⟨rfl,hz⟩:=ToldS.no hq HS1.out;have R1:=hid hz;clear hz;clear hq R0);go_ret;rw [HR.out];exact⟨rfl,R1.out⟩
   |ok z u=>
    have hsh:=(HSh.out _ _ _ _ hs).1;have HM3:=hid (show z.1.length+f'≤2000000∧z.2.length+f'≤2000000 from by have a:=(HSh.out _ _ _ _ hs).2;have b:=HM.out;omega);have HS1:=hid hs;cases he:skip [93] (blanks u) with
    |some t2=>
     have HE:=hid he;have HR:Hid (T= .ok z t2):=by unfold Hid;rw [←H.out];simp only [partsF];rw [hs];simp only [he]
     clear hs he;go_wp2_with (first
      |(go_at_call 245;have hcall:=HK.out _ _ _ (by have:=HM.out;omega) (by have:=HM.out;omega) R0.out;(with_reducible refine hcall.mono ?_);clear hcall;intro e w1 hq;obtain⟨rfl,hz⟩:=ToldS.yes hq HS1.out;have R1:=hid hz;clear hz;clear hq R0)
      |(go_at_call 120;(with_reducible refine(blanks_any R1.out.rd).mono ?_);rintro e w2 ⟨rfl,z1,z2⟩;have R2:=hid (SI.move L R1.out z2 z1);clear z1 z2 R1)
      |(go_at_call 192;(with_reducible refine(skip_endl R2.out.rd).mono ?_);intro e w3 hq;obtain⟨rfl,hz⟩:=Skips.yes hq HE.out;have R3:=hid (SI.move L R2.out hz.2 hz.1);clear hz hq R2))
     go_ret;rw [HR.out];exact⟨rfl,R3.out⟩
    |none=>
     have HE:=hid he;cases hc:skip [44] (blanks u) with
     |none=>
      have HC:=hid hc;have HR:Hid (T= .err 3 (blanks u)):=by unfold Hid;rw [←H.out];simp only [partsF];rw [hs];simp only [he,hc]
      clear hs he hc;go_wp2_with (first
       |(go_at_call 245;have hcall:=HK.out _ _ _ (by have:=HM.out;omega) (by have:=HM.out;omega) R0.out;(with_reducible refine hcall.mono ?_);clear hcall;intro e w1 hq;obtain⟨rfl,hz⟩:=ToldS.yes hq HS1.out;have R1:=hid hz;clear hz;clear hq R0)
       |(go_at_call 120;(with_reducible refine(blanks_any R1.out.rd).mono ?_);rintro e w2 ⟨rfl,z1,z2⟩;have R2:=hid (SI.move L R1.out z2 z1);clear z1 z2 R1)
       |(go_at_call 192;(with_reducible refine(skip_endl R2.out.rd).mono ?_);intro e w3 hq;obtain⟨rfl,hz⟩:=Skips.no hq HE.out;have R3:=hid (SI.move L R2.out hz.2 hz.1);clear hz hq R2)
       |(go_at_call 192;(with_reducible refine(skip_comma R3.out.rd).mono ?_);intro e w4 hq;obtain⟨rfl,hz⟩:=Skips.no hq HC.out;have R4:=hid (SI.move L R3.out hz.2 hz.1);clear hz hq R3))
      go_ret;rw [HR.out];exact⟨rfl,R4.out.toE⟩
     |some t3=>
      have HC:=hid hc;have HR:Hid (partsF step [93] f' z (blanks t3)=T):=by unfold Hid;rw [←H.out];simp only [partsF];rw [hs];simp only [he,hc]
      have hl3:(blanks t3).length<f':=by
       show (skips blanksL t3).length<f';have a1:(skips blanksL u).length=t3.length+1:=skip_length hc;have a2:=skips_le blanksL u;have a3:=skips_le blanksL t3;omega
      clear hs he hc;go_wp2_with (first
       |(go_at_call 245;have hcall:=HK.out _ _ _ (by have:=HM.out;omega) (by have:=HM.out;omega) R0.out;(with_reducible refine hcall.mono ?_);clear hcall;intro e w1 hq;obtain⟨rfl,hz⟩:=ToldS.yes hq HS1.out;have R1:=hid hz;clear hz;clear hq R0)
       |(go_at_call 120;(with_reducible refine(blanks_any R1.out.rd).mono ?_);rintro e w2 ⟨rfl,z1,z2⟩;have R2:=hid (SI.move L R1.out z2 z1);clear z1 z2 R1)
       |(go_at_call 192;(with_reducible refine(skip_endl R2.out.rd).mono ?_);intro e w3 hq;obtain⟨rfl,hz⟩:=Skips.no hq HE.out;have R3:=hid (SI.move L R2.out hz.2 hz.1);clear hz hq R2)
       |(go_at_call 192;(with_reducible refine(skip_comma R3.out.rd).mono ?_);intro e w4 hq;obtain⟨rfl,hz⟩:=Skips.yes hq HC.out;have R4:=hid (SI.move L R3.out hz.2 hz.1);clear hz hq R3)
       |(go_at_call 120;(with_reducible refine(blanks_any R4.out.rd).mono ?_);rintro e w5 ⟨rfl,z1,z2⟩;have R5:=hid (SI.move L R4.out z2 z1);clear z1 z2 R4))
      go_roundg f'
      case measure=>omega
      case rel=>exact⟨blanks t3,z,hl3,HM3.out,HR.out,R5.out⟩
theorem parts_obj {w0 w:World}{N b v base bx:Nat}{s:ByteArray}{d:Nat}{kd:Int}{om:Option (Nat×Nat)}{l:B}{x:St}{step:St→B→Res St}{caps:Array Value} (L:Lay N b v base bx om) (hS:Short step) (hK:StepOk 247 caps w0 N b v base bx s d kd om step) (h:SI w0 w N b v base bx s d kd om l x) (f:Nat) (hf:l.length<f) (hM:x.1.length+f≤2000000∧x.2.length+f≤2000000):
 Calls Tryz.prog 289 #[.pointer (some ⟨b,0,none⟩),.string ⟨#[125]⟩,.func (.func 247) #[] caps] w fun e w'=>ToldS w0 N b v base bx s d kd om (partsF step [125] f x l) e w':=by
 obtain⟨T,HT⟩:∃ T,Hid (partsF step [125] f x l=T):=⟨_,rfl⟩;rw [HT.out];have HK:=hid hK;have H0:=hid h;have HSh:=hid hS;clear hK h hS;go_enter Tryz.func289,Tryz.ntmps289;go_wp2;go_loopg [7] f (fun gk _ wr=>∃ (t:B) (y:St),t.length<gk∧(y.1.length+gk≤2000000∧y.2.length+gk≤2000000)∧partsF step [125] gk y t=T∧SI w0 wr N b v base bx s d kd om t y)
 case atStart=>exact⟨l,x,hf,hM,HT.out,H0.out⟩
 case round=>
  obtain⟨t,y,ht,hM2,hj,hx⟩:=hrel;have HM:=hid hM2;clear hM2;have R0:=hid hx;have H:=hid hj;clear hx hj H0;cases gk with
  |zero=>omega
  |succ f'=>
   cases hs:step y t with
   |err k u=>
    have HS1:=hid hs;have HR:Hid (T= .err k u):=by unfold Hid;rw [←H.out];simp only [partsF];rw [hs]
    clear hs;go_wp2_with (go_at_call 247;have hcall:=HK.out _ _ _ (by have:=HM.out;omega) (by have:=HM.out;omega) R0.out;(with_reducible refine hcall.mono ?_);clear hcall;intro e w1 hq;obtain⟨rfl,hz⟩:=ToldS.no hq HS1.out;have R1:=hid hz;clear hz;clear hq R0);go_ret;rw [HR.out];exact⟨rfl,R1.out⟩
   |ok z u=>
    have hsh:=(HSh.out _ _ _ _ hs).1;have HM3:=hid (show z.1.length+f'≤2000000∧z.2.length+f'≤2000000 from by have a:=(HSh.out _ _ _ _ hs).2;have b:=HM.out;omega);have HS1:=hid hs;cases he:skip [125] (blanks u) with
    |some t2=>
     have HE:=hid he;have HR:Hid (T= .ok z t2):=by unfold Hid;rw [←H.out];simp only [partsF];rw [hs];simp only [he]
     clear hs he;go_wp2_with (first
      |(go_at_call 247;have hcall:=HK.out _ _ _ (by have:=HM.out;omega) (by have:=HM.out;omega) R0.out;(with_reducible refine hcall.mono ?_);clear hcall;intro e w1 hq;obtain⟨rfl,hz⟩:=ToldS.yes hq HS1.out;have R1:=hid hz;clear hz;clear hq R0)
      |(go_at_call 120;(with_reducible refine(blanks_any R1.out.rd).mono ?_);rintro e w2 ⟨rfl,z1,z2⟩;have R2:=hid (SI.move L R1.out z2 z1);clear z1 z2 R1)
      |(go_at_call 192;(with_reducible refine(skip_endo R2.out.rd).mono ?_);intro e w3 hq;obtain⟨rfl,hz⟩:=Skips.yes hq HE.out;have R3:=hid (SI.move L R2.out hz.2 hz.1);clear hz hq R2))
     go_ret;rw [HR.out];exact⟨rfl,R3.out⟩
    |none=>
     have HE:=hid he;cases hc:skip [44] (blanks u) with
     |none=>
      have HC:=hid hc;have HR:Hid (T= .err 3 (blanks u)):=by unfold Hid;rw [←H.out];simp only [partsF];rw [hs];simp only [he,hc]
      clear hs he hc;go_wp2_with (first
       |(go_at_call 247;have hcall:=HK.out _ _ _ (by have:=HM.out;omega) (by have:=HM.out;omega) R0.out;(with_reducible refine hcall.mono ?_);clear hcall;intro e w1 hq;obtain⟨rfl,hz⟩:=ToldS.yes hq HS1.out;have R1:=hid hz;clear hz;clear hq R0)
       |(go_at_call 120;(with_reducible refine(blanks_any R1.out.rd).mono ?_);rintro e w2 ⟨rfl,z1,z2⟩;have R2:=hid (SI.move L R1.out z2 z1);clear z1 z2 R1)
       |(go_at_call 192;(with_reducible refine(skip_endo R2.out.rd).mono ?_);intro e w3 hq;obtain⟨rfl,hz⟩:=Skips.no hq HE.out;have R3:=hid (SI.move L R2.out hz.2 hz.1);clear hz hq R2)
       |(go_at_call 192;(with_reducible refine(skip_comma R3.out.rd).mono ?_);intro e w4 hq;obtain⟨rfl,hz⟩:=Skips.no hq HC.out;have R4:=hid (SI.move L R3.out hz.2 hz.1);clear hz hq R3))
      go_ret;rw [HR.out];exact⟨rfl,R4.out.toE⟩
     |some t3=>
      have HC:=hid hc;have HR:Hid (partsF step [125] f' z (blanks t3)=T):=by unfold Hid;rw [←H.out];simp only [partsF];rw [hs];simp only [he,hc]
      have hl3:(blanks t3).length<f':=by
       show (skips blanksL t3).length<f';have a1:(skips blanksL u).length=t3.length+1:=skip_length hc;have a2:=skips_le blanksL u;have a3:=skips_le blanksL t3;omega
      clear hs he hc;go_wp2_with (first
       |(go_at_call 247;have hcall:=HK.out _ _ _ (by have:=HM.out;omega) (by have:=HM.out;omega) R0.out;(with_reducible refine hcall.mono ?_);clear hcall;intro e w1 hq;obtain⟨rfl,hz⟩:=ToldS.yes hq HS1.out;have R1:=hid hz;clear hz;clear hq R0)
       |(go_at_call 120;(with_reducible refine(blanks_any R1.out.rd).mono ?_);rintro e w2 ⟨rfl,z1,z2⟩;have R2:=hid (SI.move L R1.out z2 z1);clear z1 z2 R1)
       |(go_at_call 192;(with_reducible refine(skip_endo R2.out.rd).mono ?_);intro e w3 hq;obtain⟨rfl,hz⟩:=Skips.no hq HE.out;have R3:=hid (SI.move L R2.out hz.2 hz.1);clear hz hq R2)
       |(go_at_call 192;(with_reducible refine(skip_comma R3.out.rd).mono ?_);intro e w4 hq;obtain⟨rfl,hz⟩:=Skips.yes hq HC.out;have R4:=hid (SI.move L R3.out hz.2 hz.1);clear hz hq R3)
       |(go_at_call 120;(with_reducible refine(blanks_any R4.out.rd).mono ?_);rintro e w5 ⟨rfl,z1,z2⟩;have R5:=hid (SI.move L R4.out z2 z1);clear z1 z2 R4))
      go_roundg f'
      case measure=>omega
      case rel=>exact⟨blanks t3,z,hl3,HM3.out,HR.out,R5.out⟩
theorem Rd.deepz {w:World}{b:Nat}{s:ByteArray}{l:B}{d:Nat} (h:Rd w b s l d) (z:Int) (d':Nat) (hz:z=d'):Rd (w.setCell ⟨b,2,none⟩ (.int .i64 z)) b s l d':=by
 subst hz;exact h.deep d'
theorem nested_list {w0 w:World}{N b v base bx:Nat}{s:ByteArray}{d:Nat}{kd:Int}{om:Option (Nat×Nat)}{l:B}{x:St}{step:St→B→Res St}{caps:Array Value} (L:Lay N b v base bx om) (hS:Short step) (hsz:s.size≤1048576) (hd:d≤32) (hx:x.1.length=0∧x.2.length=0) (hK:d≠32→StepOk 245 caps w0 N b v base bx s (d+1) kd om step) (h:SI w0 w N b v base bx s d kd om l x) (hl:∃ c l1,l=c::l1):
 Calls Tryz.prog 244 #[.pointer (some ⟨b,0,none⟩),.string ⟨#[93]⟩,.func (.func 245) #[] caps] w fun e w'=>ToldS w0 N b v base bx s d kd om (if d=32 then .err 5 l else nestedS step [93] x (l.drop 1)) e w':=by
 obtain⟨c,l1,rfl⟩:=hl;have R0:=hid h;have HSh:=hid hS;obtain⟨p,hA⟩:=h.rd.at;have c1:=hA.c1;have c2:=hA.c2;have f1:=hA.fz 1;have f2:=hA.fz 2;have hms:=hA.most;have hle:=hA.le;have HX:=hid hA.step;have HLen:=hid (show x.1.length+((blanks l1).length+1)≤2000000∧x.2.length+((blanks l1).length+1)≤2000000 from by
  have a1:=hA.len;have a2:=skips_le blanksL l1;simp only [List.length_cons] at a1;have a3:(blanks l1).length=(skips blanksL l1).length:=rfl;omega)
 clear h hS hA hsz;by_cases h32:d=32
 · subst h32;rw [if_pos rfl];clear hK;go_enter Tryz.func244,Tryz.ntmps244;go_wp2;go_ret;exact⟨rfl,R0.out.toE⟩
 · rw [if_neg h32];have HK:=hid (hK h32);clear hK;have hne:((d:Int)== 32)=false:=by simp only [beq_eq_false_iff_ne,ne_eq];omega
   have HT:Hid (nestedS step [93] x ((c::l1).drop 1)=(match skip [93] (blanks l1) with|some t=>.ok x t|none=>partsF step [93] ((blanks l1).length+1) x (blanks l1))):=rfl;rw [HT.out];have R1:=hid (SI.move (w':=(w.setCell ⟨b,2,none⟩ (.int .i64 ((d:Int)+1))).setCell ⟨b,1,none⟩ (.int .i64 ((p:Int)+1))) L R0.out (((Turn.refl _ _).setCell _ _).setCell _ _) ((R0.out.rd.deepz ((d:Int)+1) (d+1) (by push_cast;rfl)).moved ((p:Int)+1) (by push_cast;rfl) HX.out.2 HX.out.1));clear R0 h32;cases hs:skip [93] (blanks l1) with
   |some t=>
    have HS:=hid hs;clear hs;go_enter Tryz.func244,Tryz.ntmps244;go_wp2_with (first
     |(go_at_call 120;(with_reducible refine(blanks_any R1.out.rd).mono ?_);rintro e w2 ⟨rfl,z1,z2⟩;have R2:=hid (SI.move L R1.out z2 z1);clear z1 z2 R1)
     |(go_at_call 192;(with_reducible refine(skip_endl R2.out.rd).mono ?_);intro e w3 hq;obtain⟨rfl,hz⟩:=Skips.yes hq HS.out;have R3:=hid (SI.move L R2.out hz.2 hz.1);clear hz hq R2;obtain⟨p3,hA3⟩:=R3.out.rd.at;have k2:=hA3.c2;have k3:=hA3.fz 2;clear hA3))
    go_ret;exact⟨rfl,SI.move L R3.out ((Turn.refl _ _).setCell _ _) (R3.out.rd.deepz _ d (by push_cast;omega))⟩
   |none=>
    have HS:=hid hs;clear hs;simp only;cases hp:partsF step [93] ((blanks l1).length+1) x (blanks l1) with
    |err k u=>
     have HP:=hid hp;clear hp;go_enter Tryz.func244,Tryz.ntmps244;go_wp2_with (first
      |(go_at_call 120;(with_reducible refine(blanks_any R1.out.rd).mono ?_);rintro e w2 ⟨rfl,z1,z2⟩;have R2:=hid (SI.move L R1.out z2 z1);clear z1 z2 R1)
      |(go_at_call 192;(with_reducible refine(skip_endl R2.out.rd).mono ?_);intro e w3 hq;obtain⟨rfl,hz⟩:=Skips.no hq HS.out;have R3:=hid (SI.move L R2.out hz.2 hz.1);clear hz hq R2)
      |(go_at_call 289;have hcall:=parts_list L HSh.out HK.out R3.out ((blanks l1).length+1) (Nat.lt_succ_self _) HLen.out;(with_reducible refine hcall.mono ?_);clear hcall;intro e w4 hq;obtain⟨rfl,hz⟩:=ToldS.no hq HP.out;have R4:=hid hz;clear hz hq R3))
     go_ret;exact⟨rfl,R4.out⟩
    |ok y u=>
     have HP:=hid hp;clear hp;go_enter Tryz.func244,Tryz.ntmps244;go_wp2_with (first
      |(go_at_call 120;(with_reducible refine(blanks_any R1.out.rd).mono ?_);rintro e w2 ⟨rfl,z1,z2⟩;have R2:=hid (SI.move L R1.out z2 z1);clear z1 z2 R1)
      |(go_at_call 192;(with_reducible refine(skip_endl R2.out.rd).mono ?_);intro e w3 hq;obtain⟨rfl,hz⟩:=Skips.no hq HS.out;have R3:=hid (SI.move L R2.out hz.2 hz.1);clear hz hq R2)
      |(go_at_call 289;have hcall:=parts_list L HSh.out HK.out R3.out ((blanks l1).length+1) (Nat.lt_succ_self _) HLen.out;(with_reducible refine hcall.mono ?_);clear hcall;intro e w4 hq;obtain⟨rfl,hz⟩:=ToldS.yes hq HP.out;have R4:=hid hz;clear hz hq R3;obtain⟨p3,hA3⟩:=R4.out.rd.at;have k2:=hA3.c2;have k3:=hA3.fz 2;clear hA3))
     go_ret;exact⟨rfl,SI.move L R4.out ((Turn.refl _ _).setCell _ _) (R4.out.rd.deepz _ d (by push_cast;omega))⟩
theorem nested_obj {w0 w:World}{N b v base bx:Nat}{s:ByteArray}{d:Nat}{kd:Int}{om:Option (Nat×Nat)}{l:B}{x:St}{step:St→B→Res St}{caps:Array Value} (L:Lay N b v base bx om) (hS:Short step) (hsz:s.size≤1048576) (hd:d≤32) (hx:x.1.length=0∧x.2.length=0) (hK:d≠32→StepOk 247 caps w0 N b v base bx s (d+1) kd om step) (h:SI w0 w N b v base bx s d kd om l x) (hl:∃ c l1,l=c::l1):
 Calls Tryz.prog 244 #[.pointer (some ⟨b,0,none⟩),.string ⟨#[125]⟩,.func (.func 247) #[] caps] w fun e w'=>ToldS w0 N b v base bx s d kd om (if d=32 then .err 5 l else nestedS step [125] x (l.drop 1)) e w':=by
 obtain⟨c,l1,rfl⟩:=hl;have R0:=hid h;have HSh:=hid hS;obtain⟨p,hA⟩:=h.rd.at;have c1:=hA.c1;have c2:=hA.c2;have f1:=hA.fz 1;have f2:=hA.fz 2;have hms:=hA.most;have hle:=hA.le;have HX:=hid hA.step;have HLen:=hid (show x.1.length+((blanks l1).length+1)≤2000000∧x.2.length+((blanks l1).length+1)≤2000000 from by
  have a1:=hA.len;have a2:=skips_le blanksL l1;simp only [List.length_cons] at a1;have a3:(blanks l1).length=(skips blanksL l1).length:=rfl;omega)
 clear h hS hA hsz;by_cases h32:d=32
 · subst h32;rw [if_pos rfl];clear hK;go_enter Tryz.func244,Tryz.ntmps244;go_wp2;go_ret;exact⟨rfl,R0.out.toE⟩
 · rw [if_neg h32];have HK:=hid (hK h32);clear hK;have hne:((d:Int)== 32)=false:=by simp only [beq_eq_false_iff_ne,ne_eq];omega
   have HT:Hid (nestedS step [125] x ((c::l1).drop 1)=(match skip [125] (blanks l1) with|some t=>.ok x t|none=>partsF step [125] ((blanks l1).length+1) x (blanks l1))):=rfl;rw [HT.out];have R1:=hid (SI.move (w':=(w.setCell ⟨b,2,none⟩ (.int .i64 ((d:Int)+1))).setCell ⟨b,1,none⟩ (.int .i64 ((p:Int)+1))) L R0.out (((Turn.refl _ _).setCell _ _).setCell _ _) ((R0.out.rd.deepz ((d:Int)+1) (d+1) (by push_cast;rfl)).moved ((p:Int)+1) (by push_cast;rfl) HX.out.2 HX.out.1));clear R0 h32;cases hs:skip [125] (blanks l1) with
   |some t=>
    have HS:=hid hs;clear hs;go_enter Tryz.func244,Tryz.ntmps244;go_wp2_with (first
     |(go_at_call 120;(with_reducible refine(blanks_any R1.out.rd).mono ?_);rintro e w2 ⟨rfl,z1,z2⟩;have R2:=hid (SI.move L R1.out z2 z1);clear z1 z2 R1)
     |(go_at_call 192;(with_reducible refine(skip_endo R2.out.rd).mono ?_);intro e w3 hq;obtain⟨rfl,hz⟩:=Skips.yes hq HS.out;have R3:=hid (SI.move L R2.out hz.2 hz.1);clear hz hq R2;obtain⟨p3,hA3⟩:=R3.out.rd.at;have k2:=hA3.c2;have k3:=hA3.fz 2;clear hA3))
    go_ret;exact⟨rfl,SI.move L R3.out ((Turn.refl _ _).setCell _ _) (R3.out.rd.deepz _ d (by push_cast;omega))⟩
   |none=>
    have HS:=hid hs;clear hs;simp only;cases hp:partsF step [125] ((blanks l1).length+1) x (blanks l1) with
    |err k u=>
     have HP:=hid hp;clear hp;go_enter Tryz.func244,Tryz.ntmps244;go_wp2_with (first
      |(go_at_call 120;(with_reducible refine(blanks_any R1.out.rd).mono ?_);rintro e w2 ⟨rfl,z1,z2⟩;have R2:=hid (SI.move L R1.out z2 z1);clear z1 z2 R1)
      |(go_at_call 192;(with_reducible refine(skip_endo R2.out.rd).mono ?_);intro e w3 hq;obtain⟨rfl,hz⟩:=Skips.no hq HS.out;have R3:=hid (SI.move L R2.out hz.2 hz.1);clear hz hq R2)
      |(go_at_call 289;have hcall:=parts_obj L HSh.out HK.out R3.out ((blanks l1).length+1) (Nat.lt_succ_self _) HLen.out;(with_reducible refine hcall.mono ?_);clear hcall;intro e w4 hq;obtain⟨rfl,hz⟩:=ToldS.no hq HP.out;have R4:=hid hz;clear hz hq R3))
     go_ret;exact⟨rfl,R4.out⟩
    |ok y u=>
     have HP:=hid hp;clear hp;go_enter Tryz.func244,Tryz.ntmps244;go_wp2_with (first
      |(go_at_call 120;(with_reducible refine(blanks_any R1.out.rd).mono ?_);rintro e w2 ⟨rfl,z1,z2⟩;have R2:=hid (SI.move L R1.out z2 z1);clear z1 z2 R1)
      |(go_at_call 192;(with_reducible refine(skip_endo R2.out.rd).mono ?_);intro e w3 hq;obtain⟨rfl,hz⟩:=Skips.no hq HS.out;have R3:=hid (SI.move L R2.out hz.2 hz.1);clear hz hq R2)
      |(go_at_call 289;have hcall:=parts_obj L HSh.out HK.out R3.out ((blanks l1).length+1) (Nat.lt_succ_self _) HLen.out;(with_reducible refine hcall.mono ?_);clear hcall;intro e w4 hq;obtain⟨rfl,hz⟩:=ToldS.yes hq HP.out;have R4:=hid hz;clear hz hq R3;obtain⟨p3,hA3⟩:=R4.out.rd.at;have k2:=hA3.c2;have k3:=hA3.fz 2;clear hA3))
     go_ret;exact⟨rfl,SI.move L R4.out ((Turn.refl _ _).setCell _ _) (R4.out.rd.deepz _ d (by push_cast;omega))⟩
end Go.Proofs.YtlmefgjhbohjlaaGreatDoor
