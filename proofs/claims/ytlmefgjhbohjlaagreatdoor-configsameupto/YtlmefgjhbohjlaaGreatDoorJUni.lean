/- The other half of a pair, codes and escapes. -/
import Derived.Test.YtlmefgjhbohjlaaGreatDoorJHex
namespace Go.Proofs.YtlmefgjhbohjlaaGreatDoor
set_option maxRecDepth 20000
set_option maxHeartbeats 4000000
open Go.RowKit
theorem seq_len:∀ (Ss:List B) (l:B) (x:Unit) (u:B),seqSkip Ss l= .ok x u→Ss.length≤l.length
 | [],_,_,_,_=>Nat.zero_le _
 |S::T,l,x,u,h=>by
  simp only [seqSkip] at h;cases hs:skip S l with
  |none=>rw [hs] at h;simp at h
  |some t=>
   rw [hs] at h;have h1:=skip_length hs;have h2:=seq_len T t x u h;simp;omega
def lowBlock (w:World) (g:Nat):Prop:=w.heap[g]?=some (.cells #[.string ⟨#[92]⟩,.string ⟨#[117]⟩,.string ⟨#[100,68]⟩,.string ⟨#[99,100,101,102,67,68,69,70]⟩] 9 (0,0))
theorem lowBlock.turn {w w':World}{g b:Nat} (h:lowBlock w g) (t:Turn b w w') (hb:g≠b):lowBlock w' g:=(t.block g (lt_of_heap h) hb).trans h
theorem low_any {w:World}{b:Nat}{s:ByteArray}{l:B}{d:Nat} (h:Rd w b s l d):
 Calls Tryz.prog 362 #[.pointer (some ⟨b,0,none⟩)] w fun e w'=>ToldN (lowHalf l) b s d w e w':=by
 obtain⟨T,HT⟩:∃ T,Hid (seqSkip lowL_j l=T):=⟨_,rfl⟩;obtain⟨p,hA⟩:=h.at;have c1:=hA.c1;have hm:=hA.most;have hle:=hA.le;have HA:=hid hA;have R0:=hid (And.intro h (Turn.refl b w));have HB:=hid h.lt;clear h hA;go_enter Tryz.func362,Tryz.ntmps362;go_wp2;go_loopg [13] 5 (fun gk s13 wr=>∃ (i:Nat) (t:B),i≤4∧gk=4-i+1∧s13= .int .i64 (i:Int)∧seqSkip (lowL_j.drop i) t=T∧Rd wr b s t d∧Turn b w wr∧lowBlock wr w.heap.size)
 case atStart=>
  refine⟨0,l,by omega,rfl,rfl,HT.out,?_,?_,?_⟩
  · exact R0.out.1.below (below_new _ _)
  · exact R0.out.2.alloc _
  · unfold lowBlock;exact heap_alloc_new w _
 case round=>
  obtain⟨i,t,hi,rfl,rfl,h3,h4,h5,h6⟩:=hrel;have H:=hid h3;have R1:=hid (And.intro h4 h5);have HG:=hid h6;have k0:wr.cell? ⟨w.heap.size,0,none⟩=some (.string ⟨#[92]⟩):=by unfold lowBlock at h6;simp [World.cell?,h6]
  have k1:wr.cell? ⟨w.heap.size,1,none⟩=some (.string ⟨#[117]⟩):=by unfold lowBlock at h6;simp [World.cell?,h6]
  have k2:wr.cell? ⟨w.heap.size,2,none⟩=some (.string ⟨#[100,68]⟩):=by unfold lowBlock at h6;simp [World.cell?,h6]
  have k3:wr.cell? ⟨w.heap.size,3,none⟩=some (.string ⟨#[99,100,101,102,67,68,69,70]⟩):=by unfold lowBlock at h6;simp [World.cell?,h6]
  clear h3 h4 h5 h6;rcases (by omega:i=0∨i=1∨i=2∨i=3∨i=4) with rfl|rfl|rfl|rfl|rfl
  · cases hs:skip [92] t with
    |none=>
     have HS:=hid hs;clear hs;go_wp2_with (go_at_call 192;(with_reducible refine(skip_back R1.out.1).mono ?_);intro e w1 hq;obtain⟨rfl,hz⟩:=Skips.no hq HS.out;have R2:=hid (And.intro hz.1 (R1.out.2.trans hz.2));clear hz hq R1);go_ret2;have hw:T= .err 3 t:=by rw [←H.out];simp only [lowL_j,List.drop,seqSkip];rw [HS.out]
     unfold lowHalf;rw [HT.out,hw];exact⟨rfl,R2.out⟩
    |some u=>
     have HS:=hid hs;clear hs;go_wp2_with (go_at_call 192;(with_reducible refine(skip_back R1.out.1).mono ?_);intro e w1 hq;obtain⟨rfl,hz⟩:=Skips.yes hq HS.out;have R2:=hid (And.intro hz.1 (R1.out.2.trans hz.2));have HG2:=hid (HG.out.turn hz.2 (fun x=>by have:=HB.out;omega));clear hz hq R1 HG);go_roundg 4
     case measure=>omega
     case rel=>
      refine⟨1,u,by omega,rfl,rfl,?_,R2.out.1,R2.out.2,HG2.out⟩;rw [←H.out];simp only [lowL_j,List.drop,seqSkip];rw [HS.out]
  · cases hs:skip [117] t with
    |none=>
     have HS:=hid hs;clear hs;go_wp2_with (go_at_call 192;(with_reducible refine(skip_uu R1.out.1).mono ?_);intro e w1 hq;obtain⟨rfl,hz⟩:=Skips.no hq HS.out;have R2:=hid (And.intro hz.1 (R1.out.2.trans hz.2));clear hz hq R1);go_ret2;have hw:T= .err 3 t:=by rw [←H.out];simp only [lowL_j,List.drop,seqSkip];rw [HS.out]
     unfold lowHalf;rw [HT.out,hw];exact⟨rfl,R2.out⟩
    |some u=>
     have HS:=hid hs;clear hs;go_wp2_with (go_at_call 192;(with_reducible refine(skip_uu R1.out.1).mono ?_);intro e w1 hq;obtain⟨rfl,hz⟩:=Skips.yes hq HS.out;have R2:=hid (And.intro hz.1 (R1.out.2.trans hz.2));have HG2:=hid (HG.out.turn hz.2 (fun x=>by have:=HB.out;omega));clear hz hq R1 HG);go_roundg 3
     case measure=>omega
     case rel=>
      refine⟨2,u,by omega,rfl,rfl,?_,R2.out.1,R2.out.2,HG2.out⟩;rw [←H.out];simp only [lowL_j,List.drop,seqSkip];rw [HS.out]
  · cases hs:skip [100,68] t with
    |none=>
     have HS:=hid hs;clear hs;go_wp2_with (go_at_call 192;(with_reducible refine(skip_dd R1.out.1).mono ?_);intro e w1 hq;obtain⟨rfl,hz⟩:=Skips.no hq HS.out;have R2:=hid (And.intro hz.1 (R1.out.2.trans hz.2));clear hz hq R1);go_ret2;have hw:T= .err 3 t:=by rw [←H.out];simp only [lowL_j,List.drop,seqSkip];rw [HS.out]
     unfold lowHalf;rw [HT.out,hw];exact⟨rfl,R2.out⟩
    |some u=>
     have HS:=hid hs;clear hs;go_wp2_with (go_at_call 192;(with_reducible refine(skip_dd R1.out.1).mono ?_);intro e w1 hq;obtain⟨rfl,hz⟩:=Skips.yes hq HS.out;have R2:=hid (And.intro hz.1 (R1.out.2.trans hz.2));have HG2:=hid (HG.out.turn hz.2 (fun x=>by have:=HB.out;omega));clear hz hq R1 HG);go_roundg 2
     case measure=>omega
     case rel=>
      refine⟨3,u,by omega,rfl,rfl,?_,R2.out.1,R2.out.2,HG2.out⟩;rw [←H.out];simp only [lowL_j,List.drop,seqSkip];rw [HS.out]
  · cases hs:skip [99,100,101,102,67,68,69,70] t with
    |none=>
     have HS:=hid hs;clear hs;go_wp2_with (go_at_call 192;(with_reducible refine(skip_cf R1.out.1).mono ?_);intro e w1 hq;obtain⟨rfl,hz⟩:=Skips.no hq HS.out;have R2:=hid (And.intro hz.1 (R1.out.2.trans hz.2));clear hz hq R1);go_ret2;have hw:T= .err 3 t:=by rw [←H.out];simp only [lowL_j,List.drop,seqSkip];rw [HS.out]
     unfold lowHalf;rw [HT.out,hw];exact⟨rfl,R2.out⟩
    |some u=>
     have HS:=hid hs;clear hs;go_wp2_with (go_at_call 192;(with_reducible refine(skip_cf R1.out.1).mono ?_);intro e w1 hq;obtain⟨rfl,hz⟩:=Skips.yes hq HS.out;have R2:=hid (And.intro hz.1 (R1.out.2.trans hz.2));have HG2:=hid (HG.out.turn hz.2 (fun x=>by have:=HB.out;omega));clear hz hq R1 HG);go_roundg 1
     case measure=>omega
     case rel=>
      refine⟨4,u,by omega,rfl,rfl,?_,R2.out.1,R2.out.2,HG2.out⟩;rw [←H.out];simp only [lowL_j,List.drop,seqSkip];rw [HS.out]
  · have hT:T= .ok () t:=by rw [←H.out];rfl
    have hL:4≤l.length:=seq_len lowL_j l () t (by rw [HT.out,hT]);have HX:=hid (show s.data.toList.drop (p+2)=l.drop 2∧p+2≤s.size from⟨by rw [←List.drop_drop,HA.out.drop],by have:=HA.out.len;omega⟩);obtain⟨p1,hA1⟩:=R1.out.1.at;have d1:=hA1.c1;have f1:=hA1.fz 1;have HT2:=hid hT;clear hA1 k0 k1 k2 k3 hT hL;have R2:=hid (show Rd (wr.setCell ⟨b,1,none⟩ (.int .i64 ((p:Int)+2))) b s (l.drop 2) d∧Turn b w (wr.setCell ⟨b,1,none⟩ (.int .i64 ((p:Int)+2))) from⟨R1.out.1.moved _ (by push_cast;rfl) HX.out.2 HX.out.1,R1.out.2.setCell _ _⟩);cases hf:four 4 0 (l.drop 2) with
    |ok n u=>
     have HF:=hid hf;clear hf;go_wp2_with (go_at_call 359;(with_reducible refine(four_any R2.out.1).mono ?_);intro e w1 hq;obtain⟨rfl,hz⟩:=ToldN.yes hq HF.out;have R3:=hid (And.intro hz.1 (R2.out.2.trans hz.2));clear hz hq R2);go_ret2;unfold lowHalf;rw [HT.out,HT2.out];simp only [];rw [HF.out];exact⟨rfl,R3.out⟩
    |err n u=>
     have HF:=hid hf;clear hf;go_wp2_with (go_at_call 359;(with_reducible refine(four_any R2.out.1).mono ?_);intro e w1 hq;obtain⟨rfl,hz⟩:=ToldN.no hq HF.out;have R3:=hid (And.intro hz.1 (R2.out.2.trans hz.2));clear hz hq R2);go_ret2;unfold lowHalf;rw [HT.out,HT2.out];simp only [];rw [HF.out];exact⟨rfl,R3.out⟩
theorem four_bound:∀ (k a:Nat) (l:B) (n:Nat) (u:B),four k a l= .ok n u→n<(a+1)*16 ^ k∧u=l.drop k∧k≤l.length∧a*16 ^ k≤n
 |0,a,l,n,u,h=>by simp [four] at h;obtain⟨rfl,rfl⟩:=h;simp
 |k+1,a,[],n,u,h=>by simp [four] at h
 |k+1,a,c::t,n,u,h=>by
  simp only [four] at h;cases hx:hexv c with
  |none=>rw [hx] at h;simp at h
  |some v=>
   rw [hx] at h;have hv:=(hex_some hx).2.2.2;obtain⟨h1,h2,h3,h4⟩:=four_bound k (a*16+v) t n u h;have e:16 ^ (k+1)=16*16 ^ k:=by rw [Nat.pow_succ,Nat.mul_comm]
   refine⟨?_,by simpa using h2,by simp;omega,?_⟩
   · rw [e,←Nat.mul_assoc];refine Nat.lt_of_lt_of_le h1 (Nat.mul_le_mul_right _ (by omega))
   · rw [e,←Nat.mul_assoc];exact Nat.le_trans (Nat.mul_le_mul_right _ (by omega)) h4
theorem low_range {l:B}{m:Nat}{v:B} (h:lowHalf l= .ok m v):56320≤m∧m<57344:=by
 unfold lowHalf at h;cases hs:seqSkip lowL_j l with
 |err k u=>rw [hs] at h;simp at h
 |ok x u=>
  rw [hs] at h;simp only at h;have hl:=seq_len lowL_j l x u hs;simp only [lowL_j,List.length_cons,List.length_nil] at hl;rcases l with _|⟨a,_|⟨b,_|⟨c,_|⟨e,t⟩⟩⟩⟩ <;> simp at hl
  simp only [List.drop,four] at h;simp only [lowL_j,seqSkip,skip] at hs;by_cases h1:([92]:B).contains a
  · rw [if_pos h1] at hs;simp only at hs;by_cases h2:([117]:B).contains b
    · rw [if_pos h2] at hs;simp only at hs;by_cases h3:([100,68]:B).contains c
      · rw [if_pos h3] at hs;simp only at hs;by_cases h4:([99,100,101,102,67,68,69,70]:B).contains e
        · have hc:hexv c=some 13:=by
           simp at h3;rcases h3 with rfl|rfl <;> rfl
          have he:∃ y,hexv e=some y∧12≤y∧y<16:=by
           simp at h4;rcases h4 with rfl|rfl|rfl|rfl|rfl|rfl|rfl|rfl <;> exact⟨_,rfl,by decide,by decide⟩
          obtain⟨y,he,y1,y2⟩:=he;rw [hc] at h;simp only at h;rw [he] at h;simp only at h;have:=four_bound 2 _ _ _ _ h;omega
        · rw [if_neg h4] at hs;simp at hs
      · rw [if_neg h3] at hs;simp at hs
    · rw [if_neg h2] at hs;simp at hs
  · rw [if_neg h1] at hs;simp at hs
theorem isLow_any (c:Nat) (w:World):Calls Tryz.prog 360 #[.int .i32 (c:Int)] w fun e w'=>e= .returned (.bool (decide (56320≤c∧c<57344)))∧w'=w:=by
 by_cases h1:56320≤c
 · have z1:(56320:Int)≤c:=by omega
   by_cases h2:c<57344
   · have z2:(c:Int)<57344:=by omega
     go_enter Tryz.func360,Tryz.ntmps360;go_wp2;go_ret;exact⟨by simp [h1,h2],rfl⟩
   · have z2:¬(c:Int)<57344:=by omega
     go_enter Tryz.func360,Tryz.ntmps360;go_wp2;go_ret;exact⟨by simp,rfl⟩
 · have z1:¬(56320:Int)≤c:=by omega
   go_enter Tryz.func360,Tryz.ntmps360;go_wp2;go_ret;exact⟨by simp,rfl⟩
theorem isHigh_any (c:Nat) (w:World):Calls Tryz.prog 361 #[.int .i32 (c:Int)] w fun e w'=>e= .returned (.bool (decide (55296≤c∧c<56320)))∧w'=w:=by
 by_cases h1:55296≤c
 · have z1:(55296:Int)≤c:=by omega
   by_cases h2:c<56320
   · have z2:(c:Int)<56320:=by omega
     go_enter Tryz.func361,Tryz.ntmps361;go_wp2;go_ret;exact⟨by simp [h1,h2],rfl⟩
   · have z2:¬(c:Int)<56320:=by omega
     go_enter Tryz.func361,Tryz.ntmps361;go_wp2;go_ret;exact⟨by simp,rfl⟩
 · have z1:¬(55296:Int)≤c:=by omega
   go_enter Tryz.func361,Tryz.ntmps361;go_wp2;go_ret;exact⟨by simp,rfl⟩
theorem code_any {w:World}{b:Nat}{s:ByteArray}{l:B}{d:Nat} (h:Rd w b s l d):
 Calls Tryz.prog 321 #[.pointer (some ⟨b,0,none⟩)] w fun e w'=>ToldN (code l) b s d w e w':=by
 obtain⟨p,hA⟩:=h.at;have HA:=hid hA;have R0:=hid (And.intro h (Turn.refl b w));clear h hA;cases hf:four 4 0 l with
 |err k u=>
  have HF:=hid hf;clear hf;go_enter Tryz.func321,Tryz.ntmps321;go_wp2_with (go_at_call 359;(with_reducible refine(four_any R0.out.1).mono ?_);intro e w1 hq;obtain⟨rfl,hz⟩:=ToldN.no hq HF.out;have R1:=hid (And.intro hz.1 (R0.out.2.trans hz.2));clear hz hq R0);go_ret2;unfold code;rw [HF.out];exact⟨rfl,R1.out⟩
 |ok n u=>
  have hb:=four_bound _ _ _ _ _ hf;have HU:=hid hb.2.1;have HN:=hid hb.2.2.1;have hn:n<65536:=by omega
  have HF:=hid hf;clear hf hb;by_cases hl:56320≤n∧n<57344
  · have HL:Hid (decide (56320≤n∧n<57344)=true):=by unfold Hid;simp [hl]
    have HX:=hid (show s.data.toList.drop (p+3)=l.drop 3∧p+3≤s.size from⟨by rw [←List.drop_drop,HA.out.drop],by have:=HA.out.len;have:=HN.out;omega⟩);go_enter Tryz.func321,Tryz.ntmps321;go_wp2_with (first
     |(go_at_call 359;(with_reducible refine(four_any R0.out.1).mono ?_);intro e w1 hq;obtain⟨rfl,hz⟩:=ToldN.yes hq HF.out;have R1:=hid (And.intro hz.1 (R0.out.2.trans hz.2));obtain⟨p1,hA1⟩:=hz.1.at;have d1:=hA1.c1;have f1:=hA1.fz 1;have hp1:p1=p+4:=(by have a1:=hA1.len;have a2:=HA.out.len;have a3:=HU.out;have a4:=HN.out;have a5:=hA1.le;rw [a3,List.length_drop] at a1;omega);have hms:=hA1.most;have hle:=hA1.le;subst hp1;clear hA1 hz hq R0)
     |(go_at_call 360;(with_reducible refine(isLow_any n _).mono ?_);rintro e w' ⟨rfl,hw⟩;have hw2:=hw.symm;subst hw2;rw [HL.out]))
    go_ret2;unfold code;rw [HF.out];simp only [];rw [if_pos hl];exact⟨rfl,R1.out.1.moved _ (by push_cast;omega) HX.out.2 HX.out.1,R1.out.2.setCell _ _⟩
  · have HL:Hid (decide (56320≤n∧n<57344)=false):=by unfold Hid;simp;omega
    by_cases hh:55296≤n∧n<56320
    · have HH:Hid (decide (55296≤n∧n<56320)=true):=by unfold Hid;simp [hh]
      cases hg:lowHalf u with
      |err k v=>
       have HG:=hid hg;clear hg;go_enter Tryz.func321,Tryz.ntmps321;go_wp2_with (first
        |(go_at_call 359;(with_reducible refine(four_any R0.out.1).mono ?_);intro e w1 hq;obtain⟨rfl,hz⟩:=ToldN.yes hq HF.out;have R1:=hid (And.intro hz.1 (R0.out.2.trans hz.2));clear hz hq R0)
        |(go_at_call 360;(with_reducible refine(isLow_any n _).mono ?_);rintro e w' ⟨rfl,hw⟩;have hw2:=hw.symm;subst hw2;rw [HL.out])
        |(go_at_call 361;(with_reducible refine(isHigh_any n _).mono ?_);rintro e w' ⟨rfl,hw⟩;have hw2:=hw.symm;subst hw2;rw [HH.out])
        |(go_at_call 362;(with_reducible refine(low_any R1.out.1).mono ?_);intro e w2 hq;obtain⟨rfl,hz⟩:=ToldN.no hq HG.out;have R2:=hid (And.intro hz.1 (R1.out.2.trans hz.2));clear hz hq R1))
       go_ret2;unfold code;rw [HF.out];simp only [];rw [if_neg hl,if_pos hh,HG.out];exact⟨rfl,R2.out⟩
      |ok m v=>
       have hr:=low_range hg;have HG:=hid hg;clear hg;obtain⟨hh1,hh2⟩:=hh;obtain⟨hr1,hr2⟩:=hr;go_enter Tryz.func321,Tryz.ntmps321;go_wp2_with (first
        |(go_at_call 359;(with_reducible refine(four_any R0.out.1).mono ?_);intro e w1 hq;obtain⟨rfl,hz⟩:=ToldN.yes hq HF.out;have R1:=hid (And.intro hz.1 (R0.out.2.trans hz.2));clear hz hq R0)
        |(go_at_call 360;(with_reducible refine(isLow_any n _).mono ?_);rintro e w' ⟨rfl,hw⟩;have hw2:=hw.symm;subst hw2;rw [HL.out])
        |(go_at_call 361;(with_reducible refine(isHigh_any n _).mono ?_);rintro e w' ⟨rfl,hw⟩;have hw2:=hw.symm;subst hw2;rw [HH.out])
        |(go_at_call 362;(with_reducible refine(low_any R1.out.1).mono ?_);intro e w2 hq;obtain⟨rfl,hz⟩:=ToldN.yes hq HG.out;have R2:=hid (And.intro hz.1 (R1.out.2.trans hz.2));clear hz hq R1))
       go_ret2;unfold code;rw [HF.out];simp only [];rw [if_neg hl,if_pos ⟨hh1,hh2⟩,HG.out];refine⟨?_,R2.out⟩;congr 3;simp;omega
    · have HH:Hid (decide (55296≤n∧n<56320)=false):=by unfold Hid;simp;omega
      go_enter Tryz.func321,Tryz.ntmps321;go_wp2_with (first
       |(go_at_call 359;(with_reducible refine(four_any R0.out.1).mono ?_);intro e w1 hq;obtain⟨rfl,hz⟩:=ToldN.yes hq HF.out;have R1:=hid (And.intro hz.1 (R0.out.2.trans hz.2));clear hz hq R0)
       |(go_at_call 360;(with_reducible refine(isLow_any n _).mono ?_);rintro e w' ⟨rfl,hw⟩;have hw2:=hw.symm;subst hw2;rw [HL.out])
       |(go_at_call 361;(with_reducible refine(isHigh_any n _).mono ?_);rintro e w' ⟨rfl,hw⟩;have hw2:=hw.symm;subst hw2;rw [HH.out]))
      go_ret2;unfold code;rw [HF.out];simp only [];rw [if_neg hl,if_neg hh];exact⟨rfl,R1.out⟩
theorem escape_any {w:World}{b:Nat}{s:ByteArray}{l:B}{d:Nat} (h:Rd w b s l d) (hl:∃ l1,l=92::l1):
 Calls Tryz.prog 285 #[.pointer (some ⟨b,0,none⟩)] w fun e w'=>ToldN (escape (l.drop 1)) b s d w e w':=by
 obtain⟨l1,rfl⟩:=hl;obtain⟨p,hA⟩:=h.at;have c1:=hA.c1;have f1:=hA.fz 1;have hms:=hA.most;have hle:=hA.le;have HX:=hid hA.step;have R1:=hid (show Rd (w.setCell ⟨b,1,none⟩ (.int .i64 ((p:Int)+1))) b s l1 d∧Turn b w (w.setCell ⟨b,1,none⟩ (.int .i64 ((p:Int)+1))) from⟨h.moved _ (by push_cast;rfl) HX.out.2 HX.out.1,(Turn.refl _ _).setCell _ _⟩);clear h hA;show Calls Tryz.prog 285 #[.pointer (some ⟨b,0,none⟩)] w fun e w'=>ToldN (escape l1) b s d w e w'
 by_cases hk:nx l1=34∨nx l1=92∨nx l1=47∨nx l1=98∨nx l1=102∨nx l1=110∨nx l1=114∨nx l1=116∨nx l1=117
 · cases l1 with
   |nil=>simp [nx] at hk
   |cons c t=>
    have hk:c=34∨c=92∨c=47∨c=98∨c=102∨c=110∨c=114∨c=116∨c=117:=hk;obtain⟨p1,hA1⟩:=R1.out.1.at;have hp1:p1=p+1:=by
     have a1:=hA1.len;have a2:=HX.out;have a3:=hA1.le;have a4:(s.data.toList.drop (p+1)).length=(c::t).length:=by rw [a2.1]
     rw [List.length_drop] at a4;have a5:s.data.toList.length=s.size:=rfl;omega
    subst hp1;have HY:=hid hA1.step;clear hA1;rcases hk with rfl|rfl|rfl|rfl|rfl|rfl|rfl|rfl|rfl
    · go_enter Tryz.func285,Tryz.ntmps285;go_wp2_with (go_at_call 193;refine(next_any R1.out.1).mono ?_;rintro e w' ⟨rfl,n,rfl⟩;rw [show nx (34::t)=34 from rfl]);go_ret2;exact⟨rfl,(R1.out.1.drewN n).moved _ (by push_cast;omega) HY.out.2 HY.out.1,(R1.out.2.drewN n).setCell _ _⟩
    · go_enter Tryz.func285,Tryz.ntmps285;go_wp2_with (go_at_call 193;refine(next_any R1.out.1).mono ?_;rintro e w' ⟨rfl,n,rfl⟩;rw [show nx (92::t)=92 from rfl]);go_ret2;exact⟨rfl,(R1.out.1.drewN n).moved _ (by push_cast;omega) HY.out.2 HY.out.1,(R1.out.2.drewN n).setCell _ _⟩
    · go_enter Tryz.func285,Tryz.ntmps285;go_wp2_with (go_at_call 193;refine(next_any R1.out.1).mono ?_;rintro e w' ⟨rfl,n,rfl⟩;rw [show nx (47::t)=47 from rfl]);go_ret2;exact⟨rfl,(R1.out.1.drewN n).moved _ (by push_cast;omega) HY.out.2 HY.out.1,(R1.out.2.drewN n).setCell _ _⟩
    · go_enter Tryz.func285,Tryz.ntmps285;go_wp2_with (go_at_call 193;refine(next_any R1.out.1).mono ?_;rintro e w' ⟨rfl,n,rfl⟩;rw [show nx (98::t)=98 from rfl]);go_ret2;exact⟨rfl,(R1.out.1.drewN n).moved _ (by push_cast;omega) HY.out.2 HY.out.1,(R1.out.2.drewN n).setCell _ _⟩
    · go_enter Tryz.func285,Tryz.ntmps285;go_wp2_with (go_at_call 193;refine(next_any R1.out.1).mono ?_;rintro e w' ⟨rfl,n,rfl⟩;rw [show nx (102::t)=102 from rfl]);go_ret2;exact⟨rfl,(R1.out.1.drewN n).moved _ (by push_cast;omega) HY.out.2 HY.out.1,(R1.out.2.drewN n).setCell _ _⟩
    · go_enter Tryz.func285,Tryz.ntmps285;go_wp2_with (go_at_call 193;refine(next_any R1.out.1).mono ?_;rintro e w' ⟨rfl,n,rfl⟩;rw [show nx (110::t)=110 from rfl]);go_ret2;exact⟨rfl,(R1.out.1.drewN n).moved _ (by push_cast;omega) HY.out.2 HY.out.1,(R1.out.2.drewN n).setCell _ _⟩
    · go_enter Tryz.func285,Tryz.ntmps285;go_wp2_with (go_at_call 193;refine(next_any R1.out.1).mono ?_;rintro e w' ⟨rfl,n,rfl⟩;rw [show nx (114::t)=114 from rfl]);go_ret2;exact⟨rfl,(R1.out.1.drewN n).moved _ (by push_cast;omega) HY.out.2 HY.out.1,(R1.out.2.drewN n).setCell _ _⟩
    · go_enter Tryz.func285,Tryz.ntmps285;go_wp2_with (go_at_call 193;refine(next_any R1.out.1).mono ?_;rintro e w' ⟨rfl,n,rfl⟩;rw [show nx (116::t)=116 from rfl]);go_ret2;exact⟨rfl,(R1.out.1.drewN n).moved _ (by push_cast;omega) HY.out.2 HY.out.1,(R1.out.2.drewN n).setCell _ _⟩
    · have e0:escape (117::t)=code t:=rfl;rw [e0];cases hc:code t with
      |ok m u=>
       have HC:=hid hc;clear hc;go_enter Tryz.func285,Tryz.ntmps285;go_wp2_with (first
        |(go_at_call 193;refine(next_any R1.out.1).mono ?_;rintro e w' ⟨rfl,n,rfl⟩;rw [show nx (117::t)=117 from rfl];have R2:=hid (And.intro ((R1.out.1.drewN n).moved ((p:Int)+1+1) (by push_cast;rfl) HY.out.2 HY.out.1) ((R1.out.2.drewN n).setCell 1 (.int .i64 ((p:Int)+1+1)))))
        |(go_at_call 321;(with_reducible refine(code_any R2.out.1).mono ?_);intro e w2 hq;obtain⟨rfl,hz⟩:=ToldN.yes hq HC.out;have R3:=hid (And.intro hz.1 (R2.out.2.trans hz.2));clear hz hq R2))
       go_ret2;exact⟨rfl,R3.out⟩
      |err m u=>
       have HC:=hid hc;clear hc;go_enter Tryz.func285,Tryz.ntmps285;go_wp2_with (first
        |(go_at_call 193;refine(next_any R1.out.1).mono ?_;rintro e w' ⟨rfl,n,rfl⟩;rw [show nx (117::t)=117 from rfl];have R2:=hid (And.intro ((R1.out.1.drewN n).moved ((p:Int)+1+1) (by push_cast;rfl) HY.out.2 HY.out.1) ((R1.out.2.drewN n).setCell 1 (.int .i64 ((p:Int)+1+1)))))
        |(go_at_call 321;(with_reducible refine(code_any R2.out.1).mono ?_);intro e w2 hq;obtain⟨rfl,hz⟩:=ToldN.no hq HC.out;have R3:=hid (And.intro hz.1 (R2.out.2.trans hz.2));clear hz hq R2))
       go_ret2;exact⟨rfl,R3.out⟩
 · have hn:∀ k:Nat,k<256→(k=34∨k=92∨k=47∨k=98∨k=102∨k=110∨k=114∨k=116∨k=117)→(((nx l1).toNat:Int)== (k:Int))=false:=by
    intro k h0 h1;simp only [beq_eq_false_iff_ne,ne_eq,Int.natCast_inj];intro e;apply hk;have e2:nx l1=UInt8.ofNat k:=by rw [←e];simp
    rw [e2];rcases h1 with rfl|rfl|rfl|rfl|rfl|rfl|rfl|rfl|rfl <;> simp
   have n1:=hn 34 (by omega) (by omega);have n2:=hn 92 (by omega) (by omega);have n3:=hn 47 (by omega) (by omega);have n4:=hn 98 (by omega) (by omega);have n5:=hn 102 (by omega) (by omega);have n6:=hn 110 (by omega) (by omega);have n7:=hn 114 (by omega) (by omega);have n8:=hn 116 (by omega) (by omega);have n9:=hn 117 (by omega) (by omega);have HK:=hid hk;clear hn hk;obtain⟨X,hX⟩:∃ X:Int,((nx l1).toNat:Int)=X:=⟨_,rfl⟩;rw [hX] at n1 n2 n3 n4 n5 n6 n7 n8 n9;have HX2:=hid hX;clear hX;go_enter Tryz.func285,Tryz.ntmps285;go_wp2_with (go_at_call 193;refine(next_any R1.out.1).mono ?_;rintro e w' ⟨rfl,n,rfl⟩;rw [HX2.out]);go_ret2;have hw:escape l1= .err 3 l1:=by
    cases l1 with
    |nil=>rfl
    |cons c t=>
     have hk:¬(c=34∨c=92∨c=47∨c=98∨c=102∨c=110∨c=114∨c=116∨c=117):=HK.out;simp only [not_or] at hk;simp [escape,hk]
   rw [hw];exact⟨rfl,R1.out.1.drewN n,R1.out.2.drewN n⟩
def full (l:B):Bool:=match l with
 | []=>false
 |c::t=>decide (Lib.firstT c.toNat % 8≤t.length+1) || (decide (0<t.length) && (decide ((nx t).toNat<Lib.accLo (Lib.firstT c.toNat / 16)) || decide (Lib.accHi (Lib.firstT c.toNat / 16)<(nx t).toNat)))
  || (decide (1<t.length) && (decide ((nx (t.drop 1)).toNat<128) || decide (191<(nx (t.drop 1)).toNat)))
theorem lead_cases (c:Nat) (h:128≤c) (h2:c<256):(Lib.firstT c=241∧lead c=(0,0,0))∨(194≤c∧c≤223∧lead c=(128,191,1))∨(c=224∧lead c=(160,191,2))∨(c=237∧lead c=(128,159,2))∨
 (((225≤c∧c<237)∨(238≤c∧c<240))∧lead c=(128,191,2))∨(c=240∧lead c=(144,191,3))∨(241≤c∧c≤243∧lead c=(128,191,3))∨(c=244∧lead c=(128,143,3)):=by
 unfold lead Lib.firstT
 (repeat' split) <;> simp <;> omega
theorem slow1 (c:Nat) (lo hi:Nat) (t:B):match tailBad 1 lo hi t 1 with
 |none=>(Lib.slowN (t.length+1) c (t.getD 0 0).toNat (t.getD 1 0).toNat (t.getD 2 0).toNat 2 lo hi).2=2
 |some _=>Lib.slowN (t.length+1) c (t.getD 0 0).toNat (t.getD 1 0).toNat (t.getD 2 0).toNat 2 lo hi=(65533,1):=by
 rcases t with _|⟨x,r⟩
 · simp [tailBad,Lib.slowN]
 · by_cases h:x.toNat<lo∨hi<x.toNat
   · simp [tailBad,Lib.slowN,h]
   · simp [tailBad,Lib.slowN,h];rw [if_neg (by omega)]
theorem slow2 (c:Nat) (lo hi:Nat) (t:B):match tailBad 2 lo hi t 1 with
 |none=>(Lib.slowN (t.length+1) c (t.getD 0 0).toNat (t.getD 1 0).toNat (t.getD 2 0).toNat 3 lo hi).2=3
 |some _=>Lib.slowN (t.length+1) c (t.getD 0 0).toNat (t.getD 1 0).toNat (t.getD 2 0).toNat 3 lo hi=(65533,1):=by
 rcases t with _|⟨x,_|⟨y,r⟩⟩
 · simp [tailBad,Lib.slowN]
 · by_cases h:x.toNat<lo∨hi<x.toNat
   · simp [tailBad,Lib.slowN,h]
   · simp [tailBad,Lib.slowN,h]
 · by_cases h:x.toNat<lo∨hi<x.toNat
   · simp [tailBad,Lib.slowN,h]
   · by_cases h2:y.toNat<128∨191<y.toNat
     · simp [tailBad,Lib.slowN,h,h2]
     · simp [tailBad,Lib.slowN,h,h2];rw [if_neg (by omega)]
theorem slow3 (c:Nat) (lo hi:Nat) (t:B):match tailBad 3 lo hi t 1 with
 |none=>(Lib.slowN (t.length+1) c (t.getD 0 0).toNat (t.getD 1 0).toNat (t.getD 2 0).toNat 4 lo hi).2=4
 |some _=>Lib.slowN (t.length+1) c (t.getD 0 0).toNat (t.getD 1 0).toNat (t.getD 2 0).toNat 4 lo hi=(65533,1):=by
 rcases t with _|⟨x,_|⟨y,_|⟨z,r⟩⟩⟩
 · simp [tailBad,Lib.slowN]
 · by_cases h:x.toNat<lo∨hi<x.toNat
   · simp [tailBad,Lib.slowN,h]
   · simp [tailBad,Lib.slowN,h]
 · by_cases h:x.toNat<lo∨hi<x.toNat
   · simp [tailBad,Lib.slowN,h]
   · by_cases h2:y.toNat<128∨191<y.toNat
     · simp [tailBad,Lib.slowN,h,h2]
     · simp [tailBad,Lib.slowN,h,h2]
 · by_cases h:x.toNat<lo∨hi<x.toNat
   · simp [tailBad,Lib.slowN,h]
   · by_cases h2:y.toNat<128∨191<y.toNat
     · simp [tailBad,Lib.slowN,h,h2]
     · by_cases h3:z.toNat<128∨191<z.toNat
       · simp [tailBad,Lib.slowN,h,h2,h3]
       · simp [tailBad,Lib.slowN,h,h2,h3];rw [if_neg (by omega)]
theorem uni_decode (l:B) (h:l≠ []):((uni l).1=0→(Lib.decodeL l).1=65533∧(Lib.decodeL l).2=1)∧((uni l).1≠0→(Lib.decodeL l).2=(uni l).1∧¬((Lib.decodeL l).1=65533∧(Lib.decodeL l).2=1)):=by
 rcases l with _|⟨c,t⟩
 · exact absurd rfl h
 have hN:Lib.decodeL (c::t)=Lib.decodeN (t.length+1) c.toNat (t.getD 0 0).toNat (t.getD 1 0).toNat (t.getD 2 0).toNat:=by
  rw [Lib.decodeL_N];rfl
 rw [hN];have hc:=c.toNat_lt;have h1:=(t.getD 0 0).toNat_lt;have h2:=(t.getD 1 0).toNat_lt;have h3:=(t.getD 2 0).toNat_lt;by_cases ha:c.toNat<128
 · have e:uni (c::t)=(1,0):=by simp [uni,ha]
   rw [e];refine⟨fun x=>by simp at x,fun _=>?_⟩;unfold Lib.decodeN;rw [if_pos ha];simp;omega
 · have key:∀ lo hi k,lead c.toNat=(lo,hi,k+1)→(match tailBad (k+1) lo hi t 1 with|none=>(Lib.decodeN (t.length+1) c.toNat (t.getD 0 0).toNat (t.getD 1 0).toNat (t.getD 2 0).toNat).2=k+2|some _=>Lib.decodeN (t.length+1) c.toNat (t.getD 0 0).toNat (t.getD 1 0).toNat (t.getD 2 0).toNat=(65533,1))→
    ((uni (c::t)).1=0→(Lib.decodeN (t.length+1) c.toNat (t.getD 0 0).toNat (t.getD 1 0).toNat (t.getD 2 0).toNat).1=65533∧(Lib.decodeN (t.length+1) c.toNat (t.getD 0 0).toNat (t.getD 1 0).toNat (t.getD 2 0).toNat).2=1)∧
    ((uni (c::t)).1≠0→(Lib.decodeN (t.length+1) c.toNat (t.getD 0 0).toNat (t.getD 1 0).toNat (t.getD 2 0).toNat).2=(uni (c::t)).1∧¬((Lib.decodeN (t.length+1) c.toNat (t.getD 0 0).toNat (t.getD 1 0).toNat (t.getD 2 0).toNat).1=65533∧(Lib.decodeN (t.length+1) c.toNat (t.getD 0 0).toNat (t.getD 1 0).toNat (t.getD 2 0).toNat).2=1)):=by
    intro lo hi k hl hm;have e:uni (c::t)=(match tailBad (k+1) lo hi t 1 with|none=>(k+1+1,0)|some i=>(0,i)):=by
     simp only [uni];rw [if_neg ha,hl];simp only [Nat.add_eq_zero_iff,Nat.succ_ne_self,and_false,if_false];cases tailBad (k+1) lo hi t 1 <;> rfl
    rw [e];cases ht:tailBad (k+1) lo hi t 1 with
    |none=>
     rw [ht] at hm;simp only at hm ⊢;refine⟨fun x=>by simp at x,fun _=>⟨hm,fun x=>?_⟩⟩;rw [hm] at x;omega
    |some i=>
     rw [ht] at hm;simp only at hm ⊢;rw [hm];exact⟨fun _=>⟨rfl,rfl⟩,fun x=>absurd rfl x⟩
   rcases lead_cases c.toNat (by omega) hc with ⟨q,e⟩|⟨q1,q2,e⟩|⟨q,e⟩|⟨q,e⟩|⟨q,e⟩|⟨q,e⟩|⟨q1,q2,e⟩|⟨q,e⟩
   · have e2:uni (c::t)=(0,0):=by simp [uni,ha,e]
     rw [e2,Lib.bad_eq _ _ _ _ _ hc q];exact⟨fun _=>⟨rfl,rfl⟩,fun x=>absurd rfl x⟩
   · refine key _ _ 0 e ?_;rw [←Lib.slow_C2 _ _ _ _ _ (by omega) h1 h2 h3 ⟨q1,by omega⟩];exact slow1 _ _ _ _
   · refine key _ _ 1 e ?_;rw [←Lib.slow_E0 _ _ _ _ _ (by omega) h1 h2 h3 q];exact slow2 _ _ _ _
   · refine key _ _ 1 e ?_;rw [←Lib.slow_ED _ _ _ _ _ (by omega) h1 h2 h3 q];exact slow2 _ _ _ _
   · refine key _ _ 1 e ?_;rw [←Lib.slow_E1 _ _ _ _ _ (by omega) h1 h2 h3 q];exact slow2 _ _ _ _
   · refine key _ _ 2 e ?_;rw [←Lib.slow_F0 _ _ _ _ _ (by omega) h1 h2 h3 q];exact slow3 _ _ _ _
   · refine key _ _ 2 e ?_;rw [←Lib.slow_F1 _ _ _ _ _ (by omega) h1 h2 h3 ⟨q1,by omega⟩];exact slow3 _ _ _ _
   · refine key _ _ 2 e ?_;rw [←Lib.slow_F4 _ _ _ _ _ (by omega) h1 h2 h3 q];exact slow3 _ _ _ _
theorem brk1 (c:UInt8) (lo hi:Nat) (t:B) (hf:Lib.firstT c.toNat % 8=2) (hl:Lib.accLo (Lib.firstT c.toNat / 16)=lo) (hh:Lib.accHi (Lib.firstT c.toNat / 16)=hi) (i:Nat) (h:tailBad 1 lo hi t 1=some i):
 (∀ j,j<i→j<t.length+1∧full ((c::t).take (j+1))=false)∧(i<t.length+1→full ((c::t).take (i+1))=true)∧i≤t.length+1:=by
 rcases t with _|⟨x,r⟩
 · simp [tailBad] at h;subst h;refine⟨fun j hj=>?_,fun hj=>by simp at hj,by simp⟩;obtain rfl:j=0:=by omega
   simp [full,hf]
 · by_cases hx:x.toNat<lo∨hi<x.toNat
   · simp [tailBad,hx] at h;subst h;refine⟨fun j hj=>?_,fun _=>?_,by simp⟩
     · obtain rfl:j=0:=by omega
       simp [full,hf]
     · simp [full,hf,hl,hh,nx]
   · simp [tailBad,hx] at h
theorem brk2 (c:UInt8) (lo hi:Nat) (t:B) (hf:Lib.firstT c.toNat % 8=3) (hl:Lib.accLo (Lib.firstT c.toNat / 16)=lo) (hh:Lib.accHi (Lib.firstT c.toNat / 16)=hi) (i:Nat) (h:tailBad 2 lo hi t 1=some i):
 (∀ j,j<i→j<t.length+1∧full ((c::t).take (j+1))=false)∧(i<t.length+1→full ((c::t).take (i+1))=true)∧i≤t.length+1:=by
 rcases t with _|⟨x,_|⟨y,r⟩⟩
 · simp [tailBad] at h;subst h;refine⟨fun j hj=>?_,fun hj=>by simp at hj,by simp⟩;obtain rfl:j=0:=by omega
   simp [full,hf]
 · by_cases hx:x.toNat<lo∨hi<x.toNat
   · simp [tailBad,hx] at h;subst h;refine⟨fun j hj=>?_,fun _=>?_,by simp⟩
     · obtain rfl:j=0:=by omega
       simp [full,hf]
     · simp [full,hf,hl,hh,nx,hx]
   · simp [tailBad,hx] at h;subst h;refine⟨fun j hj=>?_,fun hj=>by simp at hj,by simp⟩;rcases (by omega:j=0∨j=1) with rfl|rfl
     · simp [full,hf]
     · simp [full,hf,hl,hh,nx];omega
 · by_cases hx:x.toNat<lo∨hi<x.toNat
   · simp [tailBad,hx] at h;subst h;refine⟨fun j hj=>?_,fun _=>?_,by simp⟩
     · obtain rfl:j=0:=by omega
       simp [full,hf]
     · simp [full,hf,hl,hh,nx,hx]
   · by_cases hy:y.toNat<128∨191<y.toNat
     · simp [tailBad,hx,hy] at h;subst h;refine⟨fun j hj=>?_,fun _=>?_,by simp⟩
       · rcases (by omega:j=0∨j=1) with rfl|rfl
         · simp [full,hf]
         · simp [full,hf,hl,hh,nx];omega
       · simp [full,hf,hl,hh,nx]
     · simp [tailBad,hx,hy] at h
theorem brk3 (c:UInt8) (lo hi:Nat) (t:B) (hf:Lib.firstT c.toNat % 8=4) (hl:Lib.accLo (Lib.firstT c.toNat / 16)=lo) (hh:Lib.accHi (Lib.firstT c.toNat / 16)=hi) (i:Nat) (h:tailBad 3 lo hi t 1=some i):
 (∀ j,j<i→j<t.length+1∧full ((c::t).take (j+1))=false)∧(i<t.length+1→full ((c::t).take (i+1))=true)∧i≤t.length+1:=by
 rcases t with _|⟨x,_|⟨y,_|⟨z,r⟩⟩⟩
 · simp [tailBad] at h;subst h;refine⟨fun j hj=>?_,fun hj=>by simp at hj,by simp⟩;obtain rfl:j=0:=by omega
   simp [full,hf]
 · by_cases hx:x.toNat<lo∨hi<x.toNat
   · simp [tailBad,hx] at h;subst h;refine⟨fun j hj=>?_,fun _=>?_,by simp⟩
     · obtain rfl:j=0:=by omega
       simp [full,hf]
     · simp [full,hf,hl,hh,nx,hx]
   · simp [tailBad,hx] at h;subst h;refine⟨fun j hj=>?_,fun hj=>by simp at hj,by simp⟩;rcases (by omega:j=0∨j=1) with rfl|rfl
     · simp [full,hf]
     · simp [full,hf,hl,hh,nx];omega
 · by_cases hx:x.toNat<lo∨hi<x.toNat
   · simp [tailBad,hx] at h;subst h;refine⟨fun j hj=>?_,fun _=>?_,by simp⟩
     · obtain rfl:j=0:=by omega
       simp [full,hf]
     · simp [full,hf,hl,hh,nx,hx]
   · by_cases hy:y.toNat<128∨191<y.toNat
     · simp [tailBad,hx,hy] at h;subst h;refine⟨fun j hj=>?_,fun _=>?_,by simp⟩
       · rcases (by omega:j=0∨j=1) with rfl|rfl
         · simp [full,hf]
         · simp [full,hf,hl,hh,nx];omega
       · simp [full,hf,hl,hh,nx,hy]
     · simp [tailBad,hx,hy] at h;subst h;refine⟨fun j hj=>?_,fun hj=>by simp at hj,by simp⟩;rcases (by omega:j=0∨j=1∨j=2) with rfl|rfl|rfl
       · simp [full,hf]
       · simp [full,hf,hl,hh,nx];omega
       · simp [full,hf,hl,hh,nx];omega
 · by_cases hx:x.toNat<lo∨hi<x.toNat
   · simp [tailBad,hx] at h;subst h;refine⟨fun j hj=>?_,fun _=>?_,by simp⟩
     · obtain rfl:j=0:=by omega
       simp [full,hf]
     · simp [full,hf,hl,hh,nx,hx]
   · by_cases hy:y.toNat<128∨191<y.toNat
     · simp [tailBad,hx,hy] at h;subst h;refine⟨fun j hj=>?_,fun _=>?_,by simp⟩
       · rcases (by omega:j=0∨j=1) with rfl|rfl
         · simp [full,hf]
         · simp [full,hf,hl,hh,nx];omega
       · simp [full,hf,hl,hh,nx,hy]
     · by_cases hz:z.toNat<128∨191<z.toNat
       · simp [tailBad,hx,hy,hz] at h;subst h;refine⟨fun j hj=>?_,fun _=>?_,by simp⟩
         · rcases (by omega:j=0∨j=1∨j=2) with rfl|rfl|rfl
           · simp [full,hf]
           · simp [full,hf,hl,hh,nx];omega
           · simp [full,hf,hl,hh,nx];omega
         · simp [full,hf]
       · simp [tailBad,hx,hy,hz] at h
theorem uni_broken (l:B) (h:l≠ []) (h0:(uni l).1=0):(∀ j,j<(uni l).2→j<l.length∧full (l.take (j+1))=false)∧((uni l).2<l.length→full (l.take ((uni l).2+1))=true)∧(uni l).2≤l.length:=by
 rcases l with _|⟨c,t⟩
 · exact absurd rfl h
 have hc:=c.toNat_lt;by_cases ha:c.toNat<128
 · simp [uni,ha] at h0
 · have key:∀ lo hi k,lead c.toNat=(lo,hi,k+1)→∃ i,tailBad (k+1) lo hi t 1=some i∧(uni (c::t)).2=i:=by
    intro lo hi k hl;have e:uni (c::t)=(match tailBad (k+1) lo hi t 1 with|none=>(k+1+1,0)|some i=>(0,i)):=by
     simp only [uni];rw [if_neg ha,hl];simp only [Nat.add_eq_zero_iff,Nat.succ_ne_self,and_false,if_false];cases tailBad (k+1) lo hi t 1 <;> rfl
    rw [e] at h0 ⊢;cases ht:tailBad (k+1) lo hi t 1 with
    |none=>rw [ht] at h0;simp at h0
    |some i=>exact⟨i,rfl,rfl⟩
   rcases lead_cases c.toNat (by omega) hc with ⟨q,e⟩|⟨q1,q2,e⟩|⟨q,e⟩|⟨q,e⟩|⟨q,e⟩|⟨q,e⟩|⟨q1,q2,e⟩|⟨q,e⟩
   · have e2:uni (c::t)=(0,0):=by simp [uni,ha,e]
     rw [e2];refine⟨fun j hj=>by simp at hj,fun _=>?_,by simp⟩;simp [full,q]
   · obtain⟨i,h1,h2⟩:=key _ _ 0 e;have hf:=Lib.firstT_C2 (b:=c.toNat) (⟨q1,by omega⟩)
     rw [h2];exact brk1 c _ _ t (by rw [hf]) (by rw [hf];rfl) (by rw [hf];rfl) i h1
   · obtain⟨i,h1,h2⟩:=key _ _ 1 e;have hf:=Lib.firstT_E0 (b:=c.toNat) q
     rw [h2];exact brk2 c _ _ t (by rw [hf]) (by rw [hf];rfl) (by rw [hf];rfl) i h1
   · obtain⟨i,h1,h2⟩:=key _ _ 1 e;have hf:=Lib.firstT_ED (b:=c.toNat) q
     rw [h2];exact brk2 c _ _ t (by rw [hf]) (by rw [hf];rfl) (by rw [hf];rfl) i h1
   · obtain⟨i,h1,h2⟩:=key _ _ 1 e;have hf:=Lib.firstT_E1 (b:=c.toNat) q
     rw [h2];exact brk2 c _ _ t (by rw [hf]) (by rw [hf];rfl) (by rw [hf];rfl) i h1
   · obtain⟨i,h1,h2⟩:=key _ _ 2 e;have hf:=Lib.firstT_F0 (b:=c.toNat) q
     rw [h2];exact brk3 c _ _ t (by rw [hf]) (by rw [hf];rfl) (by rw [hf];rfl) i h1
   · obtain⟨i,h1,h2⟩:=key _ _ 2 e;have hf:=Lib.firstT_F1 (b:=c.toNat) (⟨q1,by omega⟩)
     rw [h2];exact brk3 c _ _ t (by rw [hf]) (by rw [hf];rfl) (by rw [hf];rfl) i h1
   · obtain⟨i,h1,h2⟩:=key _ _ 2 e;have hf:=Lib.firstT_F4 (b:=c.toNat) q
     rw [h2];exact brk3 c _ _ t (by rw [hf]) (by rw [hf];rfl) (by rw [hf];rfl) i h1
end Go.Proofs.YtlmefgjhbohjlaaGreatDoor
