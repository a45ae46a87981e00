/- Find of the document. -/
import Derived.Test.YtlmlljlappjjjaaGreatDoorTDoc
namespace Go.Proofs.YtlmlljlappjjjaaGreatDoor
open Go.RowKit
structure TwoP (U:World) (g o i j:Nat) (X Y:ByteArray):Prop where
 a0:U.cell? ⟨g,o+i*2,none⟩=some (.string X)
 a1:U.cell? ⟨g,o+j*2,none⟩=some (.string Y)
def BestI (P:List (B×Int)) (y:List B) (i:Nat):Option Nat→Prop
 |none=>bestF y (P.take i)=none
 |some b=>b<i∧∃ p,P[b]?=some p∧bestF y (P.take i)=some p
theorem take_step {P:List (B×Int)}{y:List B}{i:Nat}{x:B×Int} (hx:P[i]?=some x):bestF y (P.take (i+1))=stepF y (bestF y (P.take i)) x:=by
 obtain⟨h1,e⟩:=List.getElem?_eq_some_iff.1 hx;rw [List.take_succ_eq_append_getElem h1,best_snoc,e]
theorem best_no {P:List (B×Int)}{y:List B}{i:Nat}{x:B×Int}{o:Option Nat} (h:BestI P y i o) (hx:P[i]?=some x) (hf:fitsS (patL x.1) y=false):BestI P y (i+1) o:=by
 have e:bestF y (P.take (i+1))=bestF y (P.take i):=by rw [take_step hx];unfold stepF;rw [hf,Bool.false_and,if_neg (by decide)]
 cases o with
 |none=>exact e.trans h
 |some b=>exact⟨by have:=h.1;omega,h.2.imp fun p hp=>⟨hp.1,e.trans hp.2⟩⟩
theorem best_first {P:List (B×Int)}{y:List B}{i:Nat}{x:B×Int} (h:BestI P y i none) (hx:P[i]?=some x) (hf:fitsS (patL x.1) y=true):BestI P y (i+1) (some i):=by
 refine⟨by omega,x,hx,?_⟩;have h:bestF y (P.take i)=none:=h;rw [take_step hx,h];unfold stepF;rw [hf];rfl
theorem best_more {P:List (B×Int)}{y:List B}{i b:Nat}{x p:B×Int} (h:BestI P y i (some b)) (hp:P[b]?=some p) (hx:P[i]?=some x) (hf:fitsS (patL x.1) y=true) (hb:aheadP (patL x.1) (patL p.1)=true):BestI P y (i+1) (some i):=by
 obtain⟨h1,q,hq,hbq⟩:=h;rw [hp] at hq;have:=Option.some.inj hq;subst this;refine⟨by omega,x,hx,?_⟩;rw [take_step hx,hbq];unfold stepF;dsimp only;simp [hf,hb]
theorem best_less {P:List (B×Int)}{y:List B}{i b:Nat}{x p:B×Int} (h:BestI P y i (some b)) (hp:P[b]?=some p) (hx:P[i]?=some x) (hb:aheadP (patL x.1) (patL p.1)=false):BestI P y (i+1) (some b):=by
 obtain⟨h1,q,hq,hbq⟩:=h;rw [hp] at hq;have:=Option.some.inj hq;subst this;refine⟨by omega,p,hp,?_⟩;rw [take_step hx,hbq];unfold stepF;dsimp only;simp [hb]
theorem best_fits {P:List (B×Int)}{y:List B}{i b:Nat}{p:B×Int} (h:BestI P y i (some b)) (hp:P[b]?=some p):fitsS (patL p.1) y=true:=by
 obtain⟨h1,q,hq,hbq⟩:=h;rw [hp] at hq;have:=Option.some.inj hq;subst this;have h2:=best_spec y (P.take i).length (P.take i) rfl;rw [hbq] at h2;exact h2.2.1
def bestV:Option Nat→Value
 |none=>.int .i64 (-1)
 |some b=>.int .i64 (b:Int)
def RFindAns (host:B) (P:List (B×Int)) (w:World) (e:Ending) (w':World):Prop:=Below w.heap.size w w'∧match labsH false host with
 |none=>e= .returned (.tuple #[.int .i64 (-1),.int .i64 3])
 |some y=>(bestF y P=none∧e= .returned (.tuple #[.int .i64 (-1),.int .i64 8]))∨∃ (b:Nat) (p:B×Int),P[b]?=some p∧bestF y P=some p∧e= .returned (.tuple #[.int .i64 (b:Int),.int .i64 0])
set_option maxRecDepth 20000 in
set_option maxHeartbeats 32000000 in
theorem rfind_any (P:List (B×Int)) (hfine:∀ x∈P,∃ z,patH x.1=some z) (host:B) (hh:host.length≤9223372036854775807) (pr:Option Addr) (n c:Nat) (hn:P.length=n) (hnn:n≤1000000) (w:World) (hR:PtAt w pr P):
  Calls Tryz.prog 36 #[.slice pr n c,.string (str host)] w fun e w'=>RFindAns host P w e w':=by
 have HL:=hid (rlabels_any host false hh w);unfold RFindAns;obtain⟨SH,hSH⟩:∃ S,str host=S:=⟨_,rfl⟩;cases hl:labsH false host with
 |none=>
  rw [hl,hSH] at HL;rw [hSH];unfold LabAns at HL;dsimp only at HL ⊢;clear hSH hl hR;go_enter Tryz.func36,Tryz.ntmps36;go_wp2_with (go_at_call 51;(with_reducible refine HL.out.mono ?_);rintro e w1 ⟨hb,rfl⟩;have HB:=hid hb;clear hb HL);go_ret2;exact⟨HB.out,rfl⟩
 |some y=>
  rw [hl,hSH] at HL;unfold LabAns at HL;dsimp only at HL ⊢;have hyl:=labs_len hl;have HFi:=hid (fun (x:B×Int) (hx:x∈P) (W:World)=>(by
   obtain⟨z,hz⟩:=hfine x hx;have h9:=rfits_pat x.1 host z y hz hl W;rw [←patL_some hz] at h9;exact h9:Calls Tryz.prog 52 #[.string (str x.1),.string (str host)] W fun e w'=>e= .returned (.bool (fitsS (patL x.1) y))∧Below W.heap.size W w'))
  have HAi:=hid (fun (x p:B×Int) (hx:x∈P) (hp:p∈P) (fx:fitsS (patL x.1) y=true) (fp:fitsS (patL p.1) y=true) (W:World)=>(by
   obtain⟨z,hz⟩:=hfine x hx;obtain⟨u,hu⟩:=hfine p hp;rw [patL_some hz] at fx;rw [patL_some hu] at fp;have h9:=rahead_pat x.1 p.1 z u y hz hu fx fp W;rw [←patL_some hz,←patL_some hu] at h9;exact h9:Calls Tryz.prog 55 #[.string (str x.1),.string (str p.1)] W fun e w'=>e= .returned (.bool (aheadP (patL x.1) (patL p.1)))∧Below W.heap.size W w'))
  rw [hSH] at HFi ⊢;obtain⟨ny,hny⟩:∃ n,y.length=n:=⟨_,rfl⟩;rw [hny] at HL hyl;have HR:=hid hR;have HN:=hid hn;clear hSH hl hR hny hn;go_enter Tryz.func36,Tryz.ntmps36;go_wp2_with (go_at_call 51;(with_reducible refine HL.out.mono ?_);rintro e w1 ⟨hb,q1,d1,rfl,ho⟩;have HB:=hid hb;clear hb ho HL);go_loopg [8,9] (n+1) (fun gk s8 s9 wr=>∃ (i:Nat) (ob:Option Nat),i≤n∧gk=n-i+1∧s9= .int .i64 (i:Int)∧s8=bestV ob∧BestI P y i ob∧Below w1.heap.size w1 wr)
  case atStart=>exact⟨0,none,by omega,rfl,rfl,rfl,rfl,Below.refl _ _⟩
  case round=>
   obtain⟨i,ob,hi,rfl,rfl,rfl,hE,hb⟩:=hrel;have HE:=hid hE;have HBr:=hid hb;have HBw:=hid (below_out HB.out hb);clear hE hb;by_cases hin:i<n
   · obtain⟨x,hx⟩:∃ x,P[i]?=some x:=⟨_,List.getElem?_eq_getElem (by rw [HN.out];exact hin)⟩;obtain⟨g,o,rfl,q1x,q2x⟩:=(HR.out.next (below_out HBw.out (below_drewH wr 1))) i x hx;have hxm:=List.mem_of_getElem? hx;have HFt:=hid (HFi.out x hxm);obtain⟨Sx,hSx⟩:∃ S,str x.1=S:=⟨_,rfl⟩;rw [hSx] at q1x HFt;clear q2x;have hS0a:wr.drew.cell? ⟨g,o+i*2,none⟩=some (.string Sx):=q1x;cases hf:fitsS (patL x.1) y with
     |false=>
      rw [hf] at HFt;have HE2:=hid (best_no HE.out hx hf);cases ob with
      |none=>
       rw [show bestV none= .int .i64 (-1) from rfl];clear hx hxm hSx hf q1x;go_wp2;refine wp_region_noPanic ?_;refine any_begin 24 (by kernel_rfl) (by kernel_rfl) ?_;refine late_begin (fun U=>U.cell? ⟨g,o+i*2,none⟩=some (.string Sx)) (fun _=>false) hS0a (fun hS=>?_);refine ltk (i:=0) (some 23) rfl rfl (v:= ?v0p) ?hy0p hS ?rest0p
       case hy0p=>intro w0 hSw;(try dsimp only at hSw);go_simp;try with_reducible rfl
       simp only [Act.put,sA,sB,sC];refine ltk (i:=1) (some 24) rfl rfl (v:= ?v1p) ?hy1p hS ?rest1p
       case hy1p=>intro w0 hSw;(try dsimp only at hSw);go_simp;try with_reducible rfl
       simp only [Act.put,sA,sB,sC];refine ltk (i:=2) (some 25) rfl rfl (v:= ?v2p) ?hy2p hS ?rest2p
       case hy2p=>intro w0 hSw;(try dsimp only at hSw);go_simp;try with_reducible rfl
       simp only [Act.put,sA,sB,sC];refine ltk (i:=3) (some 26) rfl rfl (v:= ?v3p) ?hy3p hS ?rest3p
       case hy3p=>intro w0 hSw;(try dsimp only at hSw);go_simp;try with_reducible rfl
       simp only [Act.put,sA,sB,sC];refine ltk (i:=4) (some 27) rfl rfl (v:= ?v4p) ?hy4p hS ?rest4p
       case hy4p=>intro w0 hSw;(try dsimp only at hSw);go_simp;try with_reducible rfl
       simp only [Act.put,sA,sB,sC];refine ltk (i:=5) (some 28) rfl rfl (v:= ?v5p) ?hy5p hS ?rest5p
       case hy5p=>intro w0 hSw;(try dsimp only at hSw);go_simp;try with_reducible rfl
       simp only [Act.put,sA,sB,sC];refine wpAnyD_one (i:=6) (by kernel_rfl) rfl (fun K hK=>?_);go_simp;go_at_call 52
       (with_reducible refine(HFt.out _).mono ?_)
       rintro e w5 ⟨rfl,hb5⟩;have HB5:=hid (below_out (below_drewH wr 1) hb5);have hS1p:w5.cell? ⟨g,o+i*2,none⟩=some (.string Sx):=cell_keep hb5 hS0a;clear hb5;refine hK _ _ ⟨fun _=>hS1p,?_⟩;clear hK K;try simp only [Act.put,sA,sB,sC]
       refine ltk (i:=7) (some 30) rfl rfl (v:= ?v7p) ?hy7p hS1p ?rest7p
       case hy7p=>intro w0 hSw;(try dsimp only at hSw);go_simp;try with_reducible rfl
       simp only [Act.put,sA,sB,sC];refine late_skip (i:=8) (some 31) rfl rfl (by kernel_rfl) (by kernel_rfl) (by kernel_rfl) (by kernel_rfl) (by kernel_rfl) (fun _ _ _ h=>h) (by rfl) hS1p ?_;simp only [Act.put,sA,sB,sC];refine late_skip (i:=9) (some 32) rfl rfl (by kernel_rfl) (by kernel_rfl) (by kernel_rfl) (by kernel_rfl) (by kernel_rfl) (fun _ _ _ h=>h) (by rfl) hS1p ?_;simp only [Act.put,sA,sB,sC];refine late_skip (i:=10) (some 33) rfl rfl (by kernel_rfl) (by kernel_rfl) (by kernel_rfl) (by kernel_rfl) (by kernel_rfl) (fun _ _ _ h=>h) (by rfl) hS1p ?_;simp only [Act.put,sA,sB,sC];refine late_skip (i:=11) (some 34) rfl rfl (by kernel_rfl) (by kernel_rfl) (by kernel_rfl) (by kernel_rfl) (by kernel_rfl) (fun _ _ _ h=>h) (by rfl) hS1p ?_;simp only [Act.put,sA,sB,sC];refine late_skip (i:=12) (some 35) rfl rfl (by kernel_rfl) (by kernel_rfl) (by kernel_rfl) (by kernel_rfl) (by kernel_rfl) (fun _ _ _ h=>h) (by rfl) hS1p ?_;simp only [Act.put,sA,sB,sC];refine late_skip (i:=13) (some 36) rfl rfl (by kernel_rfl) (by kernel_rfl) (by kernel_rfl) (by kernel_rfl) (by kernel_rfl) (fun _ _ _ h=>h) (by rfl) hS1p ?_;simp only [Act.put,sA,sB,sC];refine late_skip (i:=14) (some 37) rfl rfl (by kernel_rfl) (by kernel_rfl) (by kernel_rfl) (by kernel_rfl) (by kernel_rfl) (fun _ _ _ h=>h) (by rfl) hS1p ?_;simp only [Act.put,sA,sB,sC];refine late_skip (i:=15) (some 38) rfl rfl (by kernel_rfl) (by kernel_rfl) (by kernel_rfl) (by kernel_rfl) (by kernel_rfl) (fun _ _ _ h=>h) (by rfl) hS1p ?_;simp only [Act.put,sA,sB,sC];refine late_skip (i:=16) (some 39) rfl rfl (by kernel_rfl) (by kernel_rfl) (by kernel_rfl) (by kernel_rfl) (by kernel_rfl) (fun _ _ _ h=>h) (by rfl) hS1p ?_;simp only [Act.put,sA,sB,sC];refine late_skip (i:=17) (some 40) rfl rfl (by kernel_rfl) (by kernel_rfl) (by kernel_rfl) (by kernel_rfl) (by kernel_rfl) (fun _ _ _ h=>h) (by rfl) hS1p ?_;simp only [Act.put,sA,sB,sC];refine late_skip (i:=18) (some 41) rfl rfl (by kernel_rfl) (by kernel_rfl) (by kernel_rfl) (by kernel_rfl) (by kernel_rfl) (fun _ _ _ h=>h) (by rfl) hS1p ?_;simp only [Act.put,sA,sB,sC];refine late_skip (i:=19) (some 42) rfl rfl (by kernel_rfl) (by kernel_rfl) (by kernel_rfl) (by kernel_rfl) (by kernel_rfl) (fun _ _ _ h=>h) (by rfl) hS1p ?_;simp only [Act.put,sA,sB,sC];refine late_skip (i:=20) (some 43) rfl rfl (by kernel_rfl) (by kernel_rfl) (by kernel_rfl) (by kernel_rfl) (by kernel_rfl) (fun _ _ _ h=>h) (by rfl) hS1p ?_;simp only [Act.put,sA,sB,sC];refine late_skip (i:=21) (some 44) rfl rfl (by kernel_rfl) (by kernel_rfl) (by kernel_rfl) (by kernel_rfl) (by kernel_rfl) (fun _ _ _ h=>h) (by rfl) hS1p ?_;simp only [Act.put,sA,sB,sC];refine late_skip (i:=22) (some 45) rfl rfl (by kernel_rfl) (by kernel_rfl) (by kernel_rfl) (by kernel_rfl) (by kernel_rfl) (fun _ _ _ h=>h) (by rfl) hS1p ?_;simp only [Act.put,sA,sB,sC];refine ltk (i:=23) (some 46) rfl rfl (v:= ?v23p) ?hy23p hS1p ?rest23p
       case hy23p=>intro w0 hSw;(try dsimp only at hSw);go_simp;try with_reducible rfl
       simp only [Act.put,sA,sB,sC];refine late_done (by kernel_rfl) ?_ _;refine NoPanic.normal ?_;go_wp2;go_roundg (n-(i+1)+1)
       case measure=>omega
       case rel=>exact⟨i+1,none,by omega,rfl,by push_cast;go_num,rfl,HE2.out,below_out HBr.out HB5.out⟩
      |some b=>
       rw [show bestV (some b)= .int .i64 (b:Int) from rfl];clear hx hxm hSx hf q1x;go_wp2;refine wp_region_noPanic ?_;refine any_begin 24 (by kernel_rfl) (by kernel_rfl) ?_;refine late_begin (fun U=>U.cell? ⟨g,o+i*2,none⟩=some (.string Sx)) (fun _=>false) hS0a (fun hS=>?_);refine ltk (i:=0) (some 23) rfl rfl (v:= ?v0q) ?hy0q hS ?rest0q
       case hy0q=>intro w0 hSw;(try dsimp only at hSw);go_simp;try with_reducible rfl
       simp only [Act.put,sA,sB,sC];refine ltk (i:=1) (some 24) rfl rfl (v:= ?v1q) ?hy1q hS ?rest1q
       case hy1q=>intro w0 hSw;(try dsimp only at hSw);go_simp;try with_reducible rfl
       simp only [Act.put,sA,sB,sC];refine ltk (i:=2) (some 25) rfl rfl (v:= ?v2q) ?hy2q hS ?rest2q
       case hy2q=>intro w0 hSw;(try dsimp only at hSw);go_simp;try with_reducible rfl
       simp only [Act.put,sA,sB,sC];refine ltk (i:=3) (some 26) rfl rfl (v:= ?v3q) ?hy3q hS ?rest3q
       case hy3q=>intro w0 hSw;(try dsimp only at hSw);go_simp;try with_reducible rfl
       simp only [Act.put,sA,sB,sC];refine ltk (i:=4) (some 27) rfl rfl (v:= ?v4q) ?hy4q hS ?rest4q
       case hy4q=>intro w0 hSw;(try dsimp only at hSw);go_simp;try with_reducible rfl
       simp only [Act.put,sA,sB,sC];refine ltk (i:=5) (some 28) rfl rfl (v:= ?v5q) ?hy5q hS ?rest5q
       case hy5q=>intro w0 hSw;(try dsimp only at hSw);go_simp;try with_reducible rfl
       simp only [Act.put,sA,sB,sC];refine wpAnyD_one (i:=6) (by kernel_rfl) rfl (fun K hK=>?_);go_simp;go_at_call 52
       (with_reducible refine(HFt.out _).mono ?_)
       rintro e w5 ⟨rfl,hb5⟩;have HB5:=hid (below_out (below_drewH wr 1) hb5);have hS1q:w5.cell? ⟨g,o+i*2,none⟩=some (.string Sx):=cell_keep hb5 hS0a;clear hb5;refine hK _ _ ⟨fun _=>hS1q,?_⟩;clear hK K;try simp only [Act.put,sA,sB,sC]
       refine ltk (i:=7) (some 30) rfl rfl (v:= ?v7q) ?hy7q hS1q ?rest7q
       case hy7q=>intro w0 hSw;(try dsimp only at hSw);go_simp;try with_reducible rfl
       simp only [Act.put,sA,sB,sC];refine late_skip (i:=8) (some 31) rfl rfl (by kernel_rfl) (by kernel_rfl) (by kernel_rfl) (by kernel_rfl) (by kernel_rfl) (fun _ _ _ h=>h) (by rfl) hS1q ?_;simp only [Act.put,sA,sB,sC];refine late_skip (i:=9) (some 32) rfl rfl (by kernel_rfl) (by kernel_rfl) (by kernel_rfl) (by kernel_rfl) (by kernel_rfl) (fun _ _ _ h=>h) (by rfl) hS1q ?_;simp only [Act.put,sA,sB,sC];refine late_skip (i:=10) (some 33) rfl rfl (by kernel_rfl) (by kernel_rfl) (by kernel_rfl) (by kernel_rfl) (by kernel_rfl) (fun _ _ _ h=>h) (by rfl) hS1q ?_;simp only [Act.put,sA,sB,sC];refine late_skip (i:=11) (some 34) rfl rfl (by kernel_rfl) (by kernel_rfl) (by kernel_rfl) (by kernel_rfl) (by kernel_rfl) (fun _ _ _ h=>h) (by rfl) hS1q ?_;simp only [Act.put,sA,sB,sC];refine late_skip (i:=12) (some 35) rfl rfl (by kernel_rfl) (by kernel_rfl) (by kernel_rfl) (by kernel_rfl) (by kernel_rfl) (fun _ _ _ h=>h) (by rfl) hS1q ?_;simp only [Act.put,sA,sB,sC];refine late_skip (i:=13) (some 36) rfl rfl (by kernel_rfl) (by kernel_rfl) (by kernel_rfl) (by kernel_rfl) (by kernel_rfl) (fun _ _ _ h=>h) (by rfl) hS1q ?_;simp only [Act.put,sA,sB,sC];refine late_skip (i:=14) (some 37) rfl rfl (by kernel_rfl) (by kernel_rfl) (by kernel_rfl) (by kernel_rfl) (by kernel_rfl) (fun _ _ _ h=>h) (by rfl) hS1q ?_;simp only [Act.put,sA,sB,sC];refine late_skip (i:=15) (some 38) rfl rfl (by kernel_rfl) (by kernel_rfl) (by kernel_rfl) (by kernel_rfl) (by kernel_rfl) (fun _ _ _ h=>h) (by rfl) hS1q ?_;simp only [Act.put,sA,sB,sC];refine late_skip (i:=16) (some 39) rfl rfl (by kernel_rfl) (by kernel_rfl) (by kernel_rfl) (by kernel_rfl) (by kernel_rfl) (fun _ _ _ h=>h) (by rfl) hS1q ?_;simp only [Act.put,sA,sB,sC];refine late_skip (i:=17) (some 40) rfl rfl (by kernel_rfl) (by kernel_rfl) (by kernel_rfl) (by kernel_rfl) (by kernel_rfl) (fun _ _ _ h=>h) (by rfl) hS1q ?_;simp only [Act.put,sA,sB,sC];refine late_skip (i:=18) (some 41) rfl rfl (by kernel_rfl) (by kernel_rfl) (by kernel_rfl) (by kernel_rfl) (by kernel_rfl) (fun _ _ _ h=>h) (by rfl) hS1q ?_;simp only [Act.put,sA,sB,sC];refine late_skip (i:=19) (some 42) rfl rfl (by kernel_rfl) (by kernel_rfl) (by kernel_rfl) (by kernel_rfl) (by kernel_rfl) (fun _ _ _ h=>h) (by rfl) hS1q ?_;simp only [Act.put,sA,sB,sC];refine late_skip (i:=20) (some 43) rfl rfl (by kernel_rfl) (by kernel_rfl) (by kernel_rfl) (by kernel_rfl) (by kernel_rfl) (fun _ _ _ h=>h) (by rfl) hS1q ?_;simp only [Act.put,sA,sB,sC];refine late_skip (i:=21) (some 44) rfl rfl (by kernel_rfl) (by kernel_rfl) (by kernel_rfl) (by kernel_rfl) (by kernel_rfl) (fun _ _ _ h=>h) (by rfl) hS1q ?_;simp only [Act.put,sA,sB,sC];refine late_skip (i:=22) (some 45) rfl rfl (by kernel_rfl) (by kernel_rfl) (by kernel_rfl) (by kernel_rfl) (by kernel_rfl) (fun _ _ _ h=>h) (by rfl) hS1q ?_;simp only [Act.put,sA,sB,sC];refine ltk (i:=23) (some 46) rfl rfl (v:= ?v23q) ?hy23q hS1q ?rest23q
       case hy23q=>intro w0 hSw;(try dsimp only at hSw);go_simp;try with_reducible rfl
       simp only [Act.put,sA,sB,sC];refine late_done (by kernel_rfl) ?_ _;refine NoPanic.normal ?_;go_wp2;go_roundg (n-(i+1)+1)
       case measure=>omega
       case rel=>exact⟨i+1,some b,by omega,rfl,by push_cast;go_num,rfl,HE2.out,below_out HBr.out HB5.out⟩
     |true=>
      rw [hf] at HFt;cases ob with
      |none=>
       have HE2:=hid (best_first HE.out hx hf);rw [show bestV none= .int .i64 (-1) from rfl];clear hx hxm hSx hf q1x;go_wp2;refine wp_region_noPanic ?_;refine any_begin 24 (by kernel_rfl) (by kernel_rfl) ?_;refine late_begin (fun U=>U.cell? ⟨g,o+i*2,none⟩=some (.string Sx)) (fun _=>false) hS0a (fun hS=>?_);refine ltk (i:=0) (some 23) rfl rfl (v:= ?v0r) ?hy0r hS ?rest0r
       case hy0r=>intro w0 hSw;(try dsimp only at hSw);go_simp;try with_reducible rfl
       simp only [Act.put,sA,sB,sC];refine ltk (i:=1) (some 24) rfl rfl (v:= ?v1r) ?hy1r hS ?rest1r
       case hy1r=>intro w0 hSw;(try dsimp only at hSw);go_simp;try with_reducible rfl
       simp only [Act.put,sA,sB,sC];refine ltk (i:=2) (some 25) rfl rfl (v:= ?v2r) ?hy2r hS ?rest2r
       case hy2r=>intro w0 hSw;(try dsimp only at hSw);go_simp;try with_reducible rfl
       simp only [Act.put,sA,sB,sC];refine ltk (i:=3) (some 26) rfl rfl (v:= ?v3r) ?hy3r hS ?rest3r
       case hy3r=>intro w0 hSw;(try dsimp only at hSw);go_simp;try with_reducible rfl
       simp only [Act.put,sA,sB,sC];refine ltk (i:=4) (some 27) rfl rfl (v:= ?v4r) ?hy4r hS ?rest4r
       case hy4r=>intro w0 hSw;(try dsimp only at hSw);go_simp;try with_reducible rfl
       simp only [Act.put,sA,sB,sC];refine ltk (i:=5) (some 28) rfl rfl (v:= ?v5r) ?hy5r hS ?rest5r
       case hy5r=>intro w0 hSw;(try dsimp only at hSw);go_simp;try with_reducible rfl
       simp only [Act.put,sA,sB,sC];refine wpAnyD_one (i:=6) (by kernel_rfl) rfl (fun K hK=>?_);go_simp;go_at_call 52
       (with_reducible refine(HFt.out _).mono ?_)
       rintro e w5 ⟨rfl,hb5⟩;have HB5:=hid (below_out (below_drewH wr 1) hb5);have hS1r:w5.cell? ⟨g,o+i*2,none⟩=some (.string Sx):=cell_keep hb5 hS0a;clear hb5;refine hK _ _ ⟨fun _=>hS1r,?_⟩;clear hK K;try simp only [Act.put,sA,sB,sC]
       refine ltk (i:=7) (some 30) rfl rfl (v:= ?v7r) ?hy7r hS1r ?rest7r
       case hy7r=>intro w0 hSw;(try dsimp only at hSw);go_simp;try with_reducible rfl
       simp only [Act.put,sA,sB,sC];refine ltk (i:=8) (some 31) rfl rfl (v:= ?v8r) ?hy8r hS1r ?rest8r
       case hy8r=>intro w0 hSw;(try dsimp only at hSw);go_simp;try with_reducible rfl
       simp only [Act.put,sA,sB,sC];refine ltk (i:=9) (some 32) rfl rfl (v:= ?v9r) ?hy9r hS1r ?rest9r
       case hy9r=>intro w0 hSw;(try dsimp only at hSw);go_simp;try with_reducible rfl
       simp only [Act.put,sA,sB,sC];refine ltk (i:=10) (some 33) rfl rfl (v:= ?v10r) ?hy10r hS1r ?rest10r
       case hy10r=>intro w0 hSw;(try dsimp only at hSw);go_simp;try with_reducible rfl
       simp only [Act.put,sA,sB,sC];refine late_skip (i:=11) (some 34) rfl rfl (by kernel_rfl) (by kernel_rfl) (by kernel_rfl) (by kernel_rfl) (by kernel_rfl) (fun _ _ _ h=>h) (by rfl) hS1r ?_;simp only [Act.put,sA,sB,sC];refine late_skip (i:=12) (some 35) rfl rfl (by kernel_rfl) (by kernel_rfl) (by kernel_rfl) (by kernel_rfl) (by kernel_rfl) (fun _ _ _ h=>h) (by rfl) hS1r ?_;simp only [Act.put,sA,sB,sC];refine late_skip (i:=13) (some 36) rfl rfl (by kernel_rfl) (by kernel_rfl) (by kernel_rfl) (by kernel_rfl) (by kernel_rfl) (fun _ _ _ h=>h) (by rfl) hS1r ?_;simp only [Act.put,sA,sB,sC];refine late_skip (i:=14) (some 37) rfl rfl (by kernel_rfl) (by kernel_rfl) (by kernel_rfl) (by kernel_rfl) (by kernel_rfl) (fun _ _ _ h=>h) (by rfl) hS1r ?_;simp only [Act.put,sA,sB,sC];refine late_skip (i:=15) (some 38) rfl rfl (by kernel_rfl) (by kernel_rfl) (by kernel_rfl) (by kernel_rfl) (by kernel_rfl) (fun _ _ _ h=>h) (by rfl) hS1r ?_;simp only [Act.put,sA,sB,sC];refine late_skip (i:=16) (some 39) rfl rfl (by kernel_rfl) (by kernel_rfl) (by kernel_rfl) (by kernel_rfl) (by kernel_rfl) (fun _ _ _ h=>h) (by rfl) hS1r ?_;simp only [Act.put,sA,sB,sC];refine late_skip (i:=17) (some 40) rfl rfl (by kernel_rfl) (by kernel_rfl) (by kernel_rfl) (by kernel_rfl) (by kernel_rfl) (fun _ _ _ h=>h) (by rfl) hS1r ?_;simp only [Act.put,sA,sB,sC];refine late_skip (i:=18) (some 41) rfl rfl (by kernel_rfl) (by kernel_rfl) (by kernel_rfl) (by kernel_rfl) (by kernel_rfl) (fun _ _ _ h=>h) (by rfl) hS1r ?_;simp only [Act.put,sA,sB,sC];refine late_skip (i:=19) (some 42) rfl rfl (by kernel_rfl) (by kernel_rfl) (by kernel_rfl) (by kernel_rfl) (by kernel_rfl) (fun _ _ _ h=>h) (by rfl) hS1r ?_;simp only [Act.put,sA,sB,sC];refine late_skip (i:=20) (some 43) rfl rfl (by kernel_rfl) (by kernel_rfl) (by kernel_rfl) (by kernel_rfl) (by kernel_rfl) (fun _ _ _ h=>h) (by rfl) hS1r ?_;simp only [Act.put,sA,sB,sC];refine late_skip (i:=21) (some 44) rfl rfl (by kernel_rfl) (by kernel_rfl) (by kernel_rfl) (by kernel_rfl) (by kernel_rfl) (fun _ _ _ h=>h) (by rfl) hS1r ?_;simp only [Act.put,sA,sB,sC];refine ltk (i:=22) (some 45) rfl rfl (v:= ?v22r) ?hy22r hS1r ?rest22r
       case hy22r=>intro w0 hSw;(try dsimp only at hSw);go_simp;try with_reducible rfl
       simp only [Act.put,sA,sB,sC];refine ltk (i:=23) (some 46) rfl rfl (v:= ?v23r) ?hy23r hS1r ?rest23r
       case hy23r=>intro w0 hSw;(try dsimp only at hSw);go_simp;try with_reducible rfl
       simp only [Act.put,sA,sB,sC];refine late_done (by kernel_rfl) ?_ _;refine NoPanic.normal ?_;go_wp2;go_roundg (n-(i+1)+1)
       case measure=>omega
       case rel=>exact⟨i+1,some i,by omega,rfl,by push_cast;go_num,rfl,HE2.out,below_out HBr.out HB5.out⟩
      |some b=>
       obtain⟨hbi,p,hpb,_⟩:=HE.out;have hpm:=List.mem_of_getElem? hpb;obtain⟨g2,o2,e2,q1p,_⟩:=(HR.out.next (below_out HBw.out (below_drewH wr 1))) b p hpb;injection e2 with e2
       injection e2 with e3 e4 _
       subst e3;subst e4;have HAh:=hid (HAi.out x p hxm hpm hf (best_fits HE.out hpb));obtain⟨Sp,hSp⟩:∃ S,str p.1=S:=⟨_,rfl⟩;rw [hSp] at q1p HAh;rw [hSx] at HAh;have hS0c:TwoP wr.drew g o i b Sx Sp:=⟨q1x,q1p⟩;have hbn:b<n:=by omega
       have hnb:¬(b:Int)<0:=by omega
       have hdb:decide ((b:Int)<0)=false:=decide_eq_false hnb;have hnb9:(0:Int)≤(b:Int):=by omega
       rw [show bestV (some b)= .int .i64 (b:Int) from rfl];cases ha:aheadP (patL x.1) (patL p.1) with
       |true=>
        rw [ha] at HAh;have HE2:=hid (best_more HE.out hpb hx hf ha);clear hx hxm hSx hf q1x q1p hS0a hpb hpm hSp ha;go_wp2;refine wp_region_noPanic ?_;refine any_begin 24 (by kernel_rfl) (by kernel_rfl) ?_;refine late_begin (fun U=>TwoP U g o i b Sx Sp) (fun _=>false) hS0c (fun hS=>?_);refine ltk (i:=0) (some 23) rfl rfl (v:= ?v0s) ?hy0s hS ?rest0s
        case hy0s=>intro w0 hSw;obtain⟨a0,a1⟩:=hSw;go_simp;try with_reducible rfl
        simp only [Act.put,sA,sB,sC];refine ltk (i:=1) (some 24) rfl rfl (v:= ?v1s) ?hy1s hS ?rest1s
        case hy1s=>intro w0 hSw;obtain⟨a0,a1⟩:=hSw;go_simp;try with_reducible rfl
        simp only [Act.put,sA,sB,sC];refine ltk (i:=2) (some 25) rfl rfl (v:= ?v2s) ?hy2s hS ?rest2s
        case hy2s=>intro w0 hSw;obtain⟨a0,a1⟩:=hSw;go_simp;try with_reducible rfl
        simp only [Act.put,sA,sB,sC];refine ltk (i:=3) (some 26) rfl rfl (v:= ?v3s) ?hy3s hS ?rest3s
        case hy3s=>intro w0 hSw;obtain⟨a0,a1⟩:=hSw;go_simp;try with_reducible rfl
        simp only [Act.put,sA,sB,sC];refine ltk (i:=4) (some 27) rfl rfl (v:= ?v4s) ?hy4s hS ?rest4s
        case hy4s=>intro w0 hSw;obtain⟨a0,a1⟩:=hSw;go_simp;try with_reducible rfl
        simp only [Act.put,sA,sB,sC];refine ltk (i:=5) (some 28) rfl rfl (v:= ?v5s) ?hy5s hS ?rest5s
        case hy5s=>intro w0 hSw;obtain⟨a0,a1⟩:=hSw;go_simp;try with_reducible rfl
        simp only [Act.put,sA,sB,sC];refine wpAnyD_one (i:=6) (by kernel_rfl) rfl (fun K hK=>?_);go_simp;go_at_call 52
        (with_reducible refine(HFt.out _).mono ?_)
        rintro e w5 ⟨rfl,hb5⟩;have HB5:=hid (below_out (below_drewH wr 1) hb5);have hS1s:TwoP w5 g o i b Sx Sp:=⟨cell_keep hb5 hS0c.a0,cell_keep hb5 hS0c.a1⟩;clear hb5;refine hK _ _ ⟨fun _=>hS1s,?_⟩;clear hK K;try simp only [Act.put,sA,sB,sC]
        refine ltk (i:=7) (some 30) rfl rfl (v:= ?v7s) ?hy7s hS1s ?rest7s
        case hy7s=>intro w0 hSw;obtain⟨a0,a1⟩:=hSw;go_simp;try with_reducible rfl
        simp only [Act.put,sA,sB,sC];refine ltk (i:=8) (some 31) rfl rfl (v:= ?v8s) ?hy8s hS1s ?rest8s
        case hy8s=>intro w0 hSw;obtain⟨a0,a1⟩:=hSw;go_simp;try with_reducible rfl
        simp only [Act.put,sA,sB,sC];refine late_take (i:=9) (some 32) rfl rfl (by kernel_rfl) (by kernel_rfl) (by kernel_rfl) (by kernel_rfl) (by kernel_rfl) (fun _ _ _ h=>h) (by rfl) (v:=.bool false) ?hy9s hS1s ?rest9s
        case hy9s=>intro w0 hSw;obtain⟨a0,a1⟩:=hSw;go_simp;(try rw [hdb]);(try exact hnb9);try with_reducible rfl
        simp only [Act.put,sA,sB,sC];refine ltk (i:=10) (some 33) rfl rfl (v:= ?v10s) ?hy10s hS1s ?rest10s
        case hy10s=>intro w0 hSw;obtain⟨a0,a1⟩:=hSw;go_simp;try with_reducible rfl
        simp only [Act.put,sA,sB,sC];refine ltk (i:=11) (some 34) rfl rfl (v:= ?v11s) ?hy11s hS1s ?rest11s
        case hy11s=>intro w0 hSw;obtain⟨a0,a1⟩:=hSw;go_simp;try with_reducible rfl
        simp only [Act.put,sA,sB,sC];refine ltk (i:=12) (some 35) rfl rfl (v:= ?v12s) ?hy12s hS1s ?rest12s
        case hy12s=>intro w0 hSw;obtain⟨a0,a1⟩:=hSw;go_simp;try with_reducible rfl
        simp only [Act.put,sA,sB,sC];refine ltk (i:=13) (some 36) rfl rfl (v:= ?v13s) ?hy13s hS1s ?rest13s
        case hy13s=>intro w0 hSw;obtain⟨a0,a1⟩:=hSw;go_simp;try with_reducible rfl
        simp only [Act.put,sA,sB,sC];refine ltk (i:=14) (some 37) rfl rfl (v:= ?v14s) ?hy14s hS1s ?rest14s
        case hy14s=>intro w0 hSw;obtain⟨a0,a1⟩:=hSw;go_simp;try with_reducible rfl
        simp only [Act.put,sA,sB,sC];refine ltk (i:=15) (some 38) rfl rfl (v:= ?v15s) ?hy15s hS1s ?rest15s
        case hy15s=>intro w0 hSw;obtain⟨a0,a1⟩:=hSw;go_simp;try with_reducible rfl
        simp only [Act.put,sA,sB,sC];refine ltk (i:=16) (some 39) rfl rfl (v:= ?v16s) ?hy16s hS1s ?rest16s
        case hy16s=>intro w0 hSw;obtain⟨a0,a1⟩:=hSw;go_simp;try with_reducible rfl
        simp only [Act.put,sA,sB,sC];refine ltk (i:=17) (some 40) rfl rfl (v:= ?v17s) ?hy17s hS1s ?rest17s
        case hy17s=>intro w0 hSw;obtain⟨a0,a1⟩:=hSw;go_simp;try with_reducible rfl
        simp only [Act.put,sA,sB,sC];refine ltk (i:=18) (some 41) rfl rfl (v:= ?v18s) ?hy18s hS1s ?rest18s
        case hy18s=>intro w0 hSw;obtain⟨a0,a1⟩:=hSw;go_simp;try with_reducible rfl
        simp only [Act.put,sA,sB,sC];refine ltk (i:=19) (some 42) rfl rfl (v:= ?v19s) ?hy19s hS1s ?rest19s
        case hy19s=>intro w0 hSw;obtain⟨a0,a1⟩:=hSw;go_simp;try with_reducible rfl
        simp only [Act.put,sA,sB,sC];refine ltk (i:=20) (some 43) rfl rfl (v:= ?v20s) ?hy20s hS1s ?rest20s
        case hy20s=>intro w0 hSw;obtain⟨a0,a1⟩:=hSw;go_simp;try with_reducible rfl
        simp only [Act.put,sA,sB,sC];refine wpAnyD_one (i:=21) (by kernel_rfl) rfl (fun K hK=>?_);rw [if_pos (by rfl)];go_simp;go_at_call 55
        (with_reducible refine(HAh.out _).mono ?_)
        rintro e w6 ⟨rfl,hb6⟩;have HB6:=hid (below_out HB5.out hb6);have hS2s:TwoP w6 g o i b Sx Sp:=⟨cell_keep hb6 hS1s.a0,cell_keep hb6 hS1s.a1⟩;clear hb6;refine hK _ _ ⟨fun _=>hS2s,?_⟩;clear hK K;try simp only [Act.put,sA,sB,sC]
        refine ltk (i:=22) (some 45) rfl rfl (v:= ?v22s) ?hy22s hS2s ?rest22s
        case hy22s=>intro w0 hSw;obtain⟨a0,a1⟩:=hSw;go_simp;try with_reducible rfl
        simp only [Act.put,sA,sB,sC];refine ltk (i:=23) (some 46) rfl rfl (v:= ?v23s) ?hy23s hS2s ?rest23s
        case hy23s=>intro w0 hSw;obtain⟨a0,a1⟩:=hSw;go_simp;try with_reducible rfl
        simp only [Act.put,sA,sB,sC];refine late_done (by kernel_rfl) ?_ _;refine NoPanic.normal ?_;go_wp2;go_roundg (n-(i+1)+1)
        case measure=>omega
        case rel=>exact⟨i+1,some i,by omega,rfl,by push_cast;go_num,rfl,HE2.out,below_out HBr.out HB6.out⟩
       |false=>
        rw [ha] at HAh;have HE2:=hid (best_less HE.out hpb hx ha);clear hx hxm hSx hf q1x q1p hS0a hpb hpm hSp ha;go_wp2;refine wp_region_noPanic ?_;refine any_begin 24 (by kernel_rfl) (by kernel_rfl) ?_;refine late_begin (fun U=>TwoP U g o i b Sx Sp) (fun _=>false) hS0c (fun hS=>?_);refine ltk (i:=0) (some 23) rfl rfl (v:= ?v0t) ?hy0t hS ?rest0t
        case hy0t=>intro w0 hSw;obtain⟨a0,a1⟩:=hSw;go_simp;try with_reducible rfl
        simp only [Act.put,sA,sB,sC];refine ltk (i:=1) (some 24) rfl rfl (v:= ?v1t) ?hy1t hS ?rest1t
        case hy1t=>intro w0 hSw;obtain⟨a0,a1⟩:=hSw;go_simp;try with_reducible rfl
        simp only [Act.put,sA,sB,sC];refine ltk (i:=2) (some 25) rfl rfl (v:= ?v2t) ?hy2t hS ?rest2t
        case hy2t=>intro w0 hSw;obtain⟨a0,a1⟩:=hSw;go_simp;try with_reducible rfl
        simp only [Act.put,sA,sB,sC];refine ltk (i:=3) (some 26) rfl rfl (v:= ?v3t) ?hy3t hS ?rest3t
        case hy3t=>intro w0 hSw;obtain⟨a0,a1⟩:=hSw;go_simp;try with_reducible rfl
        simp only [Act.put,sA,sB,sC];refine ltk (i:=4) (some 27) rfl rfl (v:= ?v4t) ?hy4t hS ?rest4t
        case hy4t=>intro w0 hSw;obtain⟨a0,a1⟩:=hSw;go_simp;try with_reducible rfl
        simp only [Act.put,sA,sB,sC];refine ltk (i:=5) (some 28) rfl rfl (v:= ?v5t) ?hy5t hS ?rest5t
        case hy5t=>intro w0 hSw;obtain⟨a0,a1⟩:=hSw;go_simp;try with_reducible rfl
        simp only [Act.put,sA,sB,sC];refine wpAnyD_one (i:=6) (by kernel_rfl) rfl (fun K hK=>?_);go_simp;go_at_call 52
        (with_reducible refine(HFt.out _).mono ?_)
        rintro e w5 ⟨rfl,hb5⟩;have HB5:=hid (below_out (below_drewH wr 1) hb5);have hS1t:TwoP w5 g o i b Sx Sp:=⟨cell_keep hb5 hS0c.a0,cell_keep hb5 hS0c.a1⟩;clear hb5;refine hK _ _ ⟨fun _=>hS1t,?_⟩;clear hK K;try simp only [Act.put,sA,sB,sC]
        refine ltk (i:=7) (some 30) rfl rfl (v:= ?v7t) ?hy7t hS1t ?rest7t
        case hy7t=>intro w0 hSw;obtain⟨a0,a1⟩:=hSw;go_simp;try with_reducible rfl
        simp only [Act.put,sA,sB,sC];refine ltk (i:=8) (some 31) rfl rfl (v:= ?v8t) ?hy8t hS1t ?rest8t
        case hy8t=>intro w0 hSw;obtain⟨a0,a1⟩:=hSw;go_simp;try with_reducible rfl
        simp only [Act.put,sA,sB,sC];refine late_take (i:=9) (some 32) rfl rfl (by kernel_rfl) (by kernel_rfl) (by kernel_rfl) (by kernel_rfl) (by kernel_rfl) (fun _ _ _ h=>h) (by rfl) (v:=.bool false) ?hy9t hS1t ?rest9t
        case hy9t=>intro w0 hSw;obtain⟨a0,a1⟩:=hSw;go_simp;(try rw [hdb]);(try exact hnb9);try with_reducible rfl
        simp only [Act.put,sA,sB,sC];refine ltk (i:=10) (some 33) rfl rfl (v:= ?v10t) ?hy10t hS1t ?rest10t
        case hy10t=>intro w0 hSw;obtain⟨a0,a1⟩:=hSw;go_simp;try with_reducible rfl
        simp only [Act.put,sA,sB,sC];refine ltk (i:=11) (some 34) rfl rfl (v:= ?v11t) ?hy11t hS1t ?rest11t
        case hy11t=>intro w0 hSw;obtain⟨a0,a1⟩:=hSw;go_simp;try with_reducible rfl
        simp only [Act.put,sA,sB,sC];refine ltk (i:=12) (some 35) rfl rfl (v:= ?v12t) ?hy12t hS1t ?rest12t
        case hy12t=>intro w0 hSw;obtain⟨a0,a1⟩:=hSw;go_simp;try with_reducible rfl
        simp only [Act.put,sA,sB,sC];refine ltk (i:=13) (some 36) rfl rfl (v:= ?v13t) ?hy13t hS1t ?rest13t
        case hy13t=>intro w0 hSw;obtain⟨a0,a1⟩:=hSw;go_simp;try with_reducible rfl
        simp only [Act.put,sA,sB,sC];refine ltk (i:=14) (some 37) rfl rfl (v:= ?v14t) ?hy14t hS1t ?rest14t
        case hy14t=>intro w0 hSw;obtain⟨a0,a1⟩:=hSw;go_simp;try with_reducible rfl
        simp only [Act.put,sA,sB,sC];refine ltk (i:=15) (some 38) rfl rfl (v:= ?v15t) ?hy15t hS1t ?rest15t
        case hy15t=>intro w0 hSw;obtain⟨a0,a1⟩:=hSw;go_simp;try with_reducible rfl
        simp only [Act.put,sA,sB,sC];refine ltk (i:=16) (some 39) rfl rfl (v:= ?v16t) ?hy16t hS1t ?rest16t
        case hy16t=>intro w0 hSw;obtain⟨a0,a1⟩:=hSw;go_simp;try with_reducible rfl
        simp only [Act.put,sA,sB,sC];refine ltk (i:=17) (some 40) rfl rfl (v:= ?v17t) ?hy17t hS1t ?rest17t
        case hy17t=>intro w0 hSw;obtain⟨a0,a1⟩:=hSw;go_simp;try with_reducible rfl
        simp only [Act.put,sA,sB,sC];refine ltk (i:=18) (some 41) rfl rfl (v:= ?v18t) ?hy18t hS1t ?rest18t
        case hy18t=>intro w0 hSw;obtain⟨a0,a1⟩:=hSw;go_simp;try with_reducible rfl
        simp only [Act.put,sA,sB,sC];refine ltk (i:=19) (some 42) rfl rfl (v:= ?v19t) ?hy19t hS1t ?rest19t
        case hy19t=>intro w0 hSw;obtain⟨a0,a1⟩:=hSw;go_simp;try with_reducible rfl
        simp only [Act.put,sA,sB,sC];refine ltk (i:=20) (some 43) rfl rfl (v:= ?v20t) ?hy20t hS1t ?rest20t
        case hy20t=>intro w0 hSw;obtain⟨a0,a1⟩:=hSw;go_simp;try with_reducible rfl
        simp only [Act.put,sA,sB,sC];refine wpAnyD_one (i:=21) (by kernel_rfl) rfl (fun K hK=>?_);rw [if_pos (by rfl)];go_simp;go_at_call 55
        (with_reducible refine(HAh.out _).mono ?_)
        rintro e w6 ⟨rfl,hb6⟩;have HB6:=hid (below_out HB5.out hb6);have hS2t:TwoP w6 g o i b Sx Sp:=⟨cell_keep hb6 hS1t.a0,cell_keep hb6 hS1t.a1⟩;clear hb6;refine hK _ _ ⟨fun _=>hS2t,?_⟩;clear hK K;try simp only [Act.put,sA,sB,sC]
        refine ltk (i:=22) (some 45) rfl rfl (v:= ?v22t) ?hy22t hS2t ?rest22t
        case hy22t=>intro w0 hSw;obtain⟨a0,a1⟩:=hSw;go_simp;try with_reducible rfl
        simp only [Act.put,sA,sB,sC];refine ltk (i:=23) (some 46) rfl rfl (v:= ?v23t) ?hy23t hS2t ?rest23t
        case hy23t=>intro w0 hSw;obtain⟨a0,a1⟩:=hSw;go_simp;try with_reducible rfl
        simp only [Act.put,sA,sB,sC];refine late_done (by kernel_rfl) ?_ _;refine NoPanic.normal ?_;go_wp2;go_roundg (n-(i+1)+1)
        case measure=>omega
        case rel=>exact⟨i+1,some b,by omega,rfl,by push_cast;go_num,rfl,HE2.out,below_out HBr.out HB6.out⟩
   · obtain rfl:n=i:=by omega
     have hTk:P.take n=P:=List.take_of_length_le (by rw [HN.out];exact Nat.le_refl _);cases ob with
     |none=>
      have HE2:=hid (show bestF y P=none from by have h9:bestF y (P.take n)=none:=HE.out;rw [hTk] at h9;exact h9);rw [show bestV none= .int .i64 (-1) from rfl];clear hTk;go_wp2;go_ret2;exact⟨HBw.out,.inl ⟨HE2.out,rfl⟩⟩
     |some b=>
      obtain⟨hbi,p,hpb,hbp⟩:=HE.out;rw [hTk] at hbp;have HE2:=hid hpb;have HE3:=hid hbp;have hnb:¬(b:Int)<0:=by omega
      have hnb9:(0:Int)≤(b:Int):=by omega
      rw [show bestV (some b)= .int .i64 (b:Int) from rfl];clear hTk hpb hbp;go_wp2;go_ret2;exact⟨HBw.out,.inr ⟨b,p.1,p.2,HE2.out,HE3.out,rfl⟩⟩
end Go.Proofs.YtlmlljlappjjjaaGreatDoor
