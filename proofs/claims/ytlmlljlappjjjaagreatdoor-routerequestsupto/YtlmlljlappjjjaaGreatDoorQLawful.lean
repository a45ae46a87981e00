/- The document's parts of a target. -/
import Derived.Test.YtlmlljlappjjjaaGreatDoorTRTg
namespace Go.Proofs.YtlmlljlappjjjaaGreatDoor
set_option maxRecDepth 20000
set_option maxHeartbeats 8000000
open Go.RowKit
theorem rbehind_any (f:Int) (hf:f=1∨f=2) (h s:B) (hs:s.length≤35184372088832) (w:World):Calls Tryz.prog 82 #[tgV ⟨f,h,[],[],false⟩,.string (str s)] w fun e w'=>e= .returned (.tuple #[tgV (behindB f h s).1,.int .i64 ((behindB f h s).2:Int)])∧Below w.heap.size w w':=by
 obtain⟨⟨A,Q,K⟩,hc⟩:∃ R,cutF 63 s=R:=⟨_,rfl⟩;by_cases hA:A= []
 · rcases hf with hf|hf
   · exact rbehind_none f h s hs A _ Q K hc rfl hA hf w
   · exact rbehind_root f h s hs A _ Q K hc rfl hA hf w
 · exact rbehind_some f h s hs A _ Q K hc rfl hA w
structure PW (w W:World):Prop where
 o:W.heap[w.heap.size]?=some (.cells #[.int .i64 0,.string ⟨#[]⟩,.string ⟨#[]⟩,.string ⟨#[]⟩,.bool false] 111 (0,0))
 low:Below w.heap.size w W
theorem PW.start {w W0:World} (h:W0=w.alloc (.cells #[.int .i64 0,.string ⟨#[]⟩,.string ⟨#[]⟩,.string ⟨#[]⟩,.bool false] 111 (0,0))):PW w W0:=by
 subst h;exact⟨heap_alloc_new _ _,below_new _ _⟩
theorem PW.below {w W V:World} (h:PW w W) (hb:Below W.heap.size W V):PW w V:=⟨kB hb h.o,h.low.trans (hb.mono h.low.size)⟩
theorem PW.drew {w W:World} (h:PW w W):PW w W.drew:=⟨h.o,⟨h.low.os,h.low.tape,h.low.output,h.low.size,h.low.block⟩⟩
theorem PW.out {w W:World} (h:PW w W) (a0 a1 a2 a3 a4:Value):Below w.heap.size w (((((W.setCell ⟨w.heap.size,0,none⟩ a0).setCell ⟨w.heap.size,1,none⟩ a1).setCell ⟨w.heap.size,2,none⟩ a2).setCell ⟨w.heap.size,3,none⟩ a3).setCell ⟨w.heap.size,4,none⟩ a4):=by
 iterate 5 refine Below.setCell ?_ (show w.heap.size≤w.heap.size from Nat.le_refl _) _
 exact h.low
theorem tw_gen {p:UInt8→Bool}{l:B}{m:Nat} (h:∀ y∈l.take m,p y=true) (he:l.length≤m∨∃ z,l[m]?=some z∧p z=false):l.takeWhile p=l.take m∧l.dropWhile p=l.drop m:=by
  induction m generalizing l with
  |zero=>
    cases l with
    |nil=>exact⟨rfl,rfl⟩
    |cons b l=>
      rcases he with he|⟨z,he,hz⟩
      · simp at he
      · simp at he
        subst he
        rw [List.takeWhile_cons,List.dropWhile_cons,hz]
        exact⟨rfl,rfl⟩
  |succ m ih=>
    cases l with
    |nil=>exact⟨rfl,rfl⟩
    |cons b l=>
      have hb:=h b (by simp)
      rw [List.takeWhile_cons,List.dropWhile_cons,hb,List.take_succ_cons,List.drop_succ_cons]
      obtain⟨e1,e2⟩:=ih (l:=l) (fun y hy=>h y (by simp [hy])) (by
        rcases he with he|⟨z,he,hz⟩
        · left;simp at he;omega
        · right;exact⟨z,by simpa using he,hz⟩)
      simp only [if_true]
      exact⟨by rw [e1],e2⟩
theorem rparse_long (s:B) (h:65536<s.length) (hs:s.length≤35184372088832) (w:World):Calls Tryz.prog 46 #[.string (str s)] w fun e w'=>e= .returned (.tuple #[tgV (parseT s).1,.int .i64 ((parseT s).2:Int)])∧Below w.heap.size w w':=by
 obtain⟨W0,hW0⟩:∃ W0,W0=w.alloc (.cells #[.int .i64 0,.string ⟨#[]⟩,.string ⟨#[]⟩,.string ⟨#[]⟩,.bool false] 111 (0,0)):=⟨_,rfl⟩;have HW0:=hid hW0;have HT0:=hid (PW.start hW0);obtain⟨_,_,_,_,_,oz⟩:=five HT0.out.o;rw [hW0] at oz;have nz0:=oz 0;have nz1:=oz 1;have nz2:=oz 2;have nz3:=oz 3;have nz4:=oz 4;clear hW0 oz;have HV:=hid (show parseT s=(TG.zero,2) from by unfold parseT;rw [if_pos h]);obtain⟨n,hn⟩:∃ n:Int,(s.length:Int)=n:=⟨_,rfl⟩;have hn1:(65536:Int)<n:=by omega
 obtain⟨S,hS⟩:∃ S,str s=S:=⟨_,rfl⟩;have hSn:(S.size:Int)=n:=by rw [←hS,str_size,hn]
 rw [hS];have hdec:decide ((65536:Int)<(S.size:Int))=true:=by rw [hSn];simpa using hn1
 rw [HV.out];clear hS hn h hs hSn hn1;go_enter Tryz.func46,Tryz.ntmps46;go_wp2
 (try simp only [Exit.inBlock,Exit.then])
 refine bodyPost_ret (results_tgtmp rfl _ _ _ 111 _ (0,0) rfl (heap_alloc_new w _) rfl) rfl ?_;exact⟨rfl,below_new _ _⟩
theorem rparse_star (s:B) (h:s= [42]) (w:World):Calls Tryz.prog 46 #[.string (str s)] w fun e w'=>e= .returned (.tuple #[tgV (parseT s).1,.int .i64 ((parseT s).2:Int)])∧Below w.heap.size w w':=by
 obtain⟨W0,hW0⟩:∃ W0,W0=w.alloc (.cells #[.int .i64 0,.string ⟨#[]⟩,.string ⟨#[]⟩,.string ⟨#[]⟩,.bool false] 111 (0,0)):=⟨_,rfl⟩;have HW0:=hid hW0;have HT0:=hid (PW.start hW0);obtain⟨_,_,_,_,_,oz⟩:=five HT0.out.o;rw [hW0] at oz;have nz0:=oz 0;have nz1:=oz 1;have nz2:=oz 2;have nz3:=oz 3;have nz4:=oz 4;clear hW0 oz;subst h;have HV:=hid (show parseT [42]=(⟨3,[],[],[],false⟩,0) from by decide);rw [HV.out];go_enter Tryz.func46,Tryz.ntmps46;go_wp2
 (try simp only [Exit.inBlock,Exit.then])
 refine bodyPost_ret (results_tgtmp rfl _ _ _ 111 _ (0,0) rfl (heap_alloc_new w _) rfl) rfl ?_;exact⟨rfl,below_new _ _⟩
theorem ptg_size:(Tryz.prog.info? 105).map (·.size)=some 5:=by kernel_rfl
theorem results_ptg {fn:Func}{p u:Tmp} (h:fn.results= #[.cell p 105,.tmp u]) (tmps:Array Value) (w:World) (g:Nat) (t:TypeId) (cs:Array Value) (fr:Nat×Nat)
  (hp:tmps.getD p undef= .pointer (some ⟨g,0,none⟩)) (hg:w.heap[g]?=some (.cells cs t fr)) (hs:cs.size=5):(results fn tmps).run Tryz.prog w= .ok (.tuple #[.agg cs,tmps.getD u undef]) w:=by
 have hl:=run_loadVar_row (P:=Tryz.prog) w g t 105 cs fr _ hg Tryz.underlying105 rfl (by rw [ptg_size,hs]);rw [results_cell_tmp h,hp];simp [asAddr,Result.andThen,hl]
abbrev Z5:Obj:=.cells #[.int .i64 0,.string ⟨#[]⟩,.string ⟨#[]⟩,.string ⟨#[]⟩,.bool false] 105 (0,0)
structure QW (w W:World):Prop where
 o:W.heap[w.heap.size]?=some Z5
 low:Below w.heap.size w W
theorem QW.start (w:World):QW w (w.alloc Z5):=⟨heap_alloc_new w _,below_new w _⟩
theorem QW.below {w W V:World} (h:QW w W) (hb:Below W.heap.size W V):QW w V:=⟨kB hb h.o,below_out h.low hb⟩
theorem QW.out {w W:World} (h:QW w W) (a0 a1 a2 a3 a4:Value):Below w.heap.size w (((((W.setCell ⟨w.heap.size,0,none⟩ a0).setCell ⟨w.heap.size,1,none⟩ a1).setCell ⟨w.heap.size,2,none⟩ a2).setCell ⟨w.heap.size,3,none⟩ a3).setCell ⟨w.heap.size,4,none⟩ a4):=by
 iterate 5 refine Below.setCell ?_ (show w.heap.size≤w.heap.size from Nat.le_refl _) _
 exact h.low
theorem pclone_any (s:B) (hs:s.length≤281474976710656) (w:World):Calls Tryz.prog 58 #[.string (str s)] w fun e w'=>e= .returned (.string (str s))∧Below w.heap.size w w':=by
 have HC:=hid (show ∀ w,_ from fun w=>Tryz.stringslite_Clone (str s) w (by rw [str_size];exact hs));obtain⟨S,hS⟩:∃ S,str s=S:=⟨_,rfl⟩;rw [hS] at HC ⊢;clear hS;go_enter Tryz.func58,Tryz.ntmps58;go_wp2_with (go_at_call 98;(with_reducible refine(HC.out _).mono ?_);rintro e w1 ⟨rfl,hb⟩;have HB:=hid hb;clear hb);go_ret;exact⟨rfl,HB.out⟩
theorem porigin_any (s:B) (hs:s.length≤4294967280) (w:World) (hE:Env w):Calls Tryz.prog 77 #[.string (str s)] w fun e w'=>e= .returned (.tuple #[tgV ((originT s).getD TG.zero),.bool (originT s).isSome])∧Below w.heap.size w w':=by
 obtain⟨A,Q,K,hc⟩:∃ A Q K,cutF 63 s=(A,Q,K):=⟨_,_,_,rfl⟩;have HCt:=hid (pcut_any 63 s hs);have hl:=cutF_len 63 s;rw [hc] at HCt hl;dsimp only at HCt hl;have HPa:=hid (ppath_any A (by omega));have HQu:=hid (pquery_any Q (by omega));have HC1:=hid (pclone_any A (by omega));have HC2:=hid (pclone_any Q (by omega));have HO:=hid (show originT s=if isPath A=false∨isQuery Q=false then none else some ⟨1,[],A,Q,K⟩ from by unfold originT;rw [hc]);have HE:=hid hE;have HT0:=hid (QW.start w);have HE0:=hid (hE.below (below_new w Z5));obtain⟨S,hS⟩:∃ S,str s=S:=⟨_,rfl⟩;obtain⟨SA,hSA⟩:∃ SA,str A=SA:=⟨_,rfl⟩;obtain⟨SQ,hSQ⟩:∃ SQ,str Q=SQ:=⟨_,rfl⟩;rw [hS] at HCt ⊢;rw [hSA] at HCt HPa HC1;rw [hSQ] at HCt HQu HC2;have HSA:=hid hSA;have HSQ:=hid hSQ;clear hS hSA hSQ hl hc hE hs;cases hp:isPath A with
 |false=>
  have HV:=hid (show originT s=none from by rw [HO.out,if_pos (.inl hp)]);rw [hp] at HPa;rw [HV.out];clear hp;go_enter Tryz.func77,Tryz.ntmps77;go_wp2_with (first|(go_at_call 80;(with_reducible refine(HCt.out _ HE0.out).mono ?_);rintro e w1 ⟨rfl,hb⟩;have HT1:=hid (HT0.out.below hb);obtain⟨_,_,_,_,_,oz⟩:=five HT1.out.o;have oz0:=oz 0;have oz1:=oz 1;have oz2:=oz 2;have oz3:=oz 3;have oz4:=oz 4;clear hb oz)|(go_at_call 48;(with_reducible refine(HPa.out _).mono ?_);rintro e w2 ⟨rfl,hw2⟩;subst w2))
  (try simp only [Exit.inBlock,Exit.then])
  refine bodyPost_ret (results_ptg rfl _ _ _ 105 _ (0,0) rfl (five_put (has_five HT1.out.o) _ _ _ _ _) rfl) rfl ?_;exact⟨rfl,HT1.out.out _ _ _ _ _⟩
 |true=>
  rw [hp] at HPa;cases hq:isQuery Q with
  |false=>
   have HV:=hid (show originT s=none from by rw [HO.out,if_pos (.inr hq)]);rw [hq] at HQu;rw [HV.out];clear hp hq;go_enter Tryz.func77,Tryz.ntmps77;go_wp2_with (first|(go_at_call 80;(with_reducible refine(HCt.out _ HE0.out).mono ?_);rintro e w1 ⟨rfl,hb⟩;have HT1:=hid (HT0.out.below hb);obtain⟨_,_,_,_,_,oz⟩:=five HT1.out.o;have oz0:=oz 0;have oz1:=oz 1;have oz2:=oz 2;have oz3:=oz 3;have oz4:=oz 4;clear hb oz)|(go_at_call 48;(with_reducible refine(HPa.out _).mono ?_);rintro e w2 ⟨rfl,hw2⟩;subst w2)|(go_at_call 118;(with_reducible refine(HQu.out _).mono ?_);rintro e w2 ⟨rfl,hw2⟩;subst w2))
   (try simp only [Exit.inBlock,Exit.then])
   refine bodyPost_ret (results_ptg rfl _ _ _ 105 _ (0,0) rfl (five_put (has_five HT1.out.o) _ _ _ _ _) rfl) rfl ?_;exact⟨rfl,HT1.out.out _ _ _ _ _⟩
  |true=>
   have HV:=hid (show originT s=some ⟨1,[],A,Q,K⟩ from by rw [HO.out,if_neg (by rw [hp,hq];simp)]);rw [hq] at HQu;rw [HV.out];clear hp hq;go_enter Tryz.func77,Tryz.ntmps77;go_wp2_with (first|(go_at_call 80;(with_reducible refine(HCt.out _ HE0.out).mono ?_);rintro e w1 ⟨rfl,hb⟩;have HT1:=hid (HT0.out.below hb);clear hb)|(go_at_call 48;(with_reducible refine(HPa.out _).mono ?_);rintro e w2 ⟨rfl,hw2⟩;subst w2)|(go_at_call 118;(with_reducible refine(HQu.out _).mono ?_);rintro e w2 ⟨rfl,hw2⟩;subst w2)|(go_at_call 58;(with_reducible refine(HC1.out _).mono ?_);rintro e w3 ⟨rfl,hb⟩;have HT3:=hid (HT1.out.below hb);clear hb)|(go_at_call 58;(with_reducible refine(HC2.out _).mono ?_);rintro e w4 ⟨rfl,hb⟩;have HT4:=hid (HT3.out.below hb);obtain⟨_,_,_,_,_,oz⟩:=five HT4.out.o;have oz0:=oz 0;have oz1:=oz 1;have oz2:=oz 2;have oz3:=oz 3;have oz4:=oz 4;clear hb oz))
   (try simp only [Exit.inBlock,Exit.then])
   refine bodyPost_ret (results_ptg rfl _ _ _ 105 _ (0,0) rfl (five_put (has_five HT4.out.o) _ _ _ _ _) rfl) rfl ?_;refine⟨?_,HT4.out.out _ _ _ _ _⟩;rw [←HSA.out,←HSQ.out];rfl
theorem QW.set {w W:World} (h:QW w W) {g:Nat} (hg:w.heap.size<g) (j:Nat) (v:Value):QW w (W.setCell ⟨g,j,none⟩ v):=
 ⟨by rw [Below.heap_setCell _ _ _ _ (show w.heap.size≠g by omega)];exact h.o,h.low.setCell (show w.heap.size≤g by omega) _⟩
theorem QW.next {w W:World} (h:QW w W) (o:Obj):QW w (W.alloc o):=h.below (below_new W o)
theorem QW.lt {w W:World} (h:QW w W):w.heap.size<W.heap.size:=lt_of_heap h.o
theorem http_small:smallB httpB=httpB:=by decide
theorem pabs_any (s:B) (hs:s.length≤4294967279) (w:World) (hE:Env w):Calls Tryz.prog 78 #[.string (str s)] w fun e w'=>e= .returned (.tuple #[tgV ((absoluteT s).getD TG.zero),.bool (absoluteT s).isSome])∧Below w.heap.size w w':=by
 have HT0:=hid (QW.start w);have HE:=hid hE;obtain⟨_,_,_,_,_,nz⟩:=five (QW.start w).o;have nz0:=nz 0;have nz1:=nz 1;have nz2:=nz 2;have nz3:=nz 3;have nz4:=nz 4;clear nz hE;obtain⟨n,hn⟩:∃ n,s.length=n:=⟨_,rfl⟩;obtain⟨S,hS⟩:∃ S,str s=S:=⟨_,rfl⟩;have hSn:S.size=n:=by rw [←hS,str_size,hn]
 by_cases h7:n<7
 · have HV:=hid (show absoluteT s=none from by unfold absoluteT;rw [if_pos (.inl (by omega))]);rw [HV.out,hS];have h7i:(n:Int)<7:=by omega
   rw [hn] at hs;clear hn hS;go_enter Tryz.func78,Tryz.ntmps78;go_wp2
   (try simp only [Exit.inBlock,Exit.then])
   refine bodyPost_ret (results_ptg rfl _ _ _ 105 _ (0,0) rfl (heap_alloc_new w _) rfl) rfl ?_;exact⟨rfl,below_new _ _⟩
 · have h7i:¬(n:Int)<7:=by omega
   have hx7:S.extract 0 7=str (s.take 7):=by rw [←hS,take_ext]
   have hxd:S.extract 7 n=str (s.drop 7):=by rw [←hS,ext_drop s 7 n hn]
   have HSm:=hid (psame_any (s.take 7) httpB (by rw [List.length_take];omega) (by decide));rw [http_small,show str httpB=(⟨#[104,116,116,112,58,47,47]⟩:ByteArray) from rfl] at HSm;have hdl:(s.drop 7).length≤4294967272:=by rw [List.length_drop];omega
   obtain⟨l,hl⟩:∃ l,s.drop 7=l:=⟨_,rfl⟩;rw [hl] at hdl hxd;have HCh:=hid (cuthost_any l (by omega));have hAb:absoluteT s=if s.length<7∨smallB (s.take 7)≠httpB then none else if isHostB (l.takeWhile stopC)=false then none else (originT (rooted (l.dropWhile stopC))).map fun t=>⟨2,smallB (l.takeWhile stopC),t.path,t.query,t.has⟩:=by unfold absoluteT;rw [hl]
   have htw:=tw_le stopC l;have hdw:(l.dropWhile stopC).length≤l.length:=by rw [(tw_take stopC l).2,List.length_drop];omega
   obtain⟨Hh,hHh⟩:∃ Hh,l.takeWhile stopC=Hh:=⟨_,rfl⟩;obtain⟨Rr,hRr⟩:∃ Rr,l.dropWhile stopC=Rr:=⟨_,rfl⟩;rw [hHh] at HCh hAb htw;rw [hRr] at HCh hAb hdw;obtain⟨S7,hS7⟩:∃ S7,str (s.take 7)=S7:=⟨_,rfl⟩;obtain⟨SD,hSD⟩:∃ SD,str l=SD:=⟨_,rfl⟩;rw [hS7] at hx7 HSm;rw [hSD] at hxd HCh;rw [hS];by_cases hsm:smallB (s.take 7)=httpB
   · rw [decide_eq_true hsm] at HSm;rw [if_neg (by rintro (q|q);exact h7 (by omega);exact q hsm)] at hAb;have HIh:=hid (ishost_any Hh (by omega));cases hih:isHostB Hh with
     |false=>
      have HV:=hid (show absoluteT s=none from by rw [hAb,if_pos hih]);rw [HV.out];rw [hih] at HIh;obtain⟨SH,hSH⟩:∃ SH,str Hh=SH:=⟨_,rfl⟩;obtain⟨SR,hSR⟩:∃ SR,str Rr=SR:=⟨_,rfl⟩;rw [hSH] at HCh HIh;rw [hSR] at HCh;rw [hn] at hs;clear hn hS hS7 hSD hHh hRr hl hAb hsm hih hSH hSR hdl htw hdw;go_enter Tryz.func78,Tryz.ntmps78;go_wp2_with (first|(go_at_call 119;(with_reducible refine(HSm.out _).mono ?_);rintro e w1 ⟨rfl,q1,hw1⟩;have HT1:=hid (show QW w w1 from by rw [hw1];exact HT0.out.below (below_drew (Below.refl _ _) q1));clear hw1)|(go_at_call 120;(with_reducible refine(HCh.out _).mono ?_);rintro e w2 ⟨rfl,hb⟩;have HT2:=hid (HT1.out.below hb);clear hb;obtain⟨_,_,_,_,_,oz⟩:=five HT2.out.o;have oz0:=oz 0;have oz1:=oz 1;have oz2:=oz 2;have oz3:=oz 3;have oz4:=oz 4;clear oz)|(go_at_call 121;(with_reducible refine(HIh.out _).mono ?_);rintro e w3 ⟨rfl,hw3⟩;subst w3))
      (try simp only [Exit.inBlock,Exit.then])
      refine bodyPost_ret (results_ptg rfl _ _ _ 105 _ (0,0) rfl (five_put (has_five HT2.out.o) _ _ _ _ _) rfl) rfl ?_;exact⟨rfl,HT2.out.out _ _ _ _ _⟩
     |true=>
      rw [hih] at HIh;rw [if_neg (by rw [hih];simp)] at hAb;have hrl:(rooted Rr).length≤4294967280:=by
       unfold rooted;split
       · omega
       · rw [List.length_cons];omega
      have HPx:=hid (pprefix_any Rr);have HOr:=hid (porigin_any (rooted Rr) hrl);have HLo:=hid (plower_any Hh (by omega));have HRt:=hid (show (if decide (Rr.head? =some 47)=true then str Rr else (⟨#[47]⟩:ByteArray)++str Rr)=str (rooted Rr) from by
       unfold rooted;by_cases h:Rr.head? =some 47
       · rw [if_pos (decide_eq_true h),if_pos h]
       · rw [if_neg (by rw [decide_eq_false h];simp),if_neg h];exact str_app [47] Rr)
      obtain⟨O,hO⟩:∃ O,originT (rooted Rr)=O:=⟨_,rfl⟩;rw [hO] at HOr hAb;obtain⟨SH,hSH⟩:∃ SH,str Hh=SH:=⟨_,rfl⟩;obtain⟨SR,hSR⟩:∃ SR,str Rr=SR:=⟨_,rfl⟩;obtain⟨SO,hSO⟩:∃ SO,str (rooted Rr)=SO:=⟨_,rfl⟩;obtain⟨SL,hSL⟩:∃ SL,str (smallB Hh)=SL:=⟨_,rfl⟩;rw [hSH] at HCh HIh HLo;rw [hSR] at HCh HPx HRt;rw [hSO] at HOr HRt;rw [hSL] at HLo;rw [hn] at hs;have HAb:=hid hAb;have HSL:=hid hSL;have hbig:¬9223372036854775807<1+SR.size:=by rw [←hSR,str_size];omega
      obtain⟨pf,hpf⟩:∃ pf,decide (Rr.head? =some 47)=pf:=⟨_,rfl⟩;rw [hpf] at HPx HRt;clear hn hS hS7 hSD hHh hRr hl hsm hih hSH hSR hdl htw hdw hrl hO hSO hSL hpf hAb;have HQ1:=hid (show ∀ w1 q1,w1=(w.alloc Z5).drewN q1→QW w w1 from fun w1 q1 e=>by rw [e];exact HT0.out.below (below_drew (Below.refl _ _) q1));cases O with
      |none=>
       have HV:=hid (show absoluteT s=none from HAb.out);rw [HV.out];have HO2:=hid (show ∀ w,Env w→Calls Tryz.prog 77 #[.string SO] w fun e w'=>e= .returned (.tuple #[.agg #[.int .i64 0,.string ⟨#[]⟩,.string ⟨#[]⟩,.string ⟨#[]⟩,.bool false],.bool false])∧Below w.heap.size w w' from HOr.out);cases pf with
       |true=>
        have hR:=HRt.out;rw [if_pos rfl] at hR;subst hR;go_enter Tryz.func78,Tryz.ntmps78;go_wp2_with (first|(go_at_call 119;(with_reducible refine(HSm.out _).mono ?_);rintro e w1 ⟨rfl,q1,hw1⟩;have HT1:=hid (HQ1.out w1 q1 hw1);clear hw1)|(go_at_call 120;(with_reducible refine(HCh.out _).mono ?_);rintro e w2 ⟨rfl,hb⟩;have HT2:=hid (HT1.out.below hb);clear hb)|(go_at_call 121;(with_reducible refine(HIh.out _).mono ?_);rintro e w3 ⟨rfl,hw3⟩;subst w3)|(go_at_call 87;(with_reducible refine(HPx.out _).mono ?_);rintro e w3 ⟨rfl,hw3⟩;subst w3)|(go_at_call 77;(with_reducible refine(HO2.out _ (HE.out.below HT2.out.low)).mono ?_);rintro e w4 ⟨rfl,hb⟩;have HT4:=hid ((HT2.out.below hb).next Z5);clear hb;obtain⟨_,_,_,_,_,oz⟩:=five HT4.out.o;have oz0:=oz 0;have oz1:=oz 1;have oz2:=oz 2;have oz3:=oz 3;have oz4:=oz 4;clear oz))
        (try simp only [Exit.inBlock,Exit.then])
        refine bodyPost_ret (results_ptg rfl _ _ _ 105 _ (0,0) rfl (five_put (has_five HT4.out.o) _ _ _ _ _) rfl) rfl ?_;exact⟨rfl,HT4.out.out _ _ _ _ _⟩
       |false=>
        have hR:=HRt.out;rw [if_neg (by simp)] at hR;go_enter Tryz.func78,Tryz.ntmps78;go_wp2_with (first|(go_at_call 119;(with_reducible refine(HSm.out _).mono ?_);rintro e w1 ⟨rfl,q1,hw1⟩;have HT1:=hid (HQ1.out w1 q1 hw1);clear hw1)|(go_at_call 120;(with_reducible refine(HCh.out _).mono ?_);rintro e w2 ⟨rfl,hb⟩;have HT2:=hid (HT1.out.below hb);clear hb)|(go_at_call 121;(with_reducible refine(HIh.out _).mono ?_);rintro e w3 ⟨rfl,hw3⟩;subst w3)|(go_at_call 87;(with_reducible refine(HPx.out _).mono ?_);rintro e w3 ⟨rfl,hw3⟩;subst w3)|(go_at_call 77;(with_reducible refine(HO2.out _ (HE.out.below HT2.out.low)).mono ?_);rintro e w4 ⟨rfl,hb⟩;have HT4:=hid ((HT2.out.below hb).next Z5);clear hb;obtain⟨_,_,_,_,_,oz⟩:=five HT4.out.o;have oz0:=oz 0;have oz1:=oz 1;have oz2:=oz 2;have oz3:=oz 3;have oz4:=oz 4;clear oz))
        (try simp only [Exit.inBlock,Exit.then])
        refine bodyPost_ret (results_ptg rfl _ _ _ 105 _ (0,0) rfl (five_put (has_five HT4.out.o) _ _ _ _ _) rfl) rfl ?_;exact⟨rfl,HT4.out.out _ _ _ _ _⟩
      |some t=>
       have HV:=hid (show absoluteT s=some ⟨2,smallB Hh,t.path,t.query,t.has⟩ from HAb.out);rw [HV.out];obtain⟨tf,th,tpa,tq,ths⟩:=t;obtain⟨c1,hc1⟩:∃ c1,str th=c1:=⟨_,rfl⟩;obtain⟨c2,hc2⟩:∃ c2,str tpa=c2:=⟨_,rfl⟩;obtain⟨c3,hc3⟩:∃ c3,str tq=c3:=⟨_,rfl⟩;have HO2:=hid (show ∀ w,Env w→Calls Tryz.prog 77 #[.string SO] w fun e w'=>e= .returned (.tuple #[.agg #[.int .i64 tf,.string c1,.string c2,.string c3,.bool ths],.bool true])∧Below w.heap.size w w' from by rw [←hc1,←hc2,←hc3];exact HOr.out);have HF:=hid (show tgV ((some (⟨2,smallB Hh,tpa,tq,ths⟩:TG)).getD TG.zero)= .agg #[.int .i64 2,.string SL,.string c2,.string c3,.bool ths] from by rw [←HSL.out,←hc2,←hc3];rfl);dsimp only;rw [HF.out];clear hc1 hc2 hc3;cases pf with
       |true=>
        have hR:=HRt.out;rw [if_pos rfl] at hR;subst hR;go_enter Tryz.func78,Tryz.ntmps78;go_wp2_with (first|(go_at_call 119;(with_reducible refine(HSm.out _).mono ?_);rintro e w1 ⟨rfl,q1,hw1⟩;have HT1:=hid (HQ1.out w1 q1 hw1);clear hw1)|(go_at_call 120;(with_reducible refine(HCh.out _).mono ?_);rintro e w2 ⟨rfl,hb⟩;have HT2:=hid (HT1.out.below hb);clear hb)|(go_at_call 121;(with_reducible refine(HIh.out _).mono ?_);rintro e w3 ⟨rfl,hw3⟩;subst w3)|(go_at_call 87;(with_reducible refine(HPx.out _).mono ?_);rintro e w3 ⟨rfl,hw3⟩;subst w3)|(go_at_call 77;(with_reducible refine(HO2.out _ (HE.out.below HT2.out.low)).mono ?_);rintro e w4 ⟨rfl,hb⟩;have HT4:=hid (HT2.out.below hb);have HTn:=hid (heap_alloc_new w4 (.cells #[.int .i64 tf,.string c1,.string c2,.string c3,.bool ths] 105 (0,0)));have hgl:=HT4.out.lt;have HT5:=hid (HT4.out.next (.cells #[.int .i64 tf,.string c1,.string c2,.string c3,.bool ths] 105 (0,0)));clear hb)|(go_at_call 100;(with_reducible refine(HLo.out _).mono ?_);rintro e w6 ⟨rfl,hb⟩;have HT6:=hid (HT5.out.below hb);obtain⟨x0,x1,x2,x3,x4,xz⟩:=five (kB hb HTn.out);have xz0:=xz 0;have xz1:=xz 1;obtain⟨_,_,_,_,_,oz⟩:=five HT6.out.o;have oz0:=oz 0;have oz1:=oz 1;have oz2:=oz 2;have oz3:=oz 3;have oz4:=oz 4;have hne1:¬w4.heap.size=w.heap.size:=(by omega);have hne2:¬w.heap.size=w4.heap.size:=(by omega);clear xz oz hb))
        (try simp only [Exit.inBlock,Exit.then])
        refine bodyPost_ret (results_ptg rfl _ _ _ 105 _ (0,0) rfl (five_put (has_five ((HT6.out.set hgl 0 _).set hgl 1 _).o) _ _ _ _ _) rfl) rfl ?_;exact⟨rfl,((HT6.out.set hgl 0 _).set hgl 1 _).out _ _ _ _ _⟩
       |false=>
        have hR:=HRt.out;rw [if_neg (by simp)] at hR;go_enter Tryz.func78,Tryz.ntmps78;go_wp2_with (first|(go_at_call 119;(with_reducible refine(HSm.out _).mono ?_);rintro e w1 ⟨rfl,q1,hw1⟩;have HT1:=hid (HQ1.out w1 q1 hw1);clear hw1)|(go_at_call 120;(with_reducible refine(HCh.out _).mono ?_);rintro e w2 ⟨rfl,hb⟩;have HT2:=hid (HT1.out.below hb);clear hb)|(go_at_call 121;(with_reducible refine(HIh.out _).mono ?_);rintro e w3 ⟨rfl,hw3⟩;subst w3)|(go_at_call 87;(with_reducible refine(HPx.out _).mono ?_);rintro e w3 ⟨rfl,hw3⟩;subst w3)|(go_at_call 77;(with_reducible refine(HO2.out _ (HE.out.below HT2.out.low)).mono ?_);rintro e w4 ⟨rfl,hb⟩;have HT4:=hid (HT2.out.below hb);have HTn:=hid (heap_alloc_new w4 (.cells #[.int .i64 tf,.string c1,.string c2,.string c3,.bool ths] 105 (0,0)));have hgl:=HT4.out.lt;have HT5:=hid (HT4.out.next (.cells #[.int .i64 tf,.string c1,.string c2,.string c3,.bool ths] 105 (0,0)));clear hb)|(go_at_call 100;(with_reducible refine(HLo.out _).mono ?_);rintro e w6 ⟨rfl,hb⟩;have HT6:=hid (HT5.out.below hb);obtain⟨x0,x1,x2,x3,x4,xz⟩:=five (kB hb HTn.out);have xz0:=xz 0;have xz1:=xz 1;obtain⟨_,_,_,_,_,oz⟩:=five HT6.out.o;have oz0:=oz 0;have oz1:=oz 1;have oz2:=oz 2;have oz3:=oz 3;have oz4:=oz 4;have hne1:¬w4.heap.size=w.heap.size:=(by omega);have hne2:¬w.heap.size=w4.heap.size:=(by omega);clear xz oz hb))
        (try simp only [Exit.inBlock,Exit.then])
        refine bodyPost_ret (results_ptg rfl _ _ _ 105 _ (0,0) rfl (five_put (has_five ((HT6.out.set hgl 0 _).set hgl 1 _).o) _ _ _ _ _) rfl) rfl ?_;exact⟨rfl,((HT6.out.set hgl 0 _).set hgl 1 _).out _ _ _ _ _⟩
   · have HV:=hid (show absoluteT s=none from by rw [hAb,if_pos (.inr hsm)]);rw [HV.out];rw [decide_eq_false hsm] at HSm;rw [hn] at hs;clear hn hS hS7 hSD hHh hRr hl hAb hsm hdl htw hdw;go_enter Tryz.func78,Tryz.ntmps78;go_wp2_with (go_at_call 119;(with_reducible refine(HSm.out _).mono ?_);rintro e w1 ⟨rfl,q1,hw1⟩;have HT1:=hid (show QW w w1 from by rw [hw1];exact HT0.out.below (below_drew (Below.refl _ _) q1));clear hw1;obtain⟨_,_,_,_,_,oz⟩:=five HT1.out.o;have oz0:=oz 0;have oz1:=oz 1;have oz2:=oz 2;have oz3:=oz 3;have oz4:=oz 4;clear oz)
     (try simp only [Exit.inBlock,Exit.then])
     refine bodyPost_ret (results_ptg rfl _ _ _ 105 _ (0,0) rfl (five_put (has_five HT1.out.o) _ _ _ _ _) rfl) rfl ?_;exact⟨rfl,HT1.out.out _ _ _ _ _⟩
theorem agg_some (t:TG):∃ tf c1 c2 c3 ths,tgV t= .agg #[.int .i64 tf,.string c1,.string c2,.string c3,.bool ths]:=⟨_,_,_,_,_,rfl⟩
theorem star_no {s:B} (h:s≠ [42]) {S:ByteArray} (hS:str s=S):(S.toList== (⟨#[42]⟩:ByteArray).toList)=false:=by
 rw [←hS];exact ne_list (str_ne (b:=[42]) h)
theorem pparse_any (s:B) (hs:s.length≤4294967279) (w:World) (hE:Env w):Calls Tryz.prog 43 #[.string (str s)] w fun e w'=>e= .returned (.tuple #[tgV (parseT s).1,errOf (parseT s).2])∧Below w.heap.size w w':=by
 rw [←parse_is];have HT0:=hid (QW.start w);have HE:=hid hE;clear hE;obtain⟨_,_,_,_,_,nz⟩:=five (QW.start w).o;have nz0:=nz 0;have nz1:=nz 1;have nz2:=nz 2;have nz3:=nz 3;have nz4:=nz 4;clear nz;obtain⟨S,hS⟩:∃ S,str s=S:=⟨_,rfl⟩;by_cases hlong:65536<s.length
 · have HV:=hid (show parseP s=(TG.zero,2) from by unfold parseP;rw [if_pos hlong]);have hdec:decide ((65536:Int)<(S.size:Int))=true:=by rw [←hS,str_size];exact decide_eq_true (by omega)
   rw [hS,HV.out];clear hS hlong hs;go_enter Tryz.func43,Tryz.ntmps43;go_wp2
   (try simp only [Exit.inBlock,Exit.then])
   refine bodyPost_ret (results_ptg rfl _ _ _ 105 _ (0,0) rfl (heap_alloc_new w _) rfl) rfl ?_;exact⟨rfl,below_new _ _⟩
 have hdec:decide ((65536:Int)<(S.size:Int))=false:=by rw [←hS,str_size];exact decide_eq_false (by omega)
 by_cases hst:s= [42]
 · have HV:=hid (show parseP s=(⟨3,[],[],[],false⟩,0) from by unfold parseP;rw [if_neg hlong,if_pos hst]);rw [HV.out];have hSe:S=⟨#[42]⟩:=by rw [←hS,hst]
   subst hSe;rw [hS];clear hS hlong hs hst;go_enter Tryz.func43,Tryz.ntmps43;go_wp2
   (try simp only [Exit.inBlock,Exit.then])
   refine bodyPost_ret (results_ptg rfl _ _ _ 105 _ (0,0) rfl (heap_alloc_new w _) rfl) rfl ?_;exact⟨rfl,below_new _ _⟩
 have hne:=star_no hst hS;have hne2:(S.toList== [42])=false:=by
  rw [Lib.toList_data (⟨#[42]⟩:ByteArray)] at hne;exact hne
 have hSz:¬S=⟨#[42]⟩:=by rw [←hS];exact str_ne (b:=[42]) hst
 have HPO:=hid (porigin_any s (by omega));have HPA:=hid (pabs_any s hs);have HV0:=hid (show parseP s=match originT s with|some t=>(t,0)|none=>(match absoluteT s with|some t=>(t,0)|none=>(TG.zero,23)) from by unfold parseP;rw [if_neg hlong,if_neg hst];cases originT s <;> cases absoluteT s <;> rfl);rw [hS] at HPO HPA ⊢;clear hS hlong hs hst;cases ho:originT s with
 |some t=>
  rw [ho] at HPO HV0;have HV:=hid (show parseP s=(t,0) from HV0.out);rw [HV.out];dsimp only;obtain⟨tf,c1,c2,c3,ths,ha⟩:=agg_some t;have HO2:=hid (show ∀ w,Env w→Calls Tryz.prog 77 #[.string S] w fun e w'=>e= .returned (.tuple #[.agg #[.int .i64 tf,.string c1,.string c2,.string c3,.bool ths],.bool true])∧Below w.heap.size w w' from by rw [←ha];exact HPO.out);rw [ha];clear ha ho;go_enter Tryz.func43,Tryz.ntmps43;go_wp2_with (go_at_call 77;(with_reducible refine(HO2.out _ (HE.out.below HT0.out.low)).mono ?_);rintro e w4 ⟨rfl,hb⟩;have HT4:=hid (HT0.out.below hb);have HT5:=hid (HT4.out.next (.cells #[.int .i64 tf,.string c1,.string c2,.string c3,.bool ths] 105 (0,0)));have HTn:=hid (heap_alloc_new w4 (.cells #[.int .i64 tf,.string c1,.string c2,.string c3,.bool ths] 105 (0,0)));obtain⟨x0,x1,x2,x3,x4,xz⟩:=five HTn.out;obtain⟨_,_,_,_,_,oz⟩:=five HT5.out.o;have oz0:=oz 0;have oz1:=oz 1;have oz2:=oz 2;have oz3:=oz 3;have oz4:=oz 4;clear oz;clear hb)
  (try simp only [Exit.inBlock,Exit.then])
  refine bodyPost_ret (results_ptg rfl _ _ _ 105 _ (0,0) rfl (five_put (has_five HT5.out.o) _ _ _ _ _) rfl) rfl ?_;exact⟨rfl,HT5.out.out _ _ _ _ _⟩
 |none=>
  rw [ho] at HPO HV0;have HO2:=hid (show ∀ w,Env w→Calls Tryz.prog 77 #[.string S] w fun e w'=>e= .returned (.tuple #[.agg #[.int .i64 0,.string ⟨#[]⟩,.string ⟨#[]⟩,.string ⟨#[]⟩,.bool false],.bool false])∧Below w.heap.size w w' from HPO.out);cases ha:absoluteT s with
  |some t=>
   rw [ha] at HPA HV0;have HV:=hid (show parseP s=(t,0) from HV0.out);rw [HV.out];dsimp only;obtain⟨tf,c1,c2,c3,ths,he⟩:=agg_some t;have HA2:=hid (show ∀ w,Env w→Calls Tryz.prog 78 #[.string S] w fun e w'=>e= .returned (.tuple #[.agg #[.int .i64 tf,.string c1,.string c2,.string c3,.bool ths],.bool true])∧Below w.heap.size w w' from by rw [←he];exact HPA.out);rw [he];clear ha ho he;go_enter Tryz.func43,Tryz.ntmps43;go_wp2_with (first|(go_at_call 77;(with_reducible refine(HO2.out _ (HE.out.below HT0.out.low)).mono ?_);rintro e w4 ⟨rfl,hb⟩;have HT4:=hid (HT0.out.below hb);have HT5:=hid (HT4.out.next Z5);have HE5:=hid (HE.out.below HT5.out.low);clear hb)|(go_at_call 78;(with_reducible refine(HA2.out _ HE5.out).mono ?_);rintro e w6 ⟨rfl,hb⟩;have HT6:=hid (HT5.out.below hb);have HT7:=hid (HT6.out.next (.cells #[.int .i64 tf,.string c1,.string c2,.string c3,.bool ths] 105 (0,0)));have HTn:=hid (heap_alloc_new w6 (.cells #[.int .i64 tf,.string c1,.string c2,.string c3,.bool ths] 105 (0,0)));obtain⟨x0,x1,x2,x3,x4,xz⟩:=five HTn.out;obtain⟨_,_,_,_,_,oz⟩:=five HT7.out.o;have oz0:=oz 0;have oz1:=oz 1;have oz2:=oz 2;have oz3:=oz 3;have oz4:=oz 4;clear oz;clear hb))
   (try simp only [Exit.inBlock,Exit.then])
   refine bodyPost_ret (results_ptg rfl _ _ _ 105 _ (0,0) rfl (five_put (has_five HT7.out.o) _ _ _ _ _) rfl) rfl ?_;exact⟨rfl,HT7.out.out _ _ _ _ _⟩
  |none=>
   rw [ha] at HPA HV0;have HV:=hid (show parseP s=(TG.zero,23) from HV0.out);rw [HV.out];have HA2:=hid (show ∀ w,Env w→Calls Tryz.prog 78 #[.string S] w fun e w'=>e= .returned (.tuple #[.agg #[.int .i64 0,.string ⟨#[]⟩,.string ⟨#[]⟩,.string ⟨#[]⟩,.bool false],.bool false])∧Below w.heap.size w w' from HPA.out);clear ha ho;go_enter Tryz.func43,Tryz.ntmps43;go_wp2_with (first|(go_at_call 77;(with_reducible refine(HO2.out _ (HE.out.below HT0.out.low)).mono ?_);rintro e w4 ⟨rfl,hb⟩;have HT4:=hid (HT0.out.below hb);have HT5:=hid (HT4.out.next Z5);have HE5:=hid (HE.out.below HT5.out.low);clear hb)|(go_at_call 78;(with_reducible refine(HA2.out _ HE5.out).mono ?_);rintro e w6 ⟨rfl,hb⟩;have HT6:=hid (HT5.out.below hb);have HT7:=hid (HT6.out.next Z5);obtain⟨_,_,_,_,_,oz⟩:=five HT7.out.o;have oz0:=oz 0;have oz1:=oz 1;have oz2:=oz 2;have oz3:=oz 3;have oz4:=oz 4;clear oz;clear hb))
   (try simp only [Exit.inBlock,Exit.then])
   refine bodyPost_ret (results_ptg rfl _ _ _ 105 _ (0,0) rfl (five_put (has_five HT7.out.o) _ _ _ _ _) rfl) rfl ?_;exact⟨rfl,HT7.out.out _ _ _ _ _⟩
theorem num_none (w:World):Calls Tryz.prog 11 #[.nilIface] w fun e w'=>e= .returned (.int .i64 0)∧w'=w:=by
 go_enter Tryz.func11,Tryz.ntmps11;go_wp2;go_ret;exact⟨rfl,rfl⟩
structure InR (w:World) (p:Option Addr) (n c:Nat) (l:List RtX):Prop where
 len:l.length=n
 few:n≤1048576
 zp:∀ x∈l,RtZP x
 ms:∀ x∈l,x.r.ms.length≤1048576∧(x.q=none→x.k=0)
 at_:RtsAt w p l
theorem new_twin {w w2:World}{l l':List RtX}{q:Option Addr}{d:Nat} (hz:∀ x∈l,RtZP x) (hO:OwnL w2 w.heap.size (.slice q l.length d) l') (hT:TwL l l') (hk:∀ y∈l',y.r.ms.length≤y.k) (hmx:MxAt w2):
  Calls Tryz.prog 9 #[.slice q l.length d] w2 fun e w'=>PNewAns w2 (l.map RtX.r) e w':=by
 have h:=pnew_any l' q l.length d hT.1 (hT.zp hz hk) w2 hmx hO.at;rw [hT.map] at h;exact h
theorem zp_path {l:List RtX} (hz:∀ x∈l,RtZP x):∀ r∈l.map RtX.r,r.path.length≤4398046511104:=by
 intro r hr;obtain⟨x,hx,rfl⟩:=List.mem_map.1 hr;exact(hz x hx).z.path
theorem zp_ms {l:List RtX} (hz:∀ x∈l,RtZP x):∀ r∈l.map RtX.r,r.ms.length≤140737488355328:=by
 intro r hr;obtain⟨x,hx,rfl⟩:=List.mem_map.1 hr;exact Nat.le_trans (hz x hx).few (by decide)
end Go.Proofs.YtlmlljlappjjjaaGreatDoor
