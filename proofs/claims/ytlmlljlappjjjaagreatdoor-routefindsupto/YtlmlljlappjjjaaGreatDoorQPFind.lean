/- The program: Find. -/
import Derived.Test.YtlmlljlappjjjaaGreatDoorTPDots
namespace Go.Proofs.YtlmlljlappjjjaaGreatDoor
set_option maxRecDepth 20000
set_option maxHeartbeats 16000000
open Go.RowKit Go.Maps
theorem env_mx {w:World} (h:MxAt w):Env w:=⟨h⟩
theorem found_size:(Tryz.prog.info? 47).map (·.size)=some 3:=by kernel_rfl
theorem results_fd {fn:Func}{p u:Tmp} (h:fn.results= #[.cell p 47,.tmp u]) (tmps:Array Value) (w:World) (g:Nat) (t:TypeId) (cs:Array Value) (fr:Nat×Nat)
  (hp:tmps.getD p undef= .pointer (some ⟨g,0,none⟩)) (hg:w.heap[g]?=some (.cells cs t fr)) (hs:cs.size=3):(results fn tmps).run Tryz.prog w= .ok (.tuple #[.agg cs,tmps.getD u undef]) w:=by
 have hl:=run_loadVar_row (P:=Tryz.prog) w g t 47 cs fr _ hg Tryz.underlying47 rfl (by rw [found_size,hs]);have hp2:tmps[p]?.getD undef= .pointer (some ⟨g,0,none⟩):=by simpa using hp
 simp [results,h,hp2,asAddr,Result.andThen,hl]
theorem heap_three {w:World}{g:Nat}{a b c:Value}{T:TypeId} (h:w.heap[g]?=some (.cells #[a,b,c] T (0,0))) (x y z:Value):(((w.setCell ⟨g,0,none⟩ x).setCell ⟨g,1,none⟩ y).setCell ⟨g,2,none⟩ z).heap[g]?=some (.cells #[x,y,z] T (0,0)):=
 heap_set1 (heap_set1 (heap_set1 h (o:=0) (v:=x)) (o:=1) (v:=y)) (o:=2) (v:=z)
theorem below_three {b g:Nat}{w0 w:World} (hb:Below b w0 w) (hB:b≤g) (x y z:Value):Below b w0 (((w.setCell ⟨g,0,none⟩ x).setCell ⟨g,1,none⟩ y).setCell ⟨g,2,none⟩ z):=
 ((hb.setCell hB (p:=⟨g,0,none⟩) x).setCell hB (p:=⟨g,1,none⟩) y).setCell hB (p:=⟨g,2,none⟩) z
structure FdBox (w:World) (g:Nat) (a b c u v:Value):Prop where
 z0:w.cell? ⟨g,0,none⟩=some a
 f0:w.frozen? ⟨g,0,none⟩=false
 z1:(w.setCell ⟨g,0,none⟩ u).cell? ⟨g,1,none⟩=some b
 f1:(w.setCell ⟨g,0,none⟩ u).frozen? ⟨g,1,none⟩=false
 z2:((w.setCell ⟨g,0,none⟩ u).setCell ⟨g,1,none⟩ v).cell? ⟨g,2,none⟩=some c
 f2:((w.setCell ⟨g,0,none⟩ u).setCell ⟨g,1,none⟩ v).frozen? ⟨g,2,none⟩=false
theorem fd_box {w:World}{g:Nat}{a b c:Value}{T:TypeId} (h:w.heap[g]?=some (.cells #[a,b,c] T (0,0))) (u v:Value):FdBox w g a b c u v:=by
 have h1:(w.setCell ⟨g,0,none⟩ u).heap[g]?=some (.cells #[u,b,c] T (0,0)):=heap_set1 h;have h2:((w.setCell ⟨g,0,none⟩ u).setCell ⟨g,1,none⟩ v).heap[g]?=some (.cells #[u,v,c] T (0,0)):=heap_set1 h1;exact⟨(box3 h).1,(box3 h).2.2.2 0,(box3 h1).2.1,(box3 h1).2.2.2 1,(box3 h2).2.2.1,(box3 h2).2.2.2 2⟩
theorem OwnF.set3 {w:World}{base g:Nat}{a b c x y z:Value}{T:TypeId}{v:Value}{F:List (B×B)} (h:OwnF w base v F) (hg:w.heap[g]?=some (.cells #[a,b,c] T (0,0))) (hT:T≠73:=by decide):OwnF (((w.setCell ⟨g,0,none⟩ x).setCell ⟨g,1,none⟩ y).setCell ⟨g,2,none⟩ z) base v F:=by
 have hne:v.ownBlock≠some g:=fun e=>by
  rcases h.2 with ⟨h1,_⟩|⟨g1,cap,cur,h1,h2,h3,h4⟩
  · rw [h1] at e;cases e
  · rw [h1] at e;obtain rfl:g1=g:=by simpa [Value.ownBlock] using e
    rw [hg] at h3;injection h3 with h3
    injection h3 with _ h5 _
    exact hT h5
 have hb:∀ k,v.ownBlock=some k→(((w.setCell ⟨g,0,none⟩ x).setCell ⟨g,1,none⟩ y).setCell ⟨g,2,none⟩ z).heap[k]?=w.heap[k]?:=fun k e=>by
  have hk:k≠g:=fun e2=>hne (by rw [e,e2])
  rw [RowKit.Below.heap_setCell _ ⟨g,2,none⟩ z k hk,RowKit.Below.heap_setCell _ ⟨g,1,none⟩ y k hk,RowKit.Below.heap_setCell _ ⟨g,0,none⟩ x k hk]
 refine⟨h.1,?_⟩;rcases h.2 with h1|⟨g1,cap,cur,h1,h2,h3,h4⟩
 · exact .inl h1
 · exact .inr ⟨g1,cap,cur,h1,h2,(hb g1 (by rw [h1];rfl)).trans h3,h4⟩
def meantV (host path:B):Value:=if (canonN host).2=0 then decE (normalB path) else .tuple #[.string (str []),errOf (canonN host).2]
theorem pmeant_any (host path:B) (hh:host.length≤9223372036854775807) (hp:path.length≤4294967280) (w:World) (hmx:MxAt w):Calls Tryz.prog 30 #[.string (str host),.string (str path)] w fun e w'=>e= .returned (meantV host path)∧Below w.heap.size w w':=by
 have HC:=hid (pcanonN host hh w hmx);have HP:=hid (fun (W:World) (hb:Below w.heap.size w W)=>pnormal_any path hp W (env_mx (hmx.next hb)));unfold meantV;obtain⟨SH,hSH⟩:∃ S,str host=S:=⟨_,rfl⟩;obtain⟨SM,hSM⟩:∃ S,str path=S:=⟨_,rfl⟩;rw [hSH] at HC ⊢;rw [hSM] at HP ⊢;obtain⟨v,hv⟩:∃ v,(canonN host).1=v:=⟨_,rfl⟩;obtain⟨k,hk⟩:∃ k,(canonN host).2=k:=⟨_,rfl⟩;rw [hv,hk] at HC;rw [hk];clear hSH hSM hv hk hmx;by_cases h0:k=0
 · subst h0;rw [show errOf 0= .nilIface from rfl] at HC;rw [if_pos rfl];cases hn:normalB path with
   |none=>
    rw [hn] at HP;unfold decE at HP ⊢;dsimp only at HP ⊢;clear hn;go_enter Tryz.func30,Tryz.ntmps30;go_wp2_with (first|(go_at_call 66;(with_reducible refine HC.out.mono ?_);rintro e w1 ⟨rfl,hb1⟩;have HB1:=hid hb1;clear hb1)|(go_at_call 20;(with_reducible refine(HP.out _ HB1.out).mono ?_);rintro e w2 ⟨rfl,hb2⟩;have HB2:=hid (below_out HB1.out hb2);clear hb2));go_ret2;exact⟨rfl,HB2.out⟩
   |some y=>
    rw [hn] at HP;unfold decE at HP ⊢;dsimp only at HP ⊢;clear hn;go_enter Tryz.func30,Tryz.ntmps30;go_wp2_with (first|(go_at_call 66;(with_reducible refine HC.out.mono ?_);rintro e w1 ⟨rfl,hb1⟩;have HB1:=hid hb1;clear hb1)|(go_at_call 20;(with_reducible refine(HP.out _ HB1.out).mono ?_);rintro e w2 ⟨rfl,hb2⟩;have HB2:=hid (below_out HB1.out hb2);clear hb2));go_ret2;exact⟨rfl,HB2.out⟩
 · rw [if_neg h0];have he:=errOf_ne h0;rw [he] at HC ⊢;clear he;go_enter Tryz.func30,Tryz.ntmps30;go_wp2_with (go_at_call 66;(with_reducible refine HC.out.mono ?_);rintro e w1 ⟨rfl,hb1⟩;have HB1:=hid hb1;clear hb1);go_ret2;exact⟨rfl,HB1.out⟩
theorem plen_any {b0:Nat}{w:World}{t gh m:Nat}{L:List RtC}{M:Nat} (h:TabQ b0 w t gh m (contQ L M)):Calls Tryz.prog 15 #[.pointer (some ⟨t,0,none⟩)] w fun e w'=>e= .returned (.int .i64 (L.length:Int))∧w'=w:=by
 obtain⟨O,vp,vr,ts,wv,es,hI,hl⟩:=h;obtain⟨pr,nr,cr,rfl⟩:=own_slice3 hI.rts;have hel:nr=L.length:=by
  have h1:=hI.esc;rw [show (contQ L M).es=L.map (fun r=>(r.path,r.ms)) from rfl] at h1;have h2:=congrArg List.length h1;simp at h2;exact(row_lenH hI.rts).trans h2
 obtain⟨_,_,_,c3,_⟩:=idx_cells hI.bx;rw [←hel];clear hI hel hl;go_enter Tryz.func15,Tryz.ntmps15;go_wp2;go_ret;exact⟨rfl,rfl⟩
def FndNo (L:List RtC) (host path method:B) (k:Nat):Prop:=
 ((canonN host).2≠0∧k=(canonN host).2)∨
 ((canonN host).2=0∧normalB path=none∧k=23)∨
 ((canonN host).2=0∧∃ m,normalB path=some m∧(WayNo L host m k∨(k=8∧∃ h p F,WayYes L host m h p F∧∀ (i:Nat) (r:RtC),i∈waysR L h p.1→L[i]?=some r→takesR r.ms method=false)))
def FndYes (L:List RtC) (host path method:B) (i:Nat) (F:List (B×B)) (m:B):Prop:=
 (canonN host).2=0∧normalB path=some m∧∃ h p r,WayYes L host m h p F∧i∈waysR L h p.1∧L[i]?=some r∧takesR r.ms method=true
def foundV (i:Nat) (v:Value) (m:B):Value:=.agg #[.int .i64 (i:Int),v,.string (str m)]
def FndAns (L:List RtC) (host path method:B) (w:World) (e:Ending) (w':World):Prop:=Below w.heap.size w w'∧
 ((∃ k,FndNo L host path method k∧k≠0∧e= .returned (.tuple #[foundV 0 (.slice none 0 0) [],errOf k]))∨
  (∃ i F m q d,FndYes L host path method i F m∧e= .returned (.tuple #[foundV i (.slice q F.length d) m,.nilIface])∧OwnF w' w.heap.size (.slice q F.length d) F))
abbrev fd0:Array Value:=#[.int .i64 0,.slice none 0 0,.string ⟨#[]⟩]
theorem pfind_any {b0:Nat}{w:World}{t gh m:Nat}{L:List RtC}{M:Nat} (h:TabQ b0 w t gh m (contQ L M)) (hs:b0≤w.heap.size) (hmx:MxAt w) (h64:L.length≤64) (hzp:∀ r∈L,r.path.length≤4398046511104) (hzm:∀ r∈L,r.ms.length≤140737488355328) (host path method:B) (hh:host.length≤9223372036854775807) (hp:path.length≤4294967280) (hnl:∀ y,normalB path=some y→y.length≤140737488355328):
  Calls Tryz.prog 12 #[.pointer (some ⟨t,0,none⟩),.string (str host),.string (str path),.string (str method)] w fun e w'=>FndAns L host path method w e w':=by
 have HQ:=hid h;have HS:=hid hs;have HMx:=hid hmx;have HG0:=hid (heap_alloc_new w (.cells fd0 47 (0,0)));have HB0:=hid (below_new w (.cells fd0 47 (0,0)));have HMe:=hid (pmeant_any host path hh hp (w.alloc (.cells fd0 47 (0,0))) (hmx.next (below_new w _)));have HWa:=hid (fun (W:World) (hb:Below w.heap.size w W) (y:B) (hy:normalB path=some y)=>pway_any (h.next hs hb) (Nat.le_trans hs hb.size) (hmx.next hb) h64 hzp host y hh (hnl y hy));have HCn:=hid (show (canonN host).2=0∨(canonN host).2≠0 from Classical.em _);unfold meantV at HMe;obtain⟨SH,hSH⟩:∃ S,str host=S:=⟨_,rfl⟩;obtain⟨SM,hSM⟩:∃ S,str path=S:=⟨_,rfl⟩;obtain⟨SK,hSK⟩:∃ S,str method=S:=⟨_,rfl⟩;have HSK:=hid hSK;rw [hSH] at HWa;rw [hSH,hSM] at HMe;rw [hSH,hSM,hSK];clear hSH hSM hSK h hs hmx;rcases HCn.out with hc|hc
 · rw [if_pos hc] at HMe;cases hn:normalB path with
   |none=>
    rw [hn] at HMe;unfold decE at HMe;dsimp only at HMe;have HNo:=hid (show FndNo L host path method 23 from .inr (.inl ⟨hc,hn,rfl⟩));clear hc hn HCn;go_enter Tryz.func12,Tryz.ntmps12;go_wp2_with (go_at_call 30;(with_reducible refine HMe.out.mono ?_);rintro e w1 ⟨rfl,hb1⟩;have HB1:=hid (below_out HB0.out hb1);have HG1:=hid (kB hb1 HG0.out);obtain⟨z0,f0,z1,f1,z2,f2⟩:=fd_box HG1.out (.int .i64 0) (.slice none 0 0);clear hb1);refine bodyPost_ret (results_fd rfl _ _ w.heap.size _ _ (0,0) rfl (heap_three HG1.out _ _ _) rfl) rfl ?_;exact⟨below_three HB1.out (Nat.le_refl _) _ _ _,.inl ⟨23,HNo.out,by decide,rfl⟩⟩
   |some y=>
    rw [hn] at HMe;unfold decE at HMe;dsimp only at HMe;have HWy:=hid (fun (W:World) (hb:Below w.heap.size w W)=>HWa.out W hb y hn);have HHn:=hid hn;have HHc:=hid hc;obtain⟨SY,hSY⟩:∃ S,str y=S:=⟨_,rfl⟩;have HSY:=hid hSY;rw [hSY] at HMe HWy;clear hc hn HCn HWa hSY;go_enter Tryz.func12,Tryz.ntmps12;go_upto_region 7 with (first|(go_at_call 30;(with_reducible refine HMe.out.mono ?_);rintro e w1 ⟨rfl,hb1⟩;have HB1:=hid (below_out HB0.out hb1);have HG1:=hid (kB hb1 HG0.out);clear hb1)|(go_at_call 31;(with_reducible refine(HWy.out _ HB1.out).mono ?_);rintro e w2 ⟨hb2,⟨k,hno,hk0,rfl⟩|⟨hx,p,F,q,n,c,q2,d,hyes,rfl,hrow,hof⟩⟩))
    · have HB2:=hid (below_out HB1.out hb2);have HG2:=hid (kB hb2 HG1.out);have HEr:=hid (errOf_ne hk0);rw [HEr.out];obtain⟨z0,f0,z1,f1,z2,f2⟩:=fd_box HG2.out (.int .i64 0) (.slice none 0 0);have HNo:=hid (show FndNo L host path method k from .inr (.inr ⟨HHc.out,y,HHn.out,.inl hno⟩));have HK0:=hid hk0;clear hno hb2 hk0;go_wp2;refine bodyPost_ret (results_fd rfl _ _ w.heap.size _ _ (0,0) rfl (heap_three HG2.out _ _ _) rfl) rfl ?_;exact⟨below_three HB2.out (Nat.le_refl _) _ _ _,.inl ⟨k,HNo.out,HK0.out,by rw [HEr.out];rfl⟩⟩
    · have HB2:=hid (below_out HB1.out hb2);have HG2:=hid (kB hb2 HG1.out);have HYes:=hid hyes;have HRow:=hid hrow;have HOf:=hid (hof.lowT HB1.out.size);have hnl9:n=(numsR (waysR L hx p.1)).length:=row_lenH hrow;have HNl:=hid hnl9;have hn64:n≤64:=by have h9:=ways_len hx p.1 L;rw [hnl9];unfold numsR;rw [List.length_map];omega
      have hs2:=Nat.le_trans HS.out HB2.out.size;have HQ2:=hid (HQ.out.next HS.out HB2.out);clear hyes hrow hof hb2 hnl9 HMe HWy;go_wp2;go_loopg [44] (n+1) (fun gk s44 wr=>∃ k:Nat,k≤n∧gk=n-k+1∧s44= .int .i64 (k:Int)∧(∀ (i:Nat) (r:RtC),i∈(waysR L hx p.1).take k→L[i]?=some r→takesR r.ms method=false)∧Below w2.heap.size w2 wr)
      case atStart=>exact⟨0,Nat.zero_le _,rfl,rfl,by simp,Below.refl _ _⟩
      case round=>
       obtain⟨k,hk,rfl,rfl,hno,hb⟩:=hrel;have HNo:=hid hno;have HBk:=hid hb;have HBw:=hid (below_out HB2.out hb);have HGk:=hid (kB hb HG2.out);clear hno hb;by_cases hin:k<n
       · have hkl:k<(waysR L hx p.1).length:=by have:=HNl.out;unfold numsR at this;rw [List.length_map] at this;omega
         obtain⟨i,hi⟩:∃ i,(waysR L hx p.1)[k]?=some i:=⟨_,List.getElem?_eq_getElem hkl⟩;have hi2:(numsR (waysR L hx p.1))[k]?=some (i:Int):=by unfold numsR;rw [List.getElem?_map,hi];rfl
         obtain⟨gq,rfl,q1⟩:=OwnN.num ((HRow.out.keep HBk.out).lower (Nat.zero_le _)) hi2;obtain⟨r,hr,hr1,hr2⟩:=(mem_ways hx p.1 L i).1 (List.mem_of_getElem? hi);obtain⟨O,vp,vr,ts,wv,es,hI,hl⟩:=HQ2.out.next hs2 HBk.out
         obtain⟨pr,nr,cr,rfl⟩:=own_slice3 hI.rts;have hesc:=hI.esc;rw [show (contQ L M).es=L.map (fun r=>(r.path,r.ms)) from rfl] at hesc;have hel:es.length=L.length:=by have h2:=congrArg List.length hesc;simpa using h2
         have hil:=(List.getElem?_eq_some_iff.1 hr).1;have hinr:i<nr:=by rw [show nr=es.length from row_lenH hI.rts,hel];exact hil
         obtain⟨z,hz⟩:∃ z,es[i]?=some z:=⟨_,List.getElem?_eq_getElem (by rw [hel];exact hil)⟩;have hzm2:z.ms=r.ms:=by
          have h9:(es.map (fun x=>(x.path,x.ms)))[i]?=(L.map (fun r=>(r.path,r.ms)))[i]?:=by rw [hesc]
          rw [List.getElem?_map,List.getElem?_map,hz,hr] at h9;injection h9 with h9
          exact congrArg Prod.snd h9
         obtain⟨gr,rfl,x0,x1⟩:=OwnE_q.cells hI.rts hz;have c3:=(idx_cells hI.bx).2.2.2.1;have HTk:=hid (ptakes_any z.ms z.q z.ms.length z.k rfl (by rw [hzm2];exact hzm r (List.mem_of_getElem? hr)) (str z.path) method wr (hI.ems z (List.mem_of_getElem? hz)).1);rw [HSK.out,hzm2] at HTk;rw [hzm2] at x1;obtain⟨SQ,hSQ⟩:∃ S,str z.path=S:=⟨_,rfl⟩;rw [hSQ] at HTk x0;obtain⟨zn,hzn⟩:∃ zn,r.ms.length=zn:=⟨_,rfl⟩;rw [hzn] at HTk x1;have HIm:=hid (List.mem_of_getElem? hi);have HR:=hid hr;have HTs:=hid (show (waysR L hx p.1).take (k+1)=(waysR L hx p.1).take k++ [i] from by rw [List.take_add_one,hi];rfl);obtain⟨v,hv⟩:∃ v,takesR r.ms method=v:=⟨_,rfl⟩;have HV:=hid hv;rw [hv] at HTk;clear hkl hi hi2 hr hr1 hr2 hI hl hesc hel hil hz hzm2 hSQ hzn hv;cases v with
         |true=>
          have HFY:=hid (show FndYes L host path method i F y from⟨HHc.out,HHn.out,hx,p,r,HYes.out,HIm.out,HR.out,HV.out⟩);go_wp2_with (go_at_call 32;(with_reducible refine HTk.out.mono ?_);rintro e w3 ⟨rfl,hb3⟩;have HB3:=hid (below_out HBw.out hb3);have HG3:=hid (kB hb3 HGk.out);have HO3:=hid ((HOf.out.keep HBk.out).keep hb3);obtain⟨z0,f0,z1,f1,z2,f2⟩:=fd_box HG3.out (.int .i64 (i:Int)) (.slice q2 F.length d);clear hb3);refine bodyPost_ret (results_fd rfl _ _ w.heap.size _ _ (0,0) rfl (heap_three HG3.out _ _ _) rfl) rfl ?_;exact⟨below_three HB3.out (Nat.le_refl _) _ _ _,.inr ⟨i,F,y,q2,d,HFY.out,by unfold foundV;rw [HSY.out];rfl,OwnF.set3 HO3.out HG3.out⟩⟩
         |false=>
          go_wp2_with (go_at_call 32;(with_reducible refine HTk.out.mono ?_);rintro e w3 ⟨rfl,hb3⟩;have HB3:=hid (HBk.out.trans (hb3.mono HBk.out.size));clear hb3);go_roundg (n-(k+1)+1)
          case measure=>omega
          case rel=>
           refine⟨k+1,by omega,rfl,by push_cast;go_num,?_,HB3.out⟩;intro j u hj hu;rw [HTs.out,List.mem_append,List.mem_singleton] at hj;rcases hj with hj|hj
           · exact HNo.out j u hj hu
           · subst hj;have h9:=HR.out;rw [hu] at h9;injection h9 with h9
             rw [h9];exact HV.out
       · obtain rfl:n=k:=by omega
         have HNf:=hid (show FndNo L host path method 8 from .inr (.inr ⟨HHc.out,y,HHn.out,.inr ⟨rfl,hx,p,F,HYes.out,fun i r hi hr=>HNo.out i r (by rw [List.take_of_length_le (by have:=HNl.out;unfold numsR at this;rw [List.length_map] at this;omega)];exact hi) hr⟩⟩));obtain⟨z0,f0,z1,f1,z2,f2⟩:=fd_box HGk.out (.int .i64 0) (.slice none 0 0);go_wp2;refine bodyPost_ret (results_fd rfl _ _ w.heap.size _ _ (0,0) rfl (heap_three HGk.out _ _ _) rfl) rfl ?_;exact⟨below_three HBw.out (Nat.le_refl _) _ _ _,.inl ⟨8,HNf.out,by decide,rfl⟩⟩
 · rw [if_neg hc] at HMe;have HNo:=hid (show FndNo L host path method (canonN host).2 from .inl ⟨hc,rfl⟩);obtain⟨k,hk⟩:∃ k,(canonN host).2=k:=⟨_,rfl⟩;rw [hk] at HMe HNo hc;have HEr:=hid (errOf_ne hc);rw [HEr.out] at HMe;have HK:=hid hc;clear hc HCn hk HWa;go_enter Tryz.func12,Tryz.ntmps12;go_wp2_with (go_at_call 30;(with_reducible refine HMe.out.mono ?_);rintro e w1 ⟨rfl,hb1⟩;have HB1:=hid (below_out HB0.out hb1);have HG1:=hid (kB hb1 HG0.out);obtain⟨z0,f0,z1,f1,z2,f2⟩:=fd_box HG1.out (.int .i64 0) (.slice none 0 0);clear hb1);refine bodyPost_ret (results_fd rfl _ _ w.heap.size _ _ (0,0) rfl (heap_three HG1.out _ _ _) rfl) rfl ?_;exact⟨below_three HB1.out (Nat.le_refl _) _ _ _,.inl ⟨k,HNo.out,HK.out,by rw [HEr.out];rfl⟩⟩
end Go.Proofs.YtlmlljlappjjjaaGreatDoor
