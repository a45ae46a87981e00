/- The law's works: the plainer host, the parameter, the method. -/
import Derived.Test.YtlmlljlappjjjaaGreatDoorQDet
namespace Go.Proofs.YtlmlljlappjjjaaGreatDoor
set_option maxRecDepth 100000
set_option maxHeartbeats 16000000
open Go.RowKit
def wkL:List RtC:=[⟨[97,46,120],[47,117,47,58,105,100],[[71,69,84]]⟩,⟨[42,46,120],[47,117,47,109,101],[]⟩]
theorem wk_new:newE wkL=0:=by decide+kernel
theorem wk_one:FndYes wkL [97,46,120] [47,117,47,46,47,55] [71,69,84] 0 [([105,100],[55])] [47,117,47,55]:=
 ⟨by decide+kernel,by decide+kernel,[97,46,120],([47,117,47,58,105,100],0),⟨[97,46,120],[47,117,47,58,105,100],[[71,69,84]]⟩,⟨0,by decide+kernel,by decide+kernel,by decide+kernel,by decide+kernel,by decide+kernel,by decide+kernel⟩,by decide+kernel,rfl,by decide+kernel⟩
theorem wk_two:FndNo wkL [97,46,120] [47,117,47,109,101] [80,79,83,84] 8:=
 .inr (.inr ⟨by decide+kernel,[47,117,47,109,101],by decide+kernel,.inr ⟨rfl,[97,46,120],([47,117,47,58,105,100],0),[([105,100],[109,101])],⟨0,by decide+kernel,by decide+kernel,by decide+kernel,by decide+kernel,by decide+kernel,by decide+kernel⟩,fun i r hi hr=>by
  have e:waysR wkL [97,46,120] [47,117,47,58,105,100]= [0]:=by decide+kernel
  rw [show (([47,117,47,58,105,100],(0:Int)):B×Int).1= [47,117,47,58,105,100] from rfl,e,List.mem_singleton] at hi;subst hi;injection hr with hr
  subst hr;decide+kernel⟩⟩)
theorem wk_three:FndYes wkL [98,46,120] [47,117,47,109,101] [80,79,83,84] 1 [] [47,117,47,109,101]:=
 ⟨by decide+kernel,by decide+kernel,[42,46,120],([47,117,47,109,101],1),⟨[42,46,120],[47,117,47,109,101],[]⟩,⟨1,by decide+kernel,by decide+kernel,by decide+kernel,by decide+kernel,by decide+kernel,by decide+kernel⟩,by decide+kernel,rfl,by decide+kernel⟩
theorem rts_new (w:World) (l:List RtX) (hm:∀ x∈l,TxAt w x.q x.r.ms):RtsAt (w.alloc (.cells (l.flatMap rtXF).toArray 42 (0,0))) (some ⟨w.heap.size,0,none⟩) l:=by
 refine⟨fun j x hj=>⟨w.heap.size,0,rfl,fun t u hu=>?_⟩,fun x hx=>(hm x hx).next (below_new w _)⟩;have ht:t<13:=(List.getElem?_eq_some_iff.1 hu).1;have h1:=flat_at (sz:=13) (f:=rtXF) (fun _=>rfl) l j x hj t u ht hu;have h2:=cells_new w (l.flatMap rtXF) 42 _ _ h1;rw [add_off] at h2
 rwa [Nat.zero_add,Nat.mul_comm j 13]
def wkX (g:Nat):List RtX:=[⟨⟨[97,46,120],[47,117,47,58,105,100],[[71,69,84]]⟩,some ⟨g,0,none⟩,1,.string ⟨#[]⟩,.bool false,.string ⟨#[]⟩,.string ⟨#[]⟩,.slice none 0 0,.int .i64 0,.int .i64 0,.int .i64 0,.int .i64 0,.int .i64 0⟩,⟨⟨[42,46,120],[47,117,47,109,101],[]⟩,none,0,.string ⟨#[]⟩,.bool false,.string ⟨#[]⟩,.string ⟨#[]⟩,.slice none 0 0,.int .i64 0,.int .i64 0,.int .i64 0,.int .i64 0,.int .i64 0⟩]
theorem wk_map (g:Nat):(wkX g).map RtX.r=wkL:=rfl
theorem wk_zp (g:Nat):∀ x∈wkX g,RtZP x:=by
 intro x hx;unfold wkX at hx;simp only [List.mem_cons,List.not_mem_nil,or_false] at hx;rcases hx with rfl|rfl
 · exact⟨⟨⟨#[]⟩,⟨#[]⟩,⟨#[]⟩,false,none,0,0,0,0,0,0,0,rfl,rfl,rfl,rfl,rfl,rfl,rfl,rfl,rfl,rfl⟩,⟨Nat.le_of_ble_eq_true rfl,Nat.le_of_ble_eq_true rfl,Nat.le_of_ble_eq_true rfl,Nat.le_of_ble_eq_true rfl,fun y hy=>by rw [List.mem_singleton.1 hy];exact Nat.le_of_ble_eq_true rfl⟩,Nat.le_of_ble_eq_true rfl,fun y hy=>by rw [List.mem_singleton.1 hy];exact Nat.le_of_ble_eq_true rfl⟩
 · exact⟨⟨⟨#[]⟩,⟨#[]⟩,⟨#[]⟩,false,none,0,0,0,0,0,0,0,rfl,rfl,rfl,rfl,rfl,rfl,rfl,rfl,rfl,rfl⟩,⟨Nat.le_of_ble_eq_true rfl,Nat.le_of_ble_eq_true rfl,Nat.le_of_ble_eq_true rfl,Nat.le_of_ble_eq_true rfl,fun y hy=>by cases hy⟩,Nat.le_of_ble_eq_true rfl,fun y hy=>by cases hy⟩
theorem wk_len {y:B} (h:y.length≤100):y.length≤140737488355328:=by omega
theorem find_tab {b0:Nat}{w:World}{t gh m:Nat}{L:List RtC}{M:Nat} (h:TabQ b0 w t gh m (contQ L M)) (hs:b0≤w.heap.size) (hmx:MxAt w) (h64:L.length≤64) (hzp:∀ r∈L,r.path.length≤4398046511104) (hzm:∀ r∈L,r.ms.length≤140737488355328) (hf:FineR L) (host path method:B) (hh:host.length≤9223372036854775807) (hp:path.length≤4294967280) (hnl:∀ y,normalB path=some y→y.length≤140737488355328) {i:Nat}{F:List (B×B)}{y:B} (hY:FndYes L host path method i F y):
  Calls Tryz.prog 12 #[.pointer (some ⟨t,0,none⟩),.string (str host),.string (str path),.string (str method)] w fun e w'=>∃ q d,e= .returned (.tuple #[foundV i (.slice q F.length d) y,.nilIface])∧Below w.heap.size w w'∧OwnF w' w.heap.size (.slice q F.length d) F:=by
 refine(pfind_any h hs hmx h64 hzp hzm host path method hh hp hnl).mono ?_;rintro e w' ⟨hb,⟨k,hno,_,_⟩|⟨i',F',y',q,d,hy,he,ho⟩⟩
 · exact(yes_no hY hno).elim
 · obtain⟨rfl,rfl,rfl⟩:=yes_det hf hY hy;exact⟨q,d,he,hb,ho⟩
theorem find_none_q {b0:Nat}{w:World}{t gh m:Nat}{L:List RtC}{M:Nat} (h:TabQ b0 w t gh m (contQ L M)) (hs:b0≤w.heap.size) (hmx:MxAt w) (h64:L.length≤64) (hzp:∀ r∈L,r.path.length≤4398046511104) (hzm:∀ r∈L,r.ms.length≤140737488355328) (host path method:B) (hh:host.length≤9223372036854775807) (hp:path.length≤4294967280) (hnl:∀ y,normalB path=some y→y.length≤140737488355328) {k:Nat} (hN:FndNo L host path method k):
  Calls Tryz.prog 12 #[.pointer (some ⟨t,0,none⟩),.string (str host),.string (str path),.string (str method)] w fun e w'=>e= .returned (.tuple #[foundV 0 (.slice none 0 0) [],errOf k])∧Below w.heap.size w w':=by
 refine(pfind_any h hs hmx h64 hzp hzm host path method hh hp hnl).mono ?_;rintro e w' ⟨hb,⟨k',hno,_,he⟩|⟨i',F',y',q,d,hy,he,ho⟩⟩
 · rw [no_det hN hno];exact⟨he,hb⟩
 · exact(yes_no hy hN).elim
theorem works_any (w:World) (hmx:MxAt w):Calls Tryz.prog 7 #[] w fun e w'=>e= .returned (.bool true)∧Below w.heap.size w w':=by
 have HMx:=hid hmx;have hfine:=fine_of wk_new;have hp1:∀ r∈wkL,r.path.length≤4398046511104:=by decide
 have hm1:∀ r∈wkL,r.ms.length≤140737488355328:=by decide
 have HTx:=hid (show TxAt (w.alloc (.cells #[.string (str [71,69,84])] 9 (0,0))) (some ⟨w.heap.size,0,none⟩) [[71,69,84]] from fun j t hj=>by
  have h2:=cells_new w [.string (str [71,69,84])] 9 j (.string (str t)) (by
   rw [show [Value.string (str [71,69,84])]= [[71,69,84]].map (fun t:B=>Value.string (str t)) from rfl,List.getElem?_map,hj];rfl)
  rw [add_off] at h2;exact⟨w.heap.size,0,rfl,by rw [Nat.zero_add];exact h2⟩)
 have HRt:=hid (rts_new (w.alloc (.cells #[.string (str [71,69,84])] 9 (0,0))) (wkX w.heap.size) (by
  intro x hx;unfold wkX at hx;simp only [List.mem_cons,List.not_mem_nil,or_false] at hx;rcases hx with rfl|rfl
  · exact HTx.out
  · intro j t hj;cases hj))
 obtain⟨W0,hW0⟩:∃ W0,(w.alloc (.cells #[.string (str [71,69,84])] 9 (0,0))).alloc (.cells ((wkX w.heap.size).flatMap rtXF).toArray 42 (0,0))=W0:=⟨_,rfl⟩;have HB0:=hid (show Below w.heap.size w W0 from by rw [←hW0];exact below_out (below_new w _) (below_new _ _));rw [hW0] at HRt;have hz:(w.alloc (.cells #[.string (str [71,69,84])] 9 (0,0))).heap.size=w.heap.size+1:=by simp
 rw [hz] at HRt;have HNw:=hid (show Calls Tryz.prog 9 #[.slice (some ⟨w.heap.size+1,0,none⟩) 2 2] W0 (fun e w'=>∃ t gh m M,e= .returned (.tuple #[.pointer (some ⟨t,0,none⟩),.nilIface])∧Below W0.heap.size W0 w'∧TabQ W0.heap.size w' t gh m (contQ wkL M)) from by
  refine(pnew_any (wkX w.heap.size) _ 2 2 rfl (wk_zp _) W0 (hmx.next HB0.out) HRt.out).mono ?_;rintro e w' (⟨h1,_⟩|⟨_,h2,t,gh,m,M,h3,_,h4⟩)
  · rw [wk_map,wk_new] at h1;exact absurd rfl h1
  · rw [wk_map] at h4;exact⟨t,gh,m,M,h3,h2,h4⟩)
 have HF1:=hid (fun (W:World) (t gh m M:Nat) (hb:Below w.heap.size w W) (hs:W0.heap.size≤W.heap.size) (hQ:TabQ W0.heap.size W t gh m (contQ wkL M))=>show Calls Tryz.prog 12 #[.pointer (some ⟨t,0,none⟩),.string (str [97,46,120]),.string (str [47,117,47,46,47,55]),.string (str [71,69,84])] W (fun e w'=>∃ q d,e= .returned (.tuple #[.agg #[.int .i64 0,.slice q 1 d,.string (str [47,117,47,55])],.nilIface])∧Below W.heap.size W w'∧OwnF w' W.heap.size (.slice q 1 d) [([105,100],[55])]) from find_tab hQ hs (hmx.next hb) (by decide) hp1 hm1 hfine [97,46,120] [47,117,47,46,47,55] [71,69,84] (by decide) (by decide) (fun y hy=>wk_len (by rw [wk_one.2.1] at hy;injection hy with hy;rw [←hy];decide)) wk_one);have HF2:=hid (fun (W:World) (t gh m M:Nat) (hb:Below w.heap.size w W) (hs:W0.heap.size≤W.heap.size) (hQ:TabQ W0.heap.size W t gh m (contQ wkL M))=>show Calls Tryz.prog 12 #[.pointer (some ⟨t,0,none⟩),.string (str [97,46,120]),.string (str [47,117,47,109,101]),.string (str [80,79,83,84])] W (fun e w'=>e= .returned (.tuple #[.agg #[.int .i64 0,.slice none 0 0,.string ⟨#[]⟩],errOf 8])∧Below W.heap.size W w') from find_none_q hQ hs (hmx.next hb) (by decide) hp1 hm1 [97,46,120] [47,117,47,109,101] [80,79,83,84] (by decide) (by decide) (fun y hy=>wk_len (by rw [wk_three.2.1] at hy;injection hy with hy;rw [←hy];decide)) wk_two);have HF3:=hid (fun (W:World) (t gh m M:Nat) (hb:Below w.heap.size w W) (hs:W0.heap.size≤W.heap.size) (hQ:TabQ W0.heap.size W t gh m (contQ wkL M))=>show Calls Tryz.prog 12 #[.pointer (some ⟨t,0,none⟩),.string (str [98,46,120]),.string (str [47,117,47,109,101]),.string (str [80,79,83,84])] W (fun e w'=>∃ q d,e= .returned (.tuple #[.agg #[.int .i64 1,.slice q 0 d,.string (str [47,117,47,109,101])],.nilIface])∧Below W.heap.size W w'∧OwnF w' W.heap.size (.slice q 0 d) []) from find_tab hQ hs (hmx.next hb) (by decide) hp1 hm1 hfine [98,46,120] [47,117,47,109,101] [80,79,83,84] (by decide) (by decide) (fun y hy=>wk_len (by rw [wk_three.2.1] at hy;injection hy with hy;rw [←hy];decide)) wk_three);have HNm:=hid (fun W:World=>num_any 8 (by decide) W);rw [show errOf 8= .iface 74 (.int .i64 8) from rfl] at HF2 HNm;have e1:str [97,46,120]=⟨#[97,46,120]⟩:=rfl;have e2:str [47,117,47,46,47,55]=⟨#[47,117,47,46,47,55]⟩:=rfl;have e3:str [71,69,84]=⟨#[71,69,84]⟩:=rfl;have e4:str [47,117,47,109,101]=⟨#[47,117,47,109,101]⟩:=rfl;have e5:str [80,79,83,84]=⟨#[80,79,83,84]⟩:=rfl;have e6:str [98,46,120]=⟨#[98,46,120]⟩:=rfl;have e7:str [47,117,47,55]=⟨#[47,117,47,55]⟩:=rfl;have e8:str [55]=⟨#[55]⟩:=rfl;rw [e1,e2,e3,e7] at HF1;rw [e1,e4,e5] at HF2;rw [e6,e4,e5] at HF3;have hW1:(w.alloc (.cells #[.string ⟨#[71,69,84]⟩] 9 (0,0))).alloc (.cells #[.string ⟨#[97,46,120]⟩,.string ⟨#[47,117,47,58,105,100]⟩,.slice (some ⟨w.heap.size,0,none⟩) 1 1,.string ⟨#[]⟩,.bool false,.string ⟨#[]⟩,.string ⟨#[]⟩,.slice none 0 0,.int .i64 0,.int .i64 0,.int .i64 0,.int .i64 0,.int .i64 0,.string ⟨#[42,46,120]⟩,.string ⟨#[47,117,47,109,101]⟩,.slice none 0 0,.string ⟨#[]⟩,.bool false,.string ⟨#[]⟩,.string ⟨#[]⟩,.slice none 0 0,.int .i64 0,.int .i64 0,.int .i64 0,.int .i64 0,.int .i64 0] 42 (0,0))=W0:=hW0;clear hmx hfine hp1 hm1 HTx hW0 hz e1 e2 e3 e4 e5 e6 e7;go_enter Tryz.func7,Tryz.ntmps7;go_wp2_with (first|(go_at_call 9;(with_reducible refine HNw.out.mono ?_);rintro e w1 ⟨t,gh,m,M,rfl,hb1,hQ⟩;have HB1:=hid (below_out HB0.out hb1);have HS1:=hid hb1.size;have HQ:=hid hQ;clear hb1 hQ)|(go_at_call 12;(with_reducible refine(HF1.out w1 t gh m M HB1.out HS1.out HQ.out).mono ?_);rintro e w2 ⟨q,d,rfl,hb2,ho2⟩;obtain⟨gq,oq,rfl,_,p1⟩:=ho2.at (j:=0) rfl;have HBa:=hid (below_out (below_out HB1.out hb2) (below_new w2 (.cells #[.int .i64 0,.slice (some ⟨gq,oq,none⟩) 1 d,.string ⟨#[47,117,47,55]⟩] 47 (0,0))));have HSa:=hid (Nat.le_trans HS1.out (Nat.le_trans hb2.size (below_new w2 (.cells #[.int .i64 0,.slice (some ⟨gq,oq,none⟩) 1 d,.string ⟨#[47,117,47,55]⟩] 47 (0,0))).size));have HQa:=hid ((HQ.out.next HS1.out hb2).next (Nat.le_trans HS1.out hb2.size) (below_new w2 (.cells #[.int .i64 0,.slice (some ⟨gq,oq,none⟩) 1 d,.string ⟨#[47,117,47,55]⟩] 47 (0,0))));have HGa:=hid (heap_alloc_new w2 (.cells #[.int .i64 0,.slice (some ⟨gq,oq,none⟩) 1 d,.string ⟨#[47,117,47,55]⟩] 47 (0,0)));have HPa:=hid (cell_keep (below_new w2 (.cells #[.int .i64 0,.slice (some ⟨gq,oq,none⟩) 1 d,.string ⟨#[47,117,47,55]⟩] 47 (0,0))) p1);clear hb2 ho2 p1)|(go_at_call 12;(with_reducible refine(HF2.out _ t gh m M HBa.out HSa.out HQa.out).mono ?_);rintro e w3 ⟨rfl,hb3⟩;have HBb:=hid (below_out (below_out HBa.out hb3) (below_new w3 (.cells #[.int .i64 0,.slice none 0 0,.string ⟨#[]⟩] 47 (0,0))));have HSb:=hid (Nat.le_trans HSa.out (Nat.le_trans hb3.size (below_new w3 (.cells #[.int .i64 0,.slice none 0 0,.string ⟨#[]⟩] 47 (0,0))).size));have HQb:=hid ((HQa.out.next HSa.out hb3).next (Nat.le_trans HSa.out hb3.size) (below_new w3 (.cells #[.int .i64 0,.slice none 0 0,.string ⟨#[]⟩] 47 (0,0))));have HGb:=hid (((below_new w3 (.cells #[.int .i64 0,.slice none 0 0,.string ⟨#[]⟩] 47 (0,0))).block _ (Nat.lt_of_lt_of_le (lt_of_heap HGa.out) hb3.size)).trans (kB hb3 HGa.out));have HPb:=hid (cell_keep (below_new w3 (.cells #[.int .i64 0,.slice none 0 0,.string ⟨#[]⟩] 47 (0,0))) (cell_keep hb3 HPa.out));clear hb3)|(go_at_call 12;(with_reducible refine(HF3.out _ t gh m M HBb.out HSb.out HQb.out).mono ?_);rintro e w4 ⟨q3,d3,rfl,hb4,_⟩;have HBc:=hid (below_out (below_out HBb.out hb4) (below_new w4 (.cells #[.int .i64 1,.slice q3 0 d3,.string ⟨#[47,117,47,109,101]⟩] 47 (0,0))));have HGc:=hid (((below_new w4 (.cells #[.int .i64 1,.slice q3 0 d3,.string ⟨#[47,117,47,109,101]⟩] 47 (0,0))).block _ (Nat.lt_of_lt_of_le (lt_of_heap HGb.out) hb4.size)).trans (kB hb4 HGb.out));have pc:=cell_keep (below_new w4 (.cells #[.int .i64 1,.slice q3 0 d3,.string ⟨#[47,117,47,109,101]⟩] 47 (0,0))) (cell_keep hb4 HPb.out);obtain⟨z0,z1,z2,_⟩:=box3 HGc.out;clear hb4)|(go_at_call 11;(with_reducible refine(HNm.out _).mono ?_);rintro e w5 ⟨rfl,hw5⟩;subst hw5));go_ret;exact⟨rfl,HBc.out⟩
theorem host_best {gs:List B}{host h:B}{g:Nat} (hf:findN (idxP gs) host=((g:Int),0)) (hg:gs[g]?=some h):∃ y,labsH false host=some y∧fitsS (patL h) y=true∧∀ k∈gs,fitsS (patL k) y=true→patL k=patL h∨aheadP (patL h) (patL k)=true:=by
 unfold findN at hf;cases hl:labsH false host with
 |none=>rw [hl] at hf;cases hf
 |some y=>
  rw [hl] at hf;dsimp only at hf;cases hb:bestF y (idxP gs) with
  |none=>rw [hb] at hf;cases hf
  |some p=>
   rw [hb] at hf;have hs:=best_spec y _ (idxP gs) rfl;rw [hb] at hs;obtain⟨a1,a2,a3⟩:p∈idxP gs∧fitsS (patL p.1) y=true∧∀ q∈idxP gs,fitsS (patL q.1) y=true→patL q.1=patL p.1∨aheadP (patL p.1) (patL q.1)=true:=hs;obtain⟨i,h1,h2⟩:=idxP_of a1;injection hf with hf _
   have hi:i=g:=by
    have:((i:Nat):Int)=(g:Int):=h2.symm.trans hf;omega
   subst hi;rw [hg] at h1;injection h1 with h1
   refine⟨y,rfl,by rw [h1];exact a2,fun k hk fk=>?_⟩;obtain⟨j,hj⟩:=List.mem_iff_getElem?.1 hk;rw [h1];exact a3 (k,(j:Int)) (List.mem_of_getElem? (idxP_at hj)) fk
theorem pat_lowL (p:B):patL (lowH p)=patL p:=by
 unfold patL;rw [pat_low]
theorem yes_lawful {L:List RtC} (hL:FineR L) {host path method:B}{i:Nat}{F:List (B×B)}{y:B} (h:FndYes L host path method i F y):
  ∃ r,L[i]?=some r∧normalB path=some y∧fitsN r.host host=(true,0)∧fitsO r.path y=some (some F)∧takesR r.ms method=true∧∀ z∈L,(beatsN z.host r.host host).1=false:=by
 obtain⟨_,h2,k,p,r,⟨g,b1,b2,b3,b4,b5,_⟩,h4,h5,h6⟩:=h;obtain⟨r',c1,c2,c3⟩:=(mem_ways k p.1 L i).1 h4;rw [h5] at c1;injection c1 with c1
 subst c1;obtain⟨y0,d1,d2,d3⟩:=host_best b1 b2;obtain⟨⟨zj,hzj⟩,hcp⟩:=chk_parts (hL.chk r (List.mem_of_getElem? h5));have hpk:patL k=zj:=by rw [←c2,pat_lowL];exact patL_some hzj
 rw [hpk] at d2 d3;refine⟨r,h5,h2,?_,?_,h6,fun z hz=>?_⟩
 · unfold fitsN fitsAns;rw [hzj,d1];dsimp only;rw [d2]
 · unfold fitsO;rw [hcp,b3,c3,b5];rfl
 · obtain⟨⟨u,hu⟩,_⟩:=chk_parts (hL.chk z hz);cases hf:fitsS u y0 with
   |false=>rw [beatsN_none hu hzj d1 (by rw [hf];rfl)]
   |true=>
    rw [beatsN_ok hu hzj d1 hf d2];have hm:lowH z.host∈grpsR L:=(mem_grps L _).2 ⟨z,hz,rfl⟩;have hpu:patL (lowH z.host)=u:=by rw [pat_lowL];exact patL_some hu
    have h9:=d3 _ hm (by rw [hpu];exact hf);rw [hpu] at h9;rcases h9 with e|e
    · rw [e];exact aheadP_irrefl _
    · exact aheadP_asymm e
theorem join_cut (c:UInt8):∀ s:B,((cutAt c s).flatMap fun t=>c::t).length=s.length+1
 | []=>rfl
 |b::s=>by
  have ih:=join_cut c s;unfold cutAt;split
  · rename_i h
    rw [List.flatMap_cons,List.length_append,ih];simp;omega
  · cases hc:cutAt c s with
    |nil=>rw [hc] at ih;simp at ih
    |cons p r=>
     rw [hc] at ih;rw [List.flatMap_cons,List.length_append] at ih ⊢;simp at ih ⊢;omega
theorem segs_len (s:B):(joinS (segs s)).length≤s.length:=by
 have h:=join_cut 47 s;unfold segs joinS;cases hc:cutAt 47 s with
 |nil=>simp
 |cons p r=>
  rw [hc,List.flatMap_cons,List.length_append] at h;simp at h ⊢;omega
theorem normal_len_q {s y:B} (h:normalB s=some y):y.length≤s.length:=by
 unfold normalB at h;split at h
 · cases hd:dotsL (segs (meantB s)) [] with
   |none=>rw [hd] at h;cases h
   |some o=>
    rw [hd] at h;injection h with h
    subst h;have h1:=dots_len _ _ _ hd;have h2:=segs_len (meantB s);have h3:=meant_len s;have h4:(joinS ([]:List B)).length=0:=rfl;omega
 · cases h
theorem decode_in (s:ByteArray) (pos:Nat) (h:pos<s.size) (ha:128≤(s[pos]'h).toNat):Utf8.valid ((Utf8.decode s pos).1:Int)=true∧∀ i,i<(Utf8.decode s pos).2→pos+i<s.size∧128≤(s.get! (pos+i)).toNat:=by
 have hn:¬(s[pos]'h).toNat<128:=by omega
 have h0:128≤(s.get! (pos+0)).toNat:=by rw [get_at s pos h];exact ha
 have hz:∀ i,i<1→pos+i<s.size∧128≤(s.get! (pos+i)).toNat:=fun i hi=>by
  obtain rfl:i=0:=by omega
  exact⟨h,h0⟩
 have hv:Utf8.valid (Utf8.runeError:Int)=true:=by decide
 simp only [Utf8.decode];rw [if_neg (by omega)];split
 · rename_i q
   simp only [Bool.and_eq_true,decide_eq_true_eq,beq_iff_eq] at q;split
   · refine⟨by unfold Utf8.valid;simp;omega,fun i hi=>?_⟩;rcases (by omega:i=0∨i=1) with rfl|rfl
     · exact⟨h,h0⟩
     · exact⟨q.2.1,by omega⟩
   · exact⟨hv,hz⟩
 split
 · rename_i q
   simp only [Bool.and_eq_true,decide_eq_true_eq,beq_iff_eq] at q;split
   · rename_i q2
     simp only [Bool.and_eq_true,decide_eq_true_eq] at q2;refine⟨q2.2,fun i hi=>?_⟩;rcases (by omega:i=0∨i=1∨i=2) with rfl|rfl|rfl
     · exact⟨h,h0⟩
     · exact⟨q.1.2.1,by omega⟩
     · exact⟨q.2.1,by omega⟩
   · exact⟨hv,hz⟩
 split
 · rename_i q
   simp only [Bool.and_eq_true,decide_eq_true_eq,beq_iff_eq] at q;split
   · rename_i q2
     simp only [Bool.and_eq_true,decide_eq_true_eq] at q2;refine⟨q2.2,fun i hi=>?_⟩;rcases (by omega:i=0∨i=1∨i=2∨i=3) with rfl|rfl|rfl|rfl
     · exact⟨h,h0⟩
     · exact⟨q.1.1.2.1,by omega⟩
     · exact⟨q.1.2.1,by omega⟩
     · exact⟨q.2.1,by omega⟩
   · exact⟨hv,hz⟩
 · exact⟨hv,hz⟩
abbrev ends:ByteArray:=⟨#[47,63]⟩
theorem valid_cases {r:Int} (h:Utf8.valid r=true):(0≤r∧r<55296)∨(57344≤r∧r≤1114111):=by
 unfold Utf8.valid at h;simp at h;omega
theorem irune_err (w:World):Calls Tryz.prog 163 #[.string ends,.int .i32 65533] w fun e w'=>e= .returned (.int .i64 (-1))∧Below w.heap.size w w':=by
 go_enter Tryz.func163,Tryz.ntmps163;go_wp2;go_loopg [5,6] 3 (fun g _ _ wx=>∃ i:Nat,i≤2∧g=2-i+1∧wx=w.iter ends i)
 case atStart=>exact⟨0,by omega,rfl,rfl⟩
 case round=>
  obtain⟨i,hi,rfl,rfl⟩:=hrel;rcases (by omega:i=0∨i=1∨i=2) with rfl|rfl|rfl
  · have hnx:=fun ty=>run_next_ascii (P:=Tryz.prog) w ends 0 ty (by decide) (by decide)
    go_wp2;go_roundg 2
    case measure=>omega
    case rel=>exact⟨1,by omega,rfl,rfl⟩
  · have hnx:=fun ty=>run_next_ascii (P:=Tryz.prog) w ends 1 ty (by decide) (by decide)
    go_wp2;go_roundg 1
    case measure=>omega
    case rel=>exact⟨2,by omega,rfl,rfl⟩
  · have hnx:=fun ty=>run_next_end (P:=Tryz.prog) w ends 2 ty (by decide)
    go_wp2;go_ret;exact⟨rfl,below_new _ _⟩
theorem irune_high (r:Int) (hv:Utf8.valid r=true) (h128:128≤r) (hne:¬r=65533) (w:World):Calls Tryz.prog 163 #[.string ends,.int .i32 r] w fun e w'=>e= .returned (.int .i64 (-1))∧Below w.heap.size w w':=by
 obtain⟨f1,f2,f3⟩:=encode_facts r hv h128;obtain⟨E,hE⟩:∃ E,Utf8.encode r=E:=⟨_,rfl⟩;rw [hE] at f1 f2 f3;obtain⟨m,hm⟩:∃ m,E.size=m:=⟨_,rfl⟩;rw [hm] at f1 f2;obtain⟨S,hS⟩:∃ S,ends=S:=⟨_,rfl⟩;have hS2:S.size=2:=by rw [←hS];rfl
 have hb1:∀ h:1<S.size,(S[1]'h).toNat=63:=fun h=>by subst hS;rfl
 have hx2:S.extract 2 2=⟨#[]⟩:=by rw [←hS];rfl
 have hne2:(r== 65533)=false:=by simpa using hne
 rw [hS];clear hS;have hval:=valid_cases hv;clear hv;by_cases h2:m=2
 · subst h2;obtain⟨L,hL⟩:∃ L:Nat,∀ h:1<E.size,(E[1]'h).toNat=L:=⟨(E[1]'(by omega)).toNat,fun _=>rfl⟩;have hL128:128≤L:=by
    have h9:=f3 (by omega);simp only [hm] at h9;rw [←hL (by omega)];exact h9
   have hLne:((63:Int) != (L:Int))=true:=by
    rw [bne_iff_ne];omega
   have HIb:=hid (show ∀ w,Calls Tryz.prog 183 #[.string ⟨#[]⟩,.int .u8 (L:Int)] w fun e w'=>e= .returned (.int .i64 (-1))∧w'=w from Tryz.strings_IndexByte ⟨#[]⟩ (L:Int));have hw2:IntKind.i64.wrap 2=2:=by decide
   clear f1 f2 f3;rcases hval with ⟨hv1,hv2⟩|⟨hv1,hv2⟩
   · go_enter Tryz.func163,Tryz.ntmps163;go_wp2;go_step3;go_wp2;go_loopg [9,10] 1 (fun gk s9 s10 wr=>gk=1∧s9= .int .i64 1∧s10= .int .i64 0∧wr=w)
     case atStart=>exact⟨rfl,rfl,rfl,rfl⟩
     case round=>
      obtain⟨rfl,rfl,rfl,rfl⟩:=hrel;go_wp2;go_step3;go_wp2;refine wp_region_noPanic ?_;refine any_begin 7 (by kernel_rfl) (by kernel_rfl) ?_;refine atk (i:=0) (some 27) rfl rfl (v:= ?v0a) ?hy0a ?rest0a
      case hy0a=>intro w0;go_simp;try with_reducible rfl
      simp only [Act.put,sA,sB,sC];refine atk (i:=1) (some 28) rfl rfl (v:= ?v1a) ?hy1a ?rest1a
      case hy1a=>intro w0;go_simp;try with_reducible rfl
      simp only [Act.put,sA,sB,sC];refine atk (i:=2) (some 29) rfl rfl (v:= ?v2a) ?hy2a ?rest2a
      case hy2a=>intro w0;go_simp;try with_reducible rfl
      simp only [Act.put,sA,sB,sC];refine atk (i:=3) (some 30) rfl rfl (v:= ?v3a) ?hy3a ?rest3a
      case hy3a=>intro w0;go_simp;try with_reducible rfl
      simp only [Act.put,sA,sB,sC];refine atk (i:=4) (some 31) rfl rfl (v:= ?v4a) ?hy4a ?rest4a
      case hy4a=>intro w0;go_simp;try with_reducible rfl
      simp only [Act.put,sA,sB,sC];refine atk (i:=5) (some 32) rfl rfl (v:= ?v5a) ?hy5a ?rest5a
      case hy5a=>intro w0;go_simp;try with_reducible rfl
      simp only [Act.put,sA,sB,sC];refine atk (i:=6) (some 33) rfl rfl (v:= ?v6a) ?hy6a ?rest6a
      case hy6a=>intro w0;go_simp;try with_reducible rfl
      simp only [Act.put,sA,sB,sC];refine any_done (by kernel_rfl) ?_ _;refine NoPanic.normal ?_;go_wp2;refine wp_region_noPanic ?_;refine any_begin 9 (by kernel_rfl) (by kernel_rfl) ?_;refine atk (i:=0) (some 34) rfl rfl (v:= ?v0b) ?hy0b ?rest0b
      case hy0b=>intro w0;go_simp;try with_reducible rfl
      simp only [Act.put,sA,sB,sC];refine atk (i:=1) (some 35) rfl rfl (v:= ?v1b) ?hy1b ?rest1b
      case hy1b=>intro w0;go_simp;try with_reducible rfl
      simp only [Act.put,sA,sB,sC];refine atk (i:=2) (some 36) rfl rfl (v:= ?v2b) ?hy2b ?rest2b
      case hy2b=>intro w0;go_simp;try with_reducible rfl
      simp only [Act.put,sA,sB,sC];refine atk (i:=3) (some 37) rfl rfl (v:= ?v3b) ?hy3b ?rest3b
      case hy3b=>intro w0;go_simp;try with_reducible rfl
      simp only [Act.put,sA,sB,sC];refine atk (i:=4) (some 38) rfl rfl (v:= ?v4b) ?hy4b ?rest4b
      case hy4b=>intro w0;go_simp;try with_reducible rfl
      simp only [Act.put,sA,sB,sC];refine atk (i:=5) (some 39) rfl rfl (v:= ?v5b) ?hy5b ?rest5b
      case hy5b=>intro w0;go_simp;try with_reducible rfl
      simp only [Act.put,sA,sB,sC];refine atk (i:=6) (some 40) rfl rfl (v:= ?v6b) ?hy6b ?rest6b
      case hy6b=>intro w0;go_simp;try with_reducible rfl
      simp only [Act.put,sA,sB,sC];refine any_one (i:=7) (by kernel_rfl) rfl (fun K hK=>?_);go_simp;go_at_call 183;refine(HIb.out _).mono ?_;rintro e w5 ⟨rfl,rfl⟩;refine hK _ _ ?_;clear hK K;refine atk (i:=8) (some 11) rfl rfl (v:= ?v8b) ?hy8b ?rest8b
      case hy8b=>intro w0;go_simp;try with_reducible rfl
      simp only [Act.put,sA,sB,sC];refine any_done (by kernel_rfl) ?_ _;refine NoPanic.normal ?_;go_wp2
      (simp only [Exit.noGoto_ret,Exit.inBlock,Exit.then])
      go_ret;exact⟨rfl,⟨rfl,rfl,rfl,Nat.le_refl _,fun _ _=>rfl⟩⟩
   · go_enter Tryz.func163,Tryz.ntmps163;go_wp2;go_step3;go_wp2;go_loopg [9,10] 1 (fun gk s9 s10 wr=>gk=1∧s9= .int .i64 1∧s10= .int .i64 0∧wr=w)
     case atStart=>exact⟨rfl,rfl,rfl,rfl⟩
     case round=>
      obtain⟨rfl,rfl,rfl,rfl⟩:=hrel;go_wp2;go_step3;go_wp2;refine wp_region_noPanic ?_;refine any_begin 7 (by kernel_rfl) (by kernel_rfl) ?_;refine atk (i:=0) (some 27) rfl rfl (v:= ?v0az) ?hy0az ?rest0az
      case hy0az=>intro w0;go_simp;try with_reducible rfl
      simp only [Act.put,sA,sB,sC];refine atk (i:=1) (some 28) rfl rfl (v:= ?v1az) ?hy1az ?rest1az
      case hy1az=>intro w0;go_simp;try with_reducible rfl
      simp only [Act.put,sA,sB,sC];refine atk (i:=2) (some 29) rfl rfl (v:= ?v2az) ?hy2az ?rest2az
      case hy2az=>intro w0;go_simp;try with_reducible rfl
      simp only [Act.put,sA,sB,sC];refine atk (i:=3) (some 30) rfl rfl (v:= ?v3az) ?hy3az ?rest3az
      case hy3az=>intro w0;go_simp;try with_reducible rfl
      simp only [Act.put,sA,sB,sC];refine atk (i:=4) (some 31) rfl rfl (v:= ?v4az) ?hy4az ?rest4az
      case hy4az=>intro w0;go_simp;try with_reducible rfl
      simp only [Act.put,sA,sB,sC];refine atk (i:=5) (some 32) rfl rfl (v:= ?v5az) ?hy5az ?rest5az
      case hy5az=>intro w0;go_simp;try with_reducible rfl
      simp only [Act.put,sA,sB,sC];refine atk (i:=6) (some 33) rfl rfl (v:= ?v6az) ?hy6az ?rest6az
      case hy6az=>intro w0;go_simp;try with_reducible rfl
      simp only [Act.put,sA,sB,sC];refine any_done (by kernel_rfl) ?_ _;refine NoPanic.normal ?_;go_wp2;refine wp_region_noPanic ?_;refine any_begin 9 (by kernel_rfl) (by kernel_rfl) ?_;refine atk (i:=0) (some 34) rfl rfl (v:= ?v0bz) ?hy0bz ?rest0bz
      case hy0bz=>intro w0;go_simp;try with_reducible rfl
      simp only [Act.put,sA,sB,sC];refine atk (i:=1) (some 35) rfl rfl (v:= ?v1bz) ?hy1bz ?rest1bz
      case hy1bz=>intro w0;go_simp;try with_reducible rfl
      simp only [Act.put,sA,sB,sC];refine atk (i:=2) (some 36) rfl rfl (v:= ?v2bz) ?hy2bz ?rest2bz
      case hy2bz=>intro w0;go_simp;try with_reducible rfl
      simp only [Act.put,sA,sB,sC];refine atk (i:=3) (some 37) rfl rfl (v:= ?v3bz) ?hy3bz ?rest3bz
      case hy3bz=>intro w0;go_simp;try with_reducible rfl
      simp only [Act.put,sA,sB,sC];refine atk (i:=4) (some 38) rfl rfl (v:= ?v4bz) ?hy4bz ?rest4bz
      case hy4bz=>intro w0;go_simp;try with_reducible rfl
      simp only [Act.put,sA,sB,sC];refine atk (i:=5) (some 39) rfl rfl (v:= ?v5bz) ?hy5bz ?rest5bz
      case hy5bz=>intro w0;go_simp;try with_reducible rfl
      simp only [Act.put,sA,sB,sC];refine atk (i:=6) (some 40) rfl rfl (v:= ?v6bz) ?hy6bz ?rest6bz
      case hy6bz=>intro w0;go_simp;try with_reducible rfl
      simp only [Act.put,sA,sB,sC];refine any_one (i:=7) (by kernel_rfl) rfl (fun K hK=>?_);go_simp;go_at_call 183;refine(HIb.out _).mono ?_;rintro e w5 ⟨rfl,rfl⟩;refine hK _ _ ?_;clear hK K;refine atk (i:=8) (some 11) rfl rfl (v:= ?v8bz) ?hy8bz ?rest8bz
      case hy8bz=>intro w0;go_simp;try with_reducible rfl
      simp only [Act.put,sA,sB,sC];refine any_done (by kernel_rfl) ?_ _;refine NoPanic.normal ?_;go_wp2
      (simp only [Exit.noGoto_ret,Exit.inBlock,Exit.then])
      go_ret;exact⟨rfl,⟨rfl,rfl,rfl,Nat.le_refl _,fun _ _=>rfl⟩⟩
 · have hm3:3≤m:=by omega
   have hl1:¬((m:Int)-1<2):=by omega
   clear f3 h2;rcases hval with ⟨hv1,hv2⟩|⟨hv1,hv2⟩
   · go_enter Tryz.func163,Tryz.ntmps163;go_wp2;go_step3;go_wp2;go_loopg [9,10] 1 (fun gk s9 s10 wr=>gk=1∧s9= .int .i64 ((m:Int)-1)∧s10= .int .i64 0∧wr=w)
     case atStart=>exact⟨rfl,by go_num,rfl,rfl⟩
     case round=>
      obtain⟨rfl,rfl,rfl,rfl⟩:=hrel;go_wp2;try rw [Exit.noGoto_ret]
      go_ret;exact⟨rfl,Below.refl _ _⟩
   · go_enter Tryz.func163,Tryz.ntmps163;go_wp2;go_step3;go_wp2;go_loopg [9,10] 1 (fun gk s9 s10 wr=>gk=1∧s9= .int .i64 ((m:Int)-1)∧s10= .int .i64 0∧wr=w)
     case atStart=>exact⟨rfl,by go_num,rfl,rfl⟩
     case round=>
      obtain⟨rfl,rfl,rfl,rfl⟩:=hrel;go_wp2;try rw [Exit.noGoto_ret]
      go_ret;exact⟨rfl,Below.refl _ _⟩
end Go.Proofs.YtlmlljlappjjjaaGreatDoor
