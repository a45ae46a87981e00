/- What a table holds of a list of routes; one more route. -/
import Derived.Test.YtlmlljlappjjjaaGreatDoorQAdd
import Derived.Laws.CopyOwn
namespace Go.Proofs.YtlmlljlappjjjaaGreatDoor
set_option maxRecDepth 20000
set_option maxHeartbeats 32000000
open Go.RowKit
def numsR (l:List Nat):List Int:=l.map fun k:Nat=>(k:Int)
def contQ (L:List RtC) (M:Nat):QC where
 gs:=grpsR L
 tp:=fun i=>((grpsR L)[i]?.map fun h=>trieR L h).getD []
 wy:=fun i p=>((grpsR L)[i]?.map fun h=>numsR (waysR L h p)).getD []
 es:=L.map fun r=>(r.path,r.ms)
 M:=M
theorem trie_out {L:List RtC}{h:B} (hn:h∉grpsR L):trieR L h= []:=by
 refine List.eq_nil_iff_forall_not_mem.2 fun y hy=>hn ?_
 obtain⟨r,h1,h2,_⟩:=(mem_trie L h y.1).1 ⟨y,hy,rfl⟩;exact(mem_grps L h).2 ⟨r,h1,h2⟩
theorem ways_out {L:List RtC}{h p:B} (hn:h∉grpsR L):waysR L h p= []:=by
 refine List.eq_nil_iff_forall_not_mem.2 fun i hi=>hn ?_
 obtain⟨r,h1,h2,_⟩:=(mem_ways h p L i).1 hi;exact(mem_grps L h).2 ⟨r,List.mem_of_getElem? h1,h2⟩
theorem grps_add (L:List RtC) (r:RtC):grpsR (L++ [r])=grpA (grpsR L) (lowH r.host):=by
 rw [grps_snoc];rfl
theorem grpA_in {G:List B}{h:B} (hm:h∈G):grpA G h=G:=if_pos hm
theorem grpA_out {G:List B}{h:B} (hm:h∉G):grpA G h=G++ [h]:=if_neg hm
theorem cont_at (L:List RtC) (M:Nat) (h p:B):(contQ L M).tp ((grpA (grpsR L) h).idxOf h)=trieR L h∧(contQ L M).wy ((grpA (grpsR L) h).idxOf h) p=numsR (waysR L h p):=by
 by_cases hm:h∈grpsR L
 · have e:(grpsR L)[(grpA (grpsR L) h).idxOf h]?=some h:=by
    have:=grpA_at (grpsR L) h;rw [grpA_in hm] at this ⊢;exact this
   unfold contQ;dsimp only;rw [e];exact⟨rfl,rfl⟩
 · rw [grp_new hm,trie_out hm,ways_out hm];unfold contQ;dsimp only;rw [List.getElem?_eq_none (Nat.le_refl _)];exact⟨rfl,rfl⟩
theorem grp_other {G:List B} (hd:G.Nodup) {h:B}{i:Nat} (hi:i≠(grpA G h).idxOf h):(grpA G h)[i]?=G[i]? ∧G[i]? ≠some h:=by
 by_cases hm:h∈G
 · rw [grpA_in hm] at hi ⊢;refine⟨rfl,fun e=>hi ?_⟩;have h1:=List.getElem?_eq_getElem (List.idxOf_lt_length_of_mem hm);rw [List.getElem_idxOf] at h1;exact(List.getElem?_inj (List.getElem?_eq_some_iff.1 e).1 hd).1 (e.trans h1.symm)
 · rw [grp_new hm] at hi;rw [grpA_out hm];refine⟨?_,fun e=>hm (List.mem_of_getElem? e)⟩;rcases Nat.lt_or_ge i G.length with hl|hl
   · rw [List.getElem?_append_left hl]
   · rw [List.getElem?_eq_none hl,List.getElem?_eq_none (by rw [List.length_append];simp;omega)]
theorem nums_nil {l:List Nat}:numsR l= []↔l= []:=by
 unfold numsR;simp
theorem ways_trie {L:List RtC}{h p:B}:waysR L h p= []↔¬∃ y∈trieR L h,y.1=p:=by
 rw [mem_trie];constructor
 · rintro e ⟨r,h1,h2,h3⟩;obtain⟨i,hi⟩:=List.mem_iff_getElem?.1 h1;have:=(mem_ways h p L i).2 ⟨r,hi,h2,h3⟩;rw [e] at this;cases this
 · intro hn;refine List.eq_nil_iff_forall_not_mem.2 fun i hi=>hn ?_
   obtain⟨r,h1,h2,h3⟩:=(mem_ways h p L i).1 hi;exact⟨r,List.mem_of_getElem? h1,h2,h3⟩
theorem addC_cont (L:List RtC) (M:Nat) (r:RtC):addC (contQ L M) ((grpA (grpsR L) (lowH r.host)).idxOf (lowH r.host)) r=contQ (L++ [r]) (addC (contQ L M) ((grpA (grpsR L) (lowH r.host)).idxOf (lowH r.host)) r).M:=by
 obtain⟨c1,c2⟩:=cont_at L M (lowH r.host) r.path;have hga:=grpA_at (grpsR L) (lowH r.host);have hot:=fun i=>@grp_other (grpsR L) (nodup_grps L) (lowH r.host) i
 obtain⟨g,hg⟩:∃ g,(grpA (grpsR L) (lowH r.host)).idxOf (lowH r.host)=g:=⟨_,rfl⟩;rw [hg] at c1 c2 hga hot ⊢;have hes:(contQ L M).es.length=L.length:=by unfold contQ;simp
 unfold addC;rw [QC.mk.injEq];refine⟨(grps_add L r).symm,?_,?_,?_,rfl⟩
 · funext i;rw [show (contQ (L++ [r]) _).tp i=((grpA (grpsR L) (lowH r.host))[i]?.map fun h=>trieR (L++ [r]) h).getD [] from by unfold contQ;dsimp only;rw [grps_add]];by_cases e:i=g
   · subst e;rw [hga,c1,c2,hes];show _=trieR (L++ [r]) (lowH r.host);rw [trie_snoc];by_cases hw:waysR L (lowH r.host) r.path= []
     · rw [if_pos (nums_nil.2 hw),if_pos rfl,if_pos ⟨rfl,ways_trie.1 hw⟩]
     · rw [if_neg (fun h=>hw (nums_nil.1 h)),if_neg (fun h=>hw (ways_trie.2 h.2))];exact c1
   · obtain⟨h1,h2⟩:=hot i e;rw [h1];have e1:(if (contQ L M).wy g r.path= [] then (fun j=>if j=g then (contQ L M).tp g++ [(r.path,((contQ L M).es.length:Int))] else (contQ L M).tp j) else (contQ L M).tp) i=(contQ L M).tp i:=by
      split
      · dsimp only;rw [if_neg e]
      · rfl
     rw [e1];unfold contQ;dsimp only;cases hx:(grpsR L)[i]? with
     |none=>rfl
     |some k=>
      show trieR L k=trieR (L++ [r]) k;rw [trie_snoc,if_neg (fun h=>h2 (by rw [hx,h.1]))]
 · funext i p;rw [show (contQ (L++ [r]) _).wy i p=((grpA (grpsR L) (lowH r.host))[i]?.map fun h=>numsR (waysR (L++ [r]) h p)).getD [] from by unfold contQ;dsimp only;rw [grps_add]];by_cases e:i=g
   · subst e;rw [hga];show _=numsR (waysR (L++ [r]) (lowH r.host) p);rw [ways_snoc];by_cases hp:p=r.path
     · subst hp;rw [if_pos ⟨rfl,rfl⟩,if_pos ⟨rfl,rfl⟩,c2,hes];unfold numsR;rw [List.map_append];rfl
     · rw [if_neg (fun h=>hp h.2),if_neg (fun h=>hp h.2.symm),List.append_nil];have:=(cont_at L M (lowH r.host) p).2;rw [hg] at this;exact this
   · obtain⟨h1,h2⟩:=hot i e;rw [h1,if_neg (fun h=>e h.1)];unfold contQ;dsimp only;cases hx:(grpsR L)[i]? with
     |none=>rfl
     |some k=>
      show numsR (waysR L k p)=numsR (waysR (L++ [r]) k p);rw [ways_snoc,if_neg (fun h=>h2 (by rw [hx,h.1])),List.append_nil]
 · unfold contQ;dsimp only;rw [List.map_append];rfl
theorem hit_cont (L:List RtC) (M:Nat) (r:RtC) (hL:∀ x∈L,checkP x.path=true) (hr:checkP r.path=true) (hno:∀ i,i<L.length→∀ k,k<i→clashAt L k i=false):
  addHit (contQ L M) ((grpA (grpsR L) (lowH r.host)).idxOf (lowH r.host)) r=true↔∃ x∈L,clashR x r=true:=by
 rw [add_clash L r hL hr hno];obtain⟨c1,c2⟩:=cont_at L M (lowH r.host) r.path;unfold addHit;rw [c1,c2];by_cases hw:waysR L (lowH r.host) r.path= []
 · rw [if_pos (nums_nil.2 hw),if_pos hw,decide_eq_true_iff]
 · rw [if_neg (fun h=>hw (nums_nil.1 h)),if_neg hw];unfold hitW numsR;rw [List.any_map,List.any_eq_true];have hat:∀ (i:Nat) (x:RtC),L[i]?=some x→hit1 (contQ L M).es r.ms (i:Int)=meetR r.ms x.ms:=fun i x hx=>by
    unfold hit1 contQ;dsimp only;rw [show ((i:Int)).toNat=i from rfl,List.getElem?_map,hx];rfl
   constructor
   · rintro ⟨i,hi,h1⟩;obtain⟨x,hx,_⟩:=(mem_ways _ _ L i).1 hi;refine⟨i,hi,x,hx,?_⟩;rw [←hat i x hx];exact h1
   · rintro ⟨i,hi,x,hx,h1⟩;refine⟨i,hi,?_⟩;show hit1 _ _ _=true;rw [hat i x hx];exact h1
theorem trie_len (h:B):∀ L:List RtC,(trieR L h).length≤L.length:=by
 refine snoc_ind (by simp [trieR]) fun L r ih=>?_
 rw [trie_snoc];split
 · rw [List.length_append,List.length_append];simp;exact ih
 · rw [List.length_append];omega
theorem grps_len:∀ L:List RtC,(grpsR L).length≤L.length:=by
 refine snoc_ind (by simp [grpsR]) fun L r ih=>?_
 rw [grps_snoc];split
 · rw [List.length_append];omega
 · rw [List.length_append,List.length_append];simp;exact ih
theorem ways_len (h p:B):∀ L:List RtC,(waysR L h p).length≤L.length:=by
 refine snoc_ind (by simp [waysR]) fun L r ih=>?_
 rw [ways_snoc,List.length_append,List.length_append];split <;> simp <;> omega
theorem cont_tp_len (L:List RtC) (M i:Nat):((contQ L M).tp i).length≤L.length:=by
 unfold contQ;dsimp only;cases (grpsR L)[i]? with
 |none=>exact Nat.zero_le _
 |some h=>exact trie_len h L
theorem cont_wy_len (L:List RtC) (M i:Nat) (p:B):((contQ L M).wy i p).length≤L.length:=by
 unfold contQ;dsimp only;cases (grpsR L)[i]? with
 |none=>exact Nat.zero_le _
 |some h=>
  show (numsR _).length≤_;unfold numsR;rw [List.length_map];exact ways_len h p L
theorem cont_wy_at {L:List RtC}{M i:Nat}{p:B}{y:Int} (hy:y∈(contQ L M).wy i p):∃ k:Nat,y=(k:Int)∧k<(contQ L M).es.length:=by
 unfold contQ at hy ⊢;dsimp only at hy ⊢;rw [List.length_map];cases hx:(grpsR L)[i]? with
 |none=>rw [hx] at hy;cases hy
 |some h=>
  rw [hx] at hy;obtain⟨k,hk,rfl⟩:=List.mem_map.1 (show y∈numsR (waysR L h p) from hy);obtain⟨r,hr,_⟩:=(mem_ways h p L k).1 hk;exact⟨k,rfl,(List.getElem?_eq_some_iff.1 hr).1⟩
theorem RtC13.next {w w':World}{g o:Nat}{x:RtX} (h:RtC13 w g o x) (hb:Below w.heap.size w w'):RtC13 w' g o x:=
 ⟨cell_keep hb h.a0,cell_keep hb h.a1,cell_keep hb h.a2,cell_keep hb h.a3,cell_keep hb h.a4,cell_keep hb h.a5,cell_keep hb h.a6,cell_keep hb h.a7,cell_keep hb h.a8,cell_keep hb h.a9,cell_keep hb h.a10,cell_keep hb h.a11,cell_keep hb h.a12⟩
theorem results_rt {fn:Func}{p v:Tmp} (h:fn.results= #[.cell p 32,.tmp v]) (tmps:Array Value) (w:World) (g:Nat) (t:TypeId) (cs:Array Value) (fr:Nat×Nat)
  (hp:tmps.getD p undef= .pointer (some ⟨g,0,none⟩)) (hg:w.heap[g]?=some (.cells cs t fr)) (hs:(Tryz.prog.info? 32).map (·.size)=some cs.size):(results fn tmps).run Tryz.prog w= .ok (.tuple #[.agg cs,tmps.getD v undef]) w:=by
 have hl:=run_loadVar_row (P:=Tryz.prog) w g t 32 cs fr _ hg Tryz.underlying32 rfl hs;have hp2:tmps[p]?.getD undef= .pointer (some ⟨g,0,none⟩):=by simpa using hp
 simp [results,h,hp2,asAddr,Result.andThen,hl]
theorem below_set1 {b g:Nat}{w0 w:World} (hb:Below b w0 w) (hB:b≤g) {a:Value}{T:TypeId} (hg:w.heap[g]?=some (.cells #[a] T (0,0))) (v:Value):Below b w0 (w.setCell ⟨g,0,none⟩ v):=by
 rw [setCell_eq_setRow w g 0 _ _ _ v hg];exact below_setRow hb hB _
def rnewV (l:List RtC) (v:Value):Value:=if newE l=0 then .tuple #[.agg #[v],.int .i64 0] else .tuple #[.agg #[.slice none 0 0],.int .i64 (newE l:Int)]
theorem rnewV_ne {l:List RtC}{v:Value}{k:Nat} (h:newE l=k) (hk:k≠0):rnewV l v= .tuple #[.agg #[.slice none 0 0],.int .i64 (k:Int)]:=by
 unfold rnewV;rw [h,if_neg hk]
theorem rnew_long (l:List RtX) (p:Option Addr) (n c:Nat) (hn:l.length=n) (h64:64<n) (w:World):Calls Tryz.prog 10 #[.slice p n c] w fun e w'=>e= .returned (rnewV (l.map RtX.r) (.slice p n c))∧Below w.heap.size w w':=by
 have HV:=hid (rnewV_ne (v:=.slice p n c) (newE_long (l:=l.map RtX.r) (by rw [List.length_map];omega)) (by decide));rw [HV.out];have HG:=hid (heap_alloc_new w (.cells #[.slice none 0 0] 32 (0,0)));have HB:=hid (below_new w (.cells #[.slice none 0 0] 32 (0,0)));clear hn HV;go_enter Tryz.func10,Tryz.ntmps10;go_wp2;refine bodyPost_ret (results_rt rfl _ _ w.heap.size _ _ (0,0) rfl (heap_alloc_new w _) rfl) rfl ?_;exact⟨rfl,below_new w _⟩
theorem cell0 {W:World}{g:Nat}{a:Value}{T:TypeId} (h:W.heap[g]?=some (.cells #[a] T (0,0))):W.cell? ⟨g,0,none⟩=some a:=by simp [World.cell?,h]
theorem rnew_bad (l:List RtX) (p:Option Addr) (n c:Nat) (hn:l.length=n) (h64:n≤64) (hz:∀ x∈l,RtZ x) (hbad:∃ x∈l,chkR x.r≠0) (w:World) (hT:RtsAt w p l):Calls Tryz.prog 10 #[.slice p n c] w fun e w'=>e= .returned (rnewV (l.map RtX.r) (.slice p n c))∧Below w.heap.size w w':=by
 have HN:=hid hn;have HT:=hid hT;have HZ:=hid hz;have HX0:=hid hbad;have hG0:=heap_alloc_new w (.cells #[.slice none 0 0] 32 (0,0));have hB0:=below_new w (.cells #[.slice none 0 0] 32 (0,0));have HG0:=hid hG0;have HB0:=hid hB0;clear hn hT hz hbad hG0 hB0;go_enter Tryz.func10,Tryz.ntmps10;go_wp2;go_loopg [4] (n+1) (fun gk s4 wr=>∃ i:Nat,i≤n∧gk=n-i+1∧s4= .int .i64 (i:Int)∧(∀ z∈(l.map RtX.r).take i,chkR z=0)∧Below w.heap.size w wr∧wr.heap[w.heap.size]?=some (.cells #[.slice none 0 0] 32 (0,0)))
 case atStart=>exact⟨0,by omega,rfl,rfl,by simp,HB0.out,HG0.out⟩
 case round=>
  obtain⟨i,hi,rfl,rfl,hE,hb,hg⟩:=hrel;have HE:=hid hE;have HB:=hid hb;have HG:=hid hg;clear hE hb hg;by_cases hin:i<n
  · have h1:i<l.length:=by rw [HN.out];exact hin
    obtain⟨x,hx⟩:∃ x,l[i]?=some x:=⟨_,List.getElem?_eq_getElem h1⟩;have HX:=hid hx;have hzx:=HZ.out x (List.mem_of_getElem? hx);obtain⟨g1,o1,rfl,hC⟩:=(HT.out.next HB.out).at hx;have HC:=hid hC;have HMt:=hid (HT.out.ms x (List.mem_of_getElem? hx));have HH:=hid (fun (W:World) (_:Below w.heap.size w W)=>rcheckN x.r.host (Nat.le_trans hzx.host (by decide)) W);have HP:=hid (fun (W:World) (_:Below w.heap.size w W)=>chk_doc x.r.path hzx.path W);have HM:=hid (fun (W:World) (hb:Below w.heap.size w W)=>rmeth_any x.r.ms x.q x.r.ms.length x.k rfl hzx.cap hzx.each (Nat.le_trans hzx.ms (by decide)) W (HMt.out.next hb));have HVx:=hid (fun (hb:chkR x.r≠0)=>newE_bad (l:=l.map RtX.r) (by rw [List.length_map,HN.out];exact h64) (map_r HX.out) hb HE.out);have HNx:=hid (fun (h0:chkR x.r=0)=>all_next HE.out (map_r HX.out) h0);have HCk:=hid (show chkR x.r=if checkN x.r.host≠0 then checkN x.r.host else if chkN x.r.path≠0 then chkN x.r.path else methE x.r.ms from rfl);clear h1 hx hzx hC;obtain⟨a,ha⟩:∃ a,checkN x.r.host=a:=⟨_,rfl⟩;obtain⟨b,hb⟩:∃ b,chkN x.r.path=b:=⟨_,rfl⟩;obtain⟨d,hd⟩:∃ d,methE x.r.ms=d:=⟨_,rfl⟩;rw [ha] at HH HCk;rw [hb] at HP HCk;rw [hd] at HM HCk;obtain⟨Sh,hSh⟩:∃ S,str x.r.host=S:=⟨_,rfl⟩;obtain⟨Sp,hSp⟩:∃ S,str x.r.path=S:=⟨_,rfl⟩;have HEh:=hid hSh;have HEp:=hid hSp;rw [hSh] at HH;rw [hSp] at HP;clear ha hb hd hSh hSp;have q0:=HC.out.a0;have q1:=HC.out.a1;have q2:=HC.out.a2;rw [HEh.out] at q0;rw [HEp.out] at q1;have z0:=cell0 HG.out;have f0:=frozen_of_row wr w.heap.size 0 _ _ HG.out;by_cases ha:a=0
    · subst ha;by_cases hb:b=0
      · subst hb;by_cases hd:d=0
        · subst hd;have HNy:=hid (HNx.out (by rw [HCk.out];simp));go_wp2_with (first|(go_at_call 27;(with_reducible refine(HH.out _ HB.out).mono ?_);rintro e w1 ⟨rfl,hb⟩;replace HC:=hid (HC.out.next hb);replace HG:=hid (kB hb HG.out);replace HB:=hid (below_out HB.out hb);clear hb q0 q1 q2 z0 f0;have q0:=HC.out.a0;have q1:=HC.out.a1;have q2:=HC.out.a2;rw [HEh.out] at q0;rw [HEp.out] at q1;have z0:=cell0 HG.out;have f0:=frozen_of_row _ w.heap.size 0 _ _ HG.out)|(go_at_call 28;(with_reducible refine(HP.out _ HB.out).mono ?_);rintro e w1 ⟨rfl,hb⟩;replace HC:=hid (HC.out.next hb);replace HG:=hid (kB hb HG.out);replace HB:=hid (below_out HB.out hb);clear hb q0 q1 q2 z0 f0;have q0:=HC.out.a0;have q1:=HC.out.a1;have q2:=HC.out.a2;rw [HEh.out] at q0;rw [HEp.out] at q1;have z0:=cell0 HG.out;have f0:=frozen_of_row _ w.heap.size 0 _ _ HG.out)|(go_at_call 17;(with_reducible refine(HM.out _ HB.out).mono ?_);rintro e w1 ⟨rfl,hb⟩;replace HC:=hid (HC.out.next hb);replace HG:=hid (kB hb HG.out);replace HB:=hid (below_out HB.out hb);clear hb q0 q1 q2 z0 f0;have q0:=HC.out.a0;have q1:=HC.out.a1;have q2:=HC.out.a2;rw [HEh.out] at q0;rw [HEp.out] at q1;have z0:=cell0 HG.out;have f0:=frozen_of_row _ w.heap.size 0 _ _ HG.out));go_roundg (n-(i+1)+1)
          case measure=>omega
          case rel=>exact⟨i+1,by omega,by omega,by go_num,HNy.out,HB.out,HG.out⟩
        · have hdf:((d:Int)== 0)=false:=by rw [beq_eq_false_iff_ne];omega
          have HV:=hid (show Ending.returned (.tuple #[.agg #[.slice none 0 0],.int .i64 (d:Int)])=Ending.returned (rnewV (l.map RtX.r) (.slice (some ⟨g1,o1,none⟩) n c)) from by rw [rnewV_ne (k:=d) ((HVx.out (by rw [HCk.out,if_neg (by simp),if_neg (by simp)];exact hd)).trans (by rw [HCk.out,if_neg (by simp),if_neg (by simp)])) hd]);go_wp2_with (first|(go_at_call 27;(with_reducible refine(HH.out _ HB.out).mono ?_);rintro e w1 ⟨rfl,hb⟩;replace HC:=hid (HC.out.next hb);replace HG:=hid (kB hb HG.out);replace HB:=hid (below_out HB.out hb);clear hb q0 q1 q2 z0 f0;have q0:=HC.out.a0;have q1:=HC.out.a1;have q2:=HC.out.a2;rw [HEh.out] at q0;rw [HEp.out] at q1;have z0:=cell0 HG.out;have f0:=frozen_of_row _ w.heap.size 0 _ _ HG.out)|(go_at_call 28;(with_reducible refine(HP.out _ HB.out).mono ?_);rintro e w1 ⟨rfl,hb⟩;replace HC:=hid (HC.out.next hb);replace HG:=hid (kB hb HG.out);replace HB:=hid (below_out HB.out hb);clear hb q0 q1 q2 z0 f0;have q0:=HC.out.a0;have q1:=HC.out.a1;have q2:=HC.out.a2;rw [HEh.out] at q0;rw [HEp.out] at q1;have z0:=cell0 HG.out;have f0:=frozen_of_row _ w.heap.size 0 _ _ HG.out)|(go_at_call 17;(with_reducible refine(HM.out _ HB.out).mono ?_);rintro e w1 ⟨rfl,hb⟩;replace HC:=hid (HC.out.next hb);replace HG:=hid (kB hb HG.out);replace HB:=hid (below_out HB.out hb);clear hb q0 q1 q2 z0 f0;have q0:=HC.out.a0;have q1:=HC.out.a1;have q2:=HC.out.a2;rw [HEh.out] at q0;rw [HEp.out] at q1;have z0:=cell0 HG.out;have f0:=frozen_of_row _ w.heap.size 0 _ _ HG.out));refine bodyPost_ret (results_rt rfl _ _ w.heap.size _ _ (0,0) rfl (heap_setCell_same _ _ _ _ _ _ HG.out) rfl) rfl ?_;exact⟨HV.out,below_set1 HB.out (Nat.le_refl _) HG.out _⟩
      · have hbf:((b:Int)== 0)=false:=by rw [beq_eq_false_iff_ne];omega
        have HV:=hid (show Ending.returned (.tuple #[.agg #[.slice none 0 0],.int .i64 (b:Int)])=Ending.returned (rnewV (l.map RtX.r) (.slice (some ⟨g1,o1,none⟩) n c)) from by rw [rnewV_ne (k:=b) ((HVx.out (by rw [HCk.out,if_neg (by simp),if_pos hb];exact hb)).trans (by rw [HCk.out,if_neg (by simp),if_pos hb])) hb]);go_wp2_with (first|(go_at_call 27;(with_reducible refine(HH.out _ HB.out).mono ?_);rintro e w1 ⟨rfl,hb⟩;replace HC:=hid (HC.out.next hb);replace HG:=hid (kB hb HG.out);replace HB:=hid (below_out HB.out hb);clear hb q0 q1 q2 z0 f0;have q0:=HC.out.a0;have q1:=HC.out.a1;have q2:=HC.out.a2;rw [HEh.out] at q0;rw [HEp.out] at q1;have z0:=cell0 HG.out;have f0:=frozen_of_row _ w.heap.size 0 _ _ HG.out)|(go_at_call 28;(with_reducible refine(HP.out _ HB.out).mono ?_);rintro e w1 ⟨rfl,hb⟩;replace HC:=hid (HC.out.next hb);replace HG:=hid (kB hb HG.out);replace HB:=hid (below_out HB.out hb);clear hb q0 q1 q2 z0 f0;have q0:=HC.out.a0;have q1:=HC.out.a1;have q2:=HC.out.a2;rw [HEh.out] at q0;rw [HEp.out] at q1;have z0:=cell0 HG.out;have f0:=frozen_of_row _ w.heap.size 0 _ _ HG.out)|(go_at_call 17;(with_reducible refine(HM.out _ HB.out).mono ?_);rintro e w1 ⟨rfl,hb⟩;replace HC:=hid (HC.out.next hb);replace HG:=hid (kB hb HG.out);replace HB:=hid (below_out HB.out hb);clear hb q0 q1 q2 z0 f0;have q0:=HC.out.a0;have q1:=HC.out.a1;have q2:=HC.out.a2;rw [HEh.out] at q0;rw [HEp.out] at q1;have z0:=cell0 HG.out;have f0:=frozen_of_row _ w.heap.size 0 _ _ HG.out));refine bodyPost_ret (results_rt rfl _ _ w.heap.size _ _ (0,0) rfl (heap_setCell_same _ _ _ _ _ _ HG.out) rfl) rfl ?_;exact⟨HV.out,below_set1 HB.out (Nat.le_refl _) HG.out _⟩
    · have haf:((a:Int)== 0)=false:=by rw [beq_eq_false_iff_ne];omega
      have HV:=hid (show Ending.returned (.tuple #[.agg #[.slice none 0 0],.int .i64 (a:Int)])=Ending.returned (rnewV (l.map RtX.r) (.slice (some ⟨g1,o1,none⟩) n c)) from by rw [rnewV_ne (k:=a) ((HVx.out (by rw [HCk.out,if_pos ha];exact ha)).trans (by rw [HCk.out,if_pos ha])) ha]);go_wp2_with (first|(go_at_call 27;(with_reducible refine(HH.out _ HB.out).mono ?_);rintro e w1 ⟨rfl,hb⟩;replace HC:=hid (HC.out.next hb);replace HG:=hid (kB hb HG.out);replace HB:=hid (below_out HB.out hb);clear hb q0 q1 q2 z0 f0;have q0:=HC.out.a0;have q1:=HC.out.a1;have q2:=HC.out.a2;rw [HEh.out] at q0;rw [HEp.out] at q1;have z0:=cell0 HG.out;have f0:=frozen_of_row _ w.heap.size 0 _ _ HG.out)|(go_at_call 28;(with_reducible refine(HP.out _ HB.out).mono ?_);rintro e w1 ⟨rfl,hb⟩;replace HC:=hid (HC.out.next hb);replace HG:=hid (kB hb HG.out);replace HB:=hid (below_out HB.out hb);clear hb q0 q1 q2 z0 f0;have q0:=HC.out.a0;have q1:=HC.out.a1;have q2:=HC.out.a2;rw [HEh.out] at q0;rw [HEp.out] at q1;have z0:=cell0 HG.out;have f0:=frozen_of_row _ w.heap.size 0 _ _ HG.out)|(go_at_call 17;(with_reducible refine(HM.out _ HB.out).mono ?_);rintro e w1 ⟨rfl,hb⟩;replace HC:=hid (HC.out.next hb);replace HG:=hid (kB hb HG.out);replace HB:=hid (below_out HB.out hb);clear hb q0 q1 q2 z0 f0;have q0:=HC.out.a0;have q1:=HC.out.a1;have q2:=HC.out.a2;rw [HEh.out] at q0;rw [HEp.out] at q1;have z0:=cell0 HG.out;have f0:=frozen_of_row _ w.heap.size 0 _ _ HG.out));refine bodyPost_ret (results_rt rfl _ _ w.heap.size _ _ (0,0) rfl (heap_setCell_same _ _ _ _ _ _ HG.out) rfl) rfl ?_;exact⟨HV.out,below_set1 HB.out (Nat.le_refl _) HG.out _⟩
  · exfalso;obtain⟨x,hx,hne⟩:=HX0.out;have he:=HE.out;rw [show i=(l.map RtX.r).length by rw [List.length_map,HN.out];omega,List.take_length] at he;exact hne (he x.r (List.mem_map.2 ⟨x,hx,rfl⟩))
end Go.Proofs.YtlmlljlappjjjaaGreatDoor
