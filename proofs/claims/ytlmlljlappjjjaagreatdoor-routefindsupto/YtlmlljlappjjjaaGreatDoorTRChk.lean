/- Add, by the program. -/
import Derived.Test.YtlmlljlappjjjaaGreatDoorTAddP
namespace Go.Proofs.YtlmlljlappjjjaaGreatDoor
set_option maxRecDepth 20000
set_option maxHeartbeats 16000000
open Go.RowKit Go.Maps
theorem next_any {G:Gt}{M:Nat} (w:World) (x:B) (hxl:x.length≤140737488355328) (k:List Ky) (n:Nat) (hM:M<1000000) (hT:TreeAt w (Fp G) G M) (hk:G.nd k=some n):
  Calls Tryz.prog 104 #[.pointer (some ⟨n,0,none⟩),.agg #[.int .i64 (kindT x:Int),.string (str (segX x))]] w fun e w'=>NextAns w G M (k++ [keyT x]) e w':=by
 by_cases h:kindT x=0
 · exact next_plain w x hxl k n h hM hT hk
 · exact next_link w x k n h hT hk
theorem ent_new {p:B}{S:ByteArray} (hS:str p=S) (w:World) (id:Int) (T:TypeId):EntAt (w.alloc (.cells #[.string S,.int .i64 id] T (0,0))) w.heap.size (p,id):=by
 have hcn:=cells_new w [.string S,.int .i64 id] T;have h0:=hcn 0 _ rfl;have h1:=hcn 1 _ rfl;rw [add_off] at h0 h1;exact⟨by show _=some (Value.string (str p));rw [hS];exact h0,h1⟩
theorem Tr.mono {w:World}{t:Nat}{P:List (B×Int)}{M M':Nat}{G:Gt}{es:List Nat}{v:Value} (h:Tr w t P M G es v) (hM:M≤M'):Tr w t P M' G es v:=⟨h.tree.wide (fun _ h=>h) hM,h.root,h.all,h.row,h.rowno,h.len,h.ent,h.only,h.fine,h.ap⟩
theorem any_keys {w:World}{t:Nat}{P:List (B×Int)}{M:Nat}{G:Gt}{es:List Nat}{v:Value} (h:Tr w t P M G es v) (p:B):P.any (fun q=>decide (keysP q.1=keysP p))=(G.en (keysP p)).isSome:=by
 cases he:G.en (keysP p) with
 |none=>
  rw [List.any_eq_false.2]
  · rfl
  · intro q hq hk;obtain⟨i,hi⟩:=List.getElem?_of_mem hq;have hl:i<es.length:=by rw [h.len];exact(List.getElem?_eq_some_iff.1 hi).1
    have h1:=(h.ent i _ q (List.getElem?_eq_getElem hl) hi).2;rw [of_decide_eq_true hk,he] at h1;cases h1
 |some e=>
  rw [List.any_eq_true.2]
  · rfl
  · obtain⟨i,q,_,hq,hk⟩:=h.only _ e he;exact⟨q,List.mem_of_getElem? hq,decide_eq_true hk⟩
theorem add_any_r {w:World}{t:Nat}{P:List (B×Int)}{M:Nat}{G:Gt}{es:List Nat}{v:Value} (h:Tr w t P M G es v) (hmx:MxAt w) (hM:M+64<1000000) (hP:P.length≤1000000) (p:B) (hp:p.length≤140737488355328) (id:Int):
  Calls Tryz.prog 60 #[.pointer (some ⟨t,0,none⟩),.string (str p),.int .i64 id] w fun e w'=>AddAns_r w t P M G es v p id e w':=by
 have HCk:=hid (check_any p hp w hmx);obtain⟨S,hS⟩:∃ S,str p=S:=⟨_,rfl⟩;cases hc:checkP p with
 |false=>
  have HFin:=hid (show ∀ W,Below w.heap.size w W→AddAns_r w t P M G es v p id (.returned err3) W from fun W hb=>by
   have e1:addE_r P p=3:=by unfold addE_r;rw [hc];rfl
   refine⟨by rw [e1];rfl,G,es,v,?_,Below.kept hb,fun i hi=>.inl hi⟩;rw [show addP_r P p id=P from by unfold addP_r;rw [e1];rfl];exact(h.next hb).mono (Nat.le_add_right _ _))
  rw [hc,if_neg (by decide),hS] at HCk;rw [hS];clear hS hc h hmx;go_enter Tryz.func60,Tryz.ntmps60;go_wp2_with (go_at_call 57;(with_reducible refine HCk.out.mono ?_);rintro e w1 ⟨rfl,hb1⟩;have HB1:=hid hb1;clear hb1);go_ret;exact HFin.out _ HB1.out
 |true=>
  obtain⟨i0,hi0,hz0,hz1,hz2⟩:=info_parts infoE;rw [hc,if_pos rfl,hS] at HCk;have HCl:=hid (fun W:World=>cloneT p W (by omega));have HSg:=hid (fun (W:World) (hm:MxAt W)=>seg_yes hc W hm);rw [hS] at HCl HSg;have HMx:=hid hmx;have HH:=hid h;have HS:=hid hS;have HXl:=hid (show ∀ x∈cutT p.tail,x.length≤140737488355328 from fun x hx=>by
   have h1:=cutT_mem_len hx;rw [List.length_tail] at h1;omega)
  have hX64:(cutT p.tail).length≤64:=by obtain⟨t',e1,h2,_⟩:=check_parts hc;rw [e1];exact h2
  have HKp:=hid (show keysP p=keysT (cutT p.tail) from rfl);obtain⟨X,hX⟩:∃ X,cutT p.tail=X:=⟨_,rfl⟩;rw [hX] at HSg HXl hX64 HKp;have HFinT:=hid (show ∀ W G',GrowT w W G G'→TreeAt W (Fp G') G' (M+64)→(G.en (keysP p)).isSome=true→AddAns_r w t P M G es v p id (.returned (.iface 74 (.int .i64 6))) W from fun W G' hg hT he=>by
   have e1:addE_r P p=6:=by unfold addE_r;rw [hc,if_pos rfl,any_keys h p,he];rfl
   refine⟨by rw [e1];rfl,G',es,v,?_,hg.kept.mono (fun i _ hf=>.inl hf),fun i hi=>ft_grow hg hi⟩;rw [show addP_r P p id=P from by unfold addP_r;rw [e1];rfl];exact h.grow hT hg)
  have HFinA:=hid (show ∀ W G' es' v',Tr W t (P++ [(p,id)]) (M+64) G' es' v'→Kept (Ft_r G es v) w W→(∀ i,Ft_r G' es' v' i→Ft_r G es v i∨w.heap.size≤i)→(G.en (keysP p))=none→AddAns_r w t P M G es v p id (.returned .nilIface) W from fun W G' es' v' hT hk hf he=>by
   have e1:addE_r P p=0:=by unfold addE_r;rw [hc,if_pos rfl,any_keys h p,he];rfl
   refine⟨by rw [e1];rfl,G',es',v',?_,hk,hf⟩;rw [show addP_r P p id=P++ [(p,id)] from by unfold addP_r;rw [e1,if_pos rfl]];exact hT)
  rw [hS];have HC:=hid hc;clear hS hc h hmx hX;go_enter Tryz.func60,Tryz.ntmps60;go_wp2_with (first|(go_at_call 57;(with_reducible refine HCk.out.mono ?_);rintro e w1 ⟨rfl,hb1⟩;have HB1:=hid hb1;clear hb1)|(go_at_call 58;(with_reducible refine(HCl.out _).mono ?_);rintro e w2 ⟨rfl,hb2⟩;have HB2:=hid (below_out HB1.out hb2);have HB3:=hid (below_out HB2.out (below_new w2 (.cells #[.string S,.int .i64 id] 165 (0,0))));have HE3:=hid (ent_new HS.out w2 id 165);clear hb2)|(go_at_call 97;(with_reducible refine(HSg.out _ (HMx.out.next HB3.out)).mono ?_);rintro e w4 ⟨hb4,q4,n,c4,rfl,ho4,hn4⟩;have HN4:=hid hn4;have HG4:=hid ho4;have HB4:=hid (below_out HB3.out hb4);have HE4:=hid (HE3.out.keep (hb4.block _ HE3.out.lt));rw [hn4] at hX64;clear hb4 ho4 hn4));obtain⟨be,hbe⟩:∃ be,w2.heap.size=be:=⟨_,rfl⟩;have hbew:w.heap.size≤be:=by rw [←hbe];exact HB2.out.size
  rw [hbe] at HE4 ⊢;have HRow:=hid (show ∀ W,Kept (Fp G) w4 W→SgAt W q4 X from fun W hk=>OwnG.sg (HG4.out.keepB (fun g e=>hk.block g (HG4.out.lt e) (fun hf=>by
   have h1:=HH.out.tree.fp_lt hf;have h2:=own_ge HG4.out e;have h3:=HB3.out.size;omega))))
  have HTr4:=hid (HH.out.next HB4.out);go_loopg [11,40] (n+1) (fun gk s11 s40 wr=>∃ (i ni:Nat) (Gi:Gt),i≤n∧gk=n-i+1∧s40= .int .i64 (i:Int)∧s11= .pointer (some ⟨ni,0,none⟩)∧TreeAt wr (Fp Gi) Gi (M+i)∧Gi.nd (keysT (X.take i))=some ni∧GrowT w4 wr G Gi)
  case atStart=>exact⟨0,t,G,by omega,rfl,rfl,rfl,HTr4.out.tree,HTr4.out.root,GrowT.refl _ _⟩
  case round=>
   obtain⟨i,ni,Gi,hi,rfl,rfl,rfl,hTi,hni,hgi⟩:=hrel;have HTi:=hid hTi;have HNi:=hid hni;have HGi:=hid hgi;clear hTi hni hgi;by_cases hin:i<n
   · obtain⟨x,hx⟩:∃ x,X[i]?=some x:=⟨_,List.getElem?_eq_getElem (by rw [HN4.out];exact hin)⟩;have HKs:=hid (keys_snoc hx);have hxl:=HXl.out x (List.mem_of_getElem? hx);obtain⟨g1,o1,rfl,q1,q2⟩:=(HRow.out wr HGi.out.kept) i x hx;have HNx:=hid (fun (W:World) (h1:TreeAt W (Fp Gi) Gi (M+i))=>next_any W x hxl _ ni (by omega) h1 HNi.out);obtain⟨T,hT⟩:∃ T,str (segX x)=T:=⟨_,rfl⟩;obtain⟨K,hK⟩:∃ K:Int,(kindT x:Int)=K:=⟨_,rfl⟩;rw [hT,hK] at HNx;rw [hT] at q2;rw [hK] at q1;have HTb:=hid (HTi.out.next (below_new wr (.cells #[.int .i64 K,.string T] 174 (0,0))));clear hx hT hK hxl;go_wp2_with (go_at_call 104;(with_reducible refine(HNx.out _ HTb.out).mono ?_);rintro e w5 ⟨c5,G5,rfl,hT5,hn5,hg5⟩;have HT5:=hid hT5;have HN5:=hid hn5;have HG5:=hid (HGi.out.trans (GrowT.ahead (below_new wr _) hg5));clear hT5 hn5 hg5);go_roundg (n-(i+1)+1)
     case measure=>omega
     case rel=>exact⟨i+1,c5,G5,by omega,rfl,by push_cast;go_num,rfl,HT5.out,by rw [HKs.out];exact HN5.out,HG5.out⟩
   · obtain rfl:n=i:=by omega
     have HKn:=hid (show keysT (X.take n)=keysP p from by rw [List.take_of_length_le (by rw [HN4.out];exact Nat.le_refl _)];exact HKp.out.symm);rw [HKn.out] at HNi;have hnode:=(HTi.out.node _ ni HNi.out).2;have qe:=hnode.c3;rw [HGi.out.en] at qe;cases hen:G.en (keysP p) with
     |some e0=>
      rw [hen,ptrN_some] at qe;have HEn:=hid hen;clear hnode hen;go_wp2;go_ret;exact HFinT.out _ Gi (GrowT.ahead HB4.out HGi.out) (HTi.out.wide (fun _ h=>h) (by omega)) (by rw [HEn.out];rfl)
     |none=>
      rw [hen,ptrN_none] at qe;have HEn:=hid hen;have HTn:=hid (HTr4.out.grow HTi.out HGi.out);have qf:=hnode.fz 3;have HEb:=hid (HE4.out.keep (HGi.out.kept.block be HE4.out.lt (fun hf=>by have h1:=HH.out.tree.fp_lt hf;omega)));have hrb:v.ownBlock≠some be:=fun e1=>by have h1:=HH.out.row.lt e1;omega
      have hsA:=(kept_set wr ni 3 (ptrN (some be))).size;obtain⟨WA,hWA⟩:∃ WA,wr.setCell ⟨ni,3,none⟩ (.pointer (some ⟨be,0,none⟩))=WA:=⟨_,rfl⟩;have hWA2:WA=wr.setCell ⟨ni,3,none⟩ (ptrN (some be)):=hWA.symm;have HWA2:=hid hWA2;have HRowA:=hid (show OwnE WA 0 v es from by rw [hWA2];exact HTn.out.row.set (fun e1=>(HTn.out.rowno ni e1).1 (.inl ⟨_,HNi.out⟩)));have HallA:=hid (show WA.cell? ⟨t,4,none⟩=some v from by rw [hWA2];exact cell4_set (by decide) HTn.out.all);have HRtA:=hid (show ∃ cs T,WA.heap[t]?=some (.cells cs T (0,0)) from by
       have hb:=(HTn.out.tree.node _ t HTn.out.root).2.bk;by_cases e1:t=ni
       · rw [hWA2,e1];rw [e1] at hb;exact bk_set hb
       · obtain⟨cs,T,hb⟩:=hb;exact⟨cs,T,by rw [hWA2,RowKit.Below.heap_setCell wr ⟨ni,3,none⟩ _ t e1];exact hb⟩)
      have htv:v.ownBlock≠some t:=fun e1=>(HTn.out.rowno t e1).1 (.inl ⟨_,HTn.out.root⟩)
      obtain⟨pv,m5,cv,rfl⟩:=own_slice3 HRowA.out;obtain rfl:m5=es.length:=row_len HRowA.out;have hLe:es.length≤1000000:=by rw [HH.out.len];exact hP
      have HLe0:=hid (show es.length=es.length from rfl);obtain⟨m5,hm5⟩:∃ m5,es.length=m5:=⟨_,rfl⟩;have HLe:=hid hm5;rw [hm5] at hLe;rw [hm5] at HRowA HallA;have qA:=HallA.out;have HRow5:=hid (show (WA.alloc (.cells #[.pointer (some ⟨be,0,none⟩)] 163 (0,0))).ownsRow 0 163 1 (.slice pv m5 cv) m5 (es.flatMap ptrF) from by have h9:=HRowA.out.alloc (.cells #[.pointer (some ⟨be,0,none⟩)] 163 (0,0));unfold OwnR_r at h9;rw [hm5] at h9;exact h9);have HRt:=hid (show ∀ W2,(WA.alloc (.cells #[.pointer (some ⟨be,0,none⟩)] 163 (0,0))).grownBy W2 (Value.slice pv m5 cv).ownBlock→∃ cs T,W2.heap[t]?=some (.cells cs T (0,0)) from fun W2 hg=>by
       obtain⟨cs,T,hb⟩:=HRtA.out;have hl:=lt_of_heap hb;refine⟨cs,T,((hg.block t (by simp;omega) (fun e1=>?_)).trans ((below_new WA _).block t hl)).trans hb⟩;rw [←hm5] at e1;exact htv e1.symm)
      have HRv:=hid (show ∀ W2,(WA.alloc (.cells #[.pointer (some ⟨be,0,none⟩)] 163 (0,0))).grownBy W2 (Value.slice pv m5 cv).ownBlock→W2.cell? ⟨t,4,none⟩=some (.slice pv m5 cv) from fun W2 hg=>by
       have hl:=lt_of_cell HallA.out;refine cell_same HallA.out ((hg.block t (by simp;omega) (fun e1=>?_)).trans ((below_new WA _).block t hl));rw [←hm5] at e1;exact htv e1.symm)
      have hwn:keysT (X.take n)=keysP p:=HKn.out;clear hnode hen hWA2;go_wp2_with (at_builtin;refine wpList_append_own_at _ rfl (.tmp 62) (.tmp 64) 170 rfl 0 163 i0 _ 1 8 Tryz.underlying170 hi0 hz0 hz1 hz2 rfl (by decide) (.slice pv m5 cv) m5 (es.flatMap ptrF) (by go_simp) HRow5.out ⟨WA.heap.size,0,none⟩ 1 1 [.pointer (some ⟨be,0,none⟩)] (by go_simp) rfl (cells_new WA _ _) (by simp [Value.oneCell']) (by unfold maxLen;omega) (by omega) (Nat.zero_le _) ?_;intro v' W2 hown hgr _ hvv;obtain⟨p7,L7,c7,rfl⟩:=own_slice3 hown;have HOw:=hid (show OwnE W2 0 (.slice p7 L7 c7) (es++ [be]) from OwnR_r.put HLe.out hown);have HGr:=hid hgr;have HVv:=hid hvv;have qt1:W2.frozen? ⟨t,4,none⟩=false:=(by obtain⟨cs9,T9,hb9⟩:=HRt.out W2 hgr;exact frozen_of_row W2 t 4 cs9 T9 hb9);have qt2:=HRv.out W2 hgr;clear hown hgr hvv);go_ret;subst hm5;have hfin:=HTn.out.added HNi.out (by rw [HGi.out.en];exact HEn.out) HC.out HEb.out hrb HWA2.out HOw.out HGr.out HVv.out rfl;obtain⟨hf1,hf2⟩:=hfin;refine HFinA.out _ _ _ _ (hf1.mono (by omega)) ?_ ?_ HEn.out
      · have k1:Kept (Ft_r G es (.slice pv es.length cv)) w wr:=(Below.kept HB4.out).trans HGi.out.kept (fun i _ hf=>.inl hf);exact k1.trans hf2 (fun i hi hf=>(ft_grow HGi.out hf).elim (fun h=>h) (fun e1=>by have:=HB4.out.size;omega))
      · intro i hi9;have hwa:WA.heap.size=wr.heap.size:=by rw [HWA2.out];simp [World.setCell]
        have hgs:=HGi.out.kept.size;have hbs:=HB4.out.size;rcases ft_added HVv.out hi9 with h1|h1|h1
        · exact(ft_grow HGi.out h1).elim .inl (fun e1=>.inr (by omega))
        · right;rw [h1];simp;omega
        · right;omega
open Go.RowKit
def RChkAns (p:B) (w:World) (e:Ending) (w':World):Prop:=e= .returned (.int .i64 (if checkP p then 0 else 3))∧Below w.heap.size w w'
theorem rchk_no {p:B}{w w':World}{e:Ending} (h:checkP p=false) (he:e= .returned (.int .i64 3)) (hb:Below w.heap.size w w'):RChkAns p w e w':=⟨by rw [h];exact he,hb⟩
theorem rchk_yes {p:B}{w w':World}{e:Ending} (h:checkP p=true) (he:e= .returned (.int .i64 0)) (hb:Below w.heap.size w w'):RChkAns p w e w':=⟨by rw [h];exact he,hb⟩
theorem rsplit_none {p:B} (hp:p.length≤4398046511104) (hb:begB 47 p=false) (w:World):Calls Tryz.prog 53 #[.string (str p)] w fun e w'=>e= .returned (.tuple #[.slice none 0 0,.bool false])∧w'=w:=by
 cases p with
 |nil=>exact rsplit_nil w
 |cons c t=>exact rsplit_not c t (by simpa [begB] using hb) (by simp at hp;omega) w
theorem rcheck_any_r (p:B) (hp:p.length≤4398046511104) (w:World):Calls Tryz.prog 28 #[.string (str p)] w fun e w'=>RChkAns p w e w':=by
 obtain⟨j0,hj0,hy0,hy1,hy2⟩:=info_parts infoS;cases hbg:begB 47 p with
 |false=>
  have HC:=hid (check_beg hbg);have HSp:=hid (fun W:World=>rsplit_none hp hbg W);obtain⟨S,hS⟩:∃ S,str p=S:=⟨_,rfl⟩;rw [hS] at HSp ⊢;clear hS hbg;go_enter Tryz.func28,Tryz.ntmps28;go_wp2_with (go_at_call 53;(with_reducible refine(HSp.out _).mono ?_);rintro e w1 ⟨rfl,hw1⟩;subst w1);go_ret;exact rchk_no HC.out rfl (Below.refl _ _)
 |true=>
  obtain⟨t,rfl⟩:=beg_cons hbg;have HCk:=hid (check_cons t);obtain⟨N,hN⟩:∃ N,(47::t:B).length=N:=⟨_,rfl⟩;have hN1:t.length+1=N:=by rw [←hN];rfl
  rw [hN] at HCk hp;obtain⟨S,hS⟩:∃ S,str (47::t)=S:=⟨_,rfl⟩;have hSn:S.size=N:=by rw [←hS,str_size,hN]
  have HSp:=hid (fun W:World=>rsplit_yes t (by omega) W);rw [hS] at HSp ⊢;have HXl:=hid (show ∀ x∈cutT t,x.length≤4398046511104 from fun x h=>Nat.le_trans (cutT_mem_len h) (by omega));have hlen:=cutT_len t;obtain⟨X,hX⟩:∃ X,cutT t=X:=⟨_,rfl⟩;rw [hX] at HSp HXl hlen HCk;obtain⟨n,hn⟩:∃ n,X.length=n:=⟨_,rfl⟩;have HN:=hid hn;rw [hn] at HSp hlen HCk;have hn9:n≤4398046511105:=by omega
  clear hS hX hn hbg hN hN1;by_cases h256:N≤256
  · have h256':¬(256:Int)<(N:Int):=by omega
    have h256d:decide ((256:Int)<(N:Int))=false:=decide_eq_false h256';rw [decide_eq_true h256,Bool.true_and] at HCk;by_cases h64:n≤64
    · rw [decide_eq_true h64,Bool.true_and] at HCk;have h64':¬(64:Int)<(n:Int):=by omega
      go_enter Tryz.func28,Tryz.ntmps28;go_wp2_with (go_at_call 53;(with_reducible refine(HSp.out _).mono ?_);rintro e w1 ⟨p1,c1,rfl,ho,hb⟩;have HT1:=hid ho.tx;have HB1:=hid hb;clear ho hb HSp);go_loopg [5,6] (n+1) (fun gk s5 s6 wr=>∃ (i m6 c6:Nat) (p6:Option Addr) (names:List B),i≤n∧gk=n-i+1∧s6= .int .i64 (i:Int)∧s5= .slice p6 m6 c6∧names.length=m6∧m6≤i∧OwnR_r 9 1 (fun t:B=>[.string (str t)]) wr w1.heap.size (.slice p6 m6 c6) names∧okSegs visU tokT [] X=okSegs visU tokT names (X.drop i)∧Below w1.heap.size w1 wr)
      case atStart=>exact⟨0,0,0,none,[],by omega,rfl,rfl,rfl,rfl,by omega,OwnR_r.nil _ _,rfl,Below.refl _ _⟩
      case round=>
       obtain⟨i,m6,c6,p6,names,hi,rfl,rfl,rfl,hl6,hm6,hO6,hok,hb⟩:=hrel;have HOk:=hid (HCk.out.trans hok);have HB:=hid hb;have HO6:=hid hO6;have HL6:=hid hl6;clear hok hb hO6 hl6;by_cases hin:i<n
       · obtain⟨x,hx⟩:∃ x,X[i]?=some x:=⟨_,List.getElem?_eq_getElem (by rw [HN.out];exact hin)⟩;have hle:=HXl.out x (List.mem_of_getElem? hx);have HD:=hid (drop_at hx);rw [HD.out] at HOk;have HKa:=hid (fun W:World=>rkind_any x hle W);have HDn:=hid (show decide (X.drop (i+1)= [])=decide (i+1=n) from by
          rw [Bool.eq_iff_iff,decide_eq_true_eq,decide_eq_true_eq,List.drop_eq_nil_iff,HN.out];omega)
         obtain⟨g1,o1,rfl,q1⟩:=(HT1.out.next HB.out) i x hx;have hk2:=kindT_le x;obtain⟨Sx,hSx⟩:∃ S,str x=S:=⟨_,rfl⟩;obtain⟨xl,hxl⟩:∃ xl,x.length=xl:=⟨_,rfl⟩;have hSxn:Sx.size=xl:=by rw [←hSx,str_size,hxl]
         rw [hxl] at hle;rw [hSx] at HKa q1;by_cases h0:kindT x=0
         · rw [h0] at HKa;have HRs:=hid (show okS x=x.all visU from by unfold okS;rw [if_pos h0]);rw [ok_step0 h0] at HOk;rw [HRs.out] at HOk;have HByte:=hid (show ∀ (k:Nat) (h:k<x.length) (h2:k<Sx.size),Sx[k]'h2=x[k]'h from fun k h h2=>by subst hSx;rfl);have HXL:=hid hxl;clear hx hSx hxl hk2 h0;go_wp2_with (go_at_call 62;((with_reducible refine(HKa.out _).mono ?_);rintro e w2 ⟨rfl,hw2⟩;subst w2));go_loopg [7] (xl+1) (fun gk s7 wv=>∃ k:Nat,k≤xl∧gk=xl-k+1∧s7= .int .i64 (k:Int)∧(x.take k).all visU=true∧wv=wr)
           case atStart=>exact⟨0,by omega,rfl,rfl,rfl,rfl⟩
           case round=>
            obtain⟨k,hk,rfl,rfl,hall,hwv⟩:=hrel
            rename World=>wv
            subst hwv;by_cases hlt:k<xl
            · have h3:k<x.length:=by rw [HXL.out];exact hlt
              obtain⟨y,hy⟩:∃ y,x[k]=y:=⟨_,rfl⟩;obtain⟨Y,hY⟩:∃ Y:Nat,y.toNat=Y:=⟨_,rfl⟩;have hY256:Y<256:=by rw [←hY];exact y.toNat_lt
              have hbyte:∀ h:k<Sx.size,(Sx[k]'h).toNat=Y:=fun h=>by rw [HByte.out k h3 h,hy,hY]
              have hvy:visU y=visB (Y:Int):=by unfold visU;rw [hY]
              have HT:=hid (show (x.take (k+1)).all visU=(visB (Y:Int)) from by rw [List.take_succ_eq_append_getElem h3,List.all_append,hall,hy];simp [hvy]);have HF:=hid (show visB (Y:Int)=false→x.all visU=false from fun h=>vis_stop h3 (by rw [hy,hvy];exact h));clear hy hY hall hvy;cases hv:visB (Y:Int) with
              |true=>
               go_wp2_with (go_at_call 63;refine(rvisible_any _ _ (by omega) (by omega)).mono ?_;rintro e w' ⟨rfl,hw'⟩;subst hw');go_roundg (xl-(k+1)+1)
               case measure=>omega
               case rel=>exact⟨k+1,by omega,rfl,by push_cast;go_num,by rw [HT.out,hv],rfl⟩
              |false=>
               have HC:=hid (show checkP (47::t)=false from by rw [HOk.out,HF.out hv];rfl);go_wp2_with (go_at_call 63;refine(rvisible_any _ _ (by omega) (by omega)).mono ?_;rintro e w' ⟨rfl,hw'⟩;subst hw');go_ret;exact rchk_no HC.out rfl (below_out HB1.out HB.out)
            · obtain rfl:xl=k:=by omega
              have HR:=hid (show okSegs visU tokT [] X=okSegs visU tokT names (X.drop (i+1)) from by
               rw [←HCk.out,HOk.out];rw [List.take_of_length_le (by rw [HXL.out];exact Nat.le_refl _)] at hall;rw [hall,Bool.true_and])
              clear hall;go_wp2;go_roundg (n-(i+1)+1)
              case measure=>omega
              case rel=>exact⟨i+1,m6,c6,p6,names,by omega,rfl,by push_cast;go_num,rfl,HL6.out,by omega,HO6.out,HR.out,HB.out⟩
         · have hne:x≠ []:=fun e=>h0 (by rw [e];rfl)
           have h1x:1≤xl:=by
            rw [←hxl];cases x with
            |nil=>exact absurd rfl hne
            |cons _ _=>simp
           have he1:Sx.extract 1 xl=str x.tail:=by rw [←hSx,ext_drop x 1 xl hxl,List.drop_one]
           have HTk:=hid (fun W:World=>ristoken_any (str x.tail) W (by rw [str_size,List.length_tail,hxl];unfold maxLen;omega));obtain⟨T,hT⟩:∃ T,str x.tail=T:=⟨_,rfl⟩;have HTe:=hid hT;have HXs:=hid (show [Value.string (str x.tail)]= [.string T] from by rw [hT]);rw [hT] at HTk he1;rw [ok_step1 h0] at HOk;have HSk:=hid (show okS x=isTok T from by unfold okS;rw [if_neg h0];unfold tokT;rw [hT]);rw [HSk.out] at HOk;obtain⟨K,hK⟩:∃ K:Int,(kindT x:Int)=K:=⟨_,rfl⟩;have hK0:¬K=0:=by rw [←hK];omega
           have hK1:(K== 0)=false:=by simpa using hK0
           rw [hK] at HKa;cases htk:isTok T with
           |false=>
            rw [htk] at HTk HOk;have HC:=hid (show checkP (47::t)=false from HOk.out);clear hx hSx hxl hk2 h0 hne hT hK htk;go_wp2_with (first|(go_at_call 62;((with_reducible refine(HKa.out _).mono ?_);rintro e w2 ⟨rfl,hw2⟩;subst w2))|(go_at_call 42;((with_reducible refine(HTk.out _).mono ?_);rintro e w3 ⟨rfl,hw3⟩;subst w3)));go_ret;exact rchk_no HC.out rfl (below_out HB1.out HB.out)
           |true=>
            rw [htk] at HTk HOk;by_cases hbad:kindT x=2∧¬i+1=n
            · obtain rfl:(2:Int)=K:=by rw [←hK,hbad.1];rfl
              have hlt:i<n-1:=by omega
              have HC:=hid (show checkP (47::t)=false from by
               rw [HOk.out,HDn.out,hbad.1,decide_eq_false hbad.2];simp)
              clear hx hSx hxl hk2 h0 hne hT hK htk hbad;go_wp2_with (first|(go_at_call 62;((with_reducible refine(HKa.out _).mono ?_);rintro e w2 ⟨rfl,hw2⟩;subst w2))|(go_at_call 42;((with_reducible refine(HTk.out _).mono ?_);rintro e w3 ⟨rfl,hw3⟩;subst w3)));go_ret;exact rchk_no HC.out rfl (below_out HB1.out HB.out)
            · have HG:=hid (show (decide (kindT x≠2) || decide (X.drop (i+1)= []))=true from by
               rw [HDn.out,Bool.or_eq_true,decide_eq_true_eq,decide_eq_true_eq];omega)
              rw [HG.out] at HOk;simp only [Bool.true_and,Bool.and_true] at HOk;have hnot:¬(K=2∧i<n-1):=by rw [←hK];omega
              clear hx hSx hxl hk2 h0 hne hT hK htk hbad;by_cases hK2:K=2
              · have hlt:¬i<n-1:=fun h=>hnot ⟨hK2,h⟩
                subst hK2;go_wp2_with (first|(go_at_call 62;((with_reducible refine(HKa.out _).mono ?_);rintro e w2 ⟨rfl,hw2⟩;subst w2))|(go_at_call 42;((with_reducible refine(HTk.out _).mono ?_);rintro e w3 ⟨rfl,hw3⟩;subst w3)));go_loopg [9] (m6+1) (fun gk s9 wv=>∃ k:Nat,k≤m6∧gk=m6-k+1∧s9= .int .i64 (k:Int)∧(names.take k).contains x.tail=false∧wv=wr)
                case atStart=>exact⟨0,by omega,rfl,rfl,rfl,rfl⟩
                case round=>
                 obtain⟨k,hk,rfl,rfl,hno,hwv⟩:=hrel
                 rename World=>wv
                 subst hwv;have HNo:=hid hno;clear hno;by_cases hkm:k<m6
                 · obtain⟨a,ha⟩:∃ a,names[k]?=some a:=⟨_,List.getElem?_eq_getElem (by rw [HL6.out];exact hkm)⟩;obtain⟨g2,o2,rfl,q2⟩:=(ownR_S_r HO6.out).tx k a ha;obtain⟨Sa,hSa⟩:∃ S,str a=S:=⟨_,rfl⟩;rw [hSa] at q2;by_cases hab:a=x.tail
                   · obtain rfl:Sa=T:=by rw [←hSa,←HTe.out,hab]
                     have HC:=hid (show checkP (47::t)=false from by
                      rw [HOk.out];have:names.contains x.tail=true:=by rw [List.contains_iff_mem,←hab];exact List.mem_of_getElem? ha
                      rw [this];rfl)
                     clear ha hSa hab;go_wp2;go_ret;exact rchk_no HC.out rfl (below_out HB1.out HB.out)
                   · have hS:¬Sa=T:=fun h=>hab (str_inj (by rw [hSa,HTe.out,h]))
                     have hS4:(Sa.toList== T.toList)=false:=ne_list hS;have HR:=hid (show (names.take (k+1)).contains x.tail=false from by
                      rw [List.take_add_one,ha];have h1:=HNo.out;rw [List.contains_eq_mem,decide_eq_false_iff_not] at h1 ⊢;simp;exact⟨h1,fun e=>hab e.symm⟩)
                     clear ha hSa hab;go_wp2;go_roundg (m6-(k+1)+1)
                     case measure=>omega
                     case rel=>exact⟨k+1,by omega,rfl,by push_cast;go_num,HR.out,rfl⟩
                 · obtain rfl:m6=k:=by omega
                   have HOk2:=hid (show checkP (47::t)=okSegs visU tokT (names++ [x.tail]) (X.drop (i+1)) from by
                    rw [HOk.out];have h1:=HNo.out;rw [List.take_of_length_le (by rw [HL6.out];exact Nat.le_refl _)] at h1;rw [h1];rfl)
                   go_wp2_with (at_builtin;refine wpList_append_own_at _ rfl (.tmp 91) (.tmp 93) 36 rfl w1.heap.size 9 j0 _ 1 16 Tryz.underlying36 hj0 hy0 hy1 hy2 rfl (by decide) (.slice p6 m6 c6) m6 (names.flatMap fun t:B=>[.string (str t)]) (by go_simp) (by have h8:=HO6.out.alloc (.cells #[.string T] 9 (0,0));unfold OwnR_r at h8;rw [HL6.out] at h8;exact h8) ⟨wv.heap.size,0,none⟩ 1 1 [.string T] (by go_simp) rfl (cells_new wv _ _) (by simp [Value.oneCell']) (by unfold maxLen;omega) (by omega) (by have h1:=HB.out.size;simp;omega) ?_;intro v6 wt hown hgr _ _;obtain⟨p7,L7,c7,rfl⟩:=own_slice3 hown;have HT7:=hid (show OwnR_r 9 1 (fun t:B=>[.string (str t)]) wt w1.heap.size (.slice p7 L7 c7) (names++ [x.tail]) from OwnR_r.put HL6.out (by rw [HXs.out];exact hown));have HBt:=hid (show Below w1.heap.size w1 wt from(HB.out.trans ((below_new wv _).mono HB.out.size)).trans ((HO6.out.alloc _).below (by have h1:=HB.out.size;simp;omega) hgr));obtain⟨hL7,_⟩:L7=m6+1∧True:=⟨row_len hown,trivial⟩;subst hL7;clear hown hgr);go_roundg (n-(i+1)+1)
                   case measure=>omega
                   case rel=>exact⟨i+1,m6+1,c7,p7,names++ [x.tail],by omega,rfl,by push_cast;go_num,rfl,by rw [List.length_append,HL6.out];rfl,by omega,HT7.out,HCk.out.symm.trans HOk2.out,HBt.out⟩
              · have hK3:(K== 2)=false:=by simpa using hK2
                go_wp2_with (first|(go_at_call 62;((with_reducible refine(HKa.out _).mono ?_);rintro e w2 ⟨rfl,hw2⟩;subst w2))|(go_at_call 42;((with_reducible refine(HTk.out _).mono ?_);rintro e w3 ⟨rfl,hw3⟩;subst w3)));go_loopg [9] (m6+1) (fun gk s9 wv=>∃ k:Nat,k≤m6∧gk=m6-k+1∧s9= .int .i64 (k:Int)∧(names.take k).contains x.tail=false∧wv=wr)
                case atStart=>exact⟨0,by omega,rfl,rfl,rfl,rfl⟩
                case round=>
                 obtain⟨k,hk,rfl,rfl,hno,hwv⟩:=hrel
                 rename World=>wv
                 subst hwv;have HNo:=hid hno;clear hno;by_cases hkm:k<m6
                 · obtain⟨a,ha⟩:∃ a,names[k]?=some a:=⟨_,List.getElem?_eq_getElem (by rw [HL6.out];exact hkm)⟩;obtain⟨g2,o2,rfl,q2⟩:=(ownR_S_r HO6.out).tx k a ha;obtain⟨Sa,hSa⟩:∃ S,str a=S:=⟨_,rfl⟩;rw [hSa] at q2;by_cases hab:a=x.tail
                   · obtain rfl:Sa=T:=by rw [←hSa,←HTe.out,hab]
                     have HC:=hid (show checkP (47::t)=false from by
                      rw [HOk.out];have:names.contains x.tail=true:=by rw [List.contains_iff_mem,←hab];exact List.mem_of_getElem? ha
                      rw [this];rfl)
                     clear ha hSa hab;go_wp2;go_ret;exact rchk_no HC.out rfl (below_out HB1.out HB.out)
                   · have hS:¬Sa=T:=fun h=>hab (str_inj (by rw [hSa,HTe.out,h]))
                     have hS4:(Sa.toList== T.toList)=false:=ne_list hS;have HR:=hid (show (names.take (k+1)).contains x.tail=false from by
                      rw [List.take_add_one,ha];have h1:=HNo.out;rw [List.contains_eq_mem,decide_eq_false_iff_not] at h1 ⊢;simp;exact⟨h1,fun e=>hab e.symm⟩)
                     clear ha hSa hab;go_wp2;go_roundg (m6-(k+1)+1)
                     case measure=>omega
                     case rel=>exact⟨k+1,by omega,rfl,by push_cast;go_num,HR.out,rfl⟩
                 · obtain rfl:m6=k:=by omega
                   have HOk2:=hid (show checkP (47::t)=okSegs visU tokT (names++ [x.tail]) (X.drop (i+1)) from by
                    rw [HOk.out];have h1:=HNo.out;rw [List.take_of_length_le (by rw [HL6.out];exact Nat.le_refl _)] at h1;rw [h1];rfl)
                   go_wp2_with (at_builtin;refine wpList_append_own_at _ rfl (.tmp 91) (.tmp 93) 36 rfl w1.heap.size 9 j0 _ 1 16 Tryz.underlying36 hj0 hy0 hy1 hy2 rfl (by decide) (.slice p6 m6 c6) m6 (names.flatMap fun t:B=>[.string (str t)]) (by go_simp) (by have h8:=HO6.out.alloc (.cells #[.string T] 9 (0,0));unfold OwnR_r at h8;rw [HL6.out] at h8;exact h8) ⟨wv.heap.size,0,none⟩ 1 1 [.string T] (by go_simp) rfl (cells_new wv _ _) (by simp [Value.oneCell']) (by unfold maxLen;omega) (by omega) (by have h1:=HB.out.size;simp;omega) ?_;intro v6 wt hown hgr _ _;obtain⟨p7,L7,c7,rfl⟩:=own_slice3 hown;have HT7:=hid (show OwnR_r 9 1 (fun t:B=>[.string (str t)]) wt w1.heap.size (.slice p7 L7 c7) (names++ [x.tail]) from OwnR_r.put HL6.out (by rw [HXs.out];exact hown));have HBt:=hid (show Below w1.heap.size w1 wt from(HB.out.trans ((below_new wv _).mono HB.out.size)).trans ((HO6.out.alloc _).below (by have h1:=HB.out.size;simp;omega) hgr));obtain⟨hL7,_⟩:L7=m6+1∧True:=⟨row_len hown,trivial⟩;subst hL7;clear hown hgr);go_roundg (n-(i+1)+1)
                   case measure=>omega
                   case rel=>exact⟨i+1,m6+1,c7,p7,names++ [x.tail],by omega,rfl,by push_cast;go_num,rfl,by rw [List.length_append,HL6.out];rfl,by omega,HT7.out,HCk.out.symm.trans HOk2.out,HBt.out⟩
       · obtain rfl:n=i:=by omega
         have HFin:=hid (show checkP (47::t)=true from by rw [HOk.out,List.drop_of_length_le (by rw [HN.out];exact Nat.le_refl _)];rfl);go_wp2;go_ret;exact rchk_yes HFin.out rfl (below_out HB1.out HB.out)
    · have HC:=hid (show checkP (47::t)=false from by rw [HCk.out,decide_eq_false h64];rfl);have h64':(64:Int)<(n:Int):=by omega
      have h64d:decide ((64:Int)<(n:Int))=true:=decide_eq_true h64';go_enter Tryz.func28,Tryz.ntmps28;go_wp2_with (go_at_call 53;(with_reducible refine(HSp.out _).mono ?_);rintro e w1 ⟨p1,c1,rfl,ho,hb⟩;have HB1:=hid hb;clear ho hb HSp);go_ret;exact rchk_no HC.out rfl HB1.out
  · have HC:=hid (show checkP (47::t)=false from by rw [HCk.out,decide_eq_false h256];rfl);have h256':(256:Int)<(N:Int):=by omega
    have h256d:decide ((256:Int)<(N:Int))=true:=decide_eq_true h256';go_enter Tryz.func28,Tryz.ntmps28;go_wp2_with (go_at_call 53;(with_reducible refine(HSp.out _).mono ?_);rintro e w1 ⟨p1,c1,rfl,ho,hb⟩;have HB1:=hid hb;clear ho hb HSp);go_ret;exact rchk_no HC.out rfl HB1.out
end Go.Proofs.YtlmlljlappjjjaaGreatDoor
