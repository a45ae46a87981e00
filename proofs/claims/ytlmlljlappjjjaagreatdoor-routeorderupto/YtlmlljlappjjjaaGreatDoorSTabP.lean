/- Add, by the program. -/
import Derived.Test.YtlmlljlappjjjaaGreatDoorTAddP
namespace Go.Proofs.YtlmlljlappjjjaaGreatDoor
set_option maxRecDepth 20000
set_option maxHeartbeats 16000000
open Go.RowKit Go.Maps
theorem next_any {G:Gt}{M:Nat} (w:World) (x:B) (hxl:x.length≤140737488355328) (k:List Ky) (n:Nat) (hM:M<1000000) (hT:TreeAt w (Fp G) G M) (hk:G.nd k=some n):
  Calls Tryz.prog 104 #[.pointer (some ⟨n,0,none⟩),.agg #[.int .i64 (kindT x:Int),.string (str (segX x))]] w fun e w'=>NextAns w G M (k++ [keyT x]) e w':=by
 by_cases h:kindT x=0
 · exact next_plain w x hxl k n h hM hT hk
 · exact next_link w x k n h hT hk
theorem ent_new {p:B}{S:ByteArray} (hS:str p=S) (w:World) (id:Int) (T:TypeId):EntAt (w.alloc (.cells #[.string S,.int .i64 id] T (0,0))) w.heap.size (p,id):=by
 have hcn:=cells_new w [.string S,.int .i64 id] T;have h0:=hcn 0 _ rfl;have h1:=hcn 1 _ rfl;rw [add_off] at h0 h1;exact⟨by show _=some (Value.string (str p));rw [hS];exact h0,h1⟩
theorem Tr.mono {w:World}{t:Nat}{P:List (B×Int)}{M M':Nat}{G:Gt}{es:List Nat}{v:Value} (h:Tr w t P M G es v) (hM:M≤M'):Tr w t P M' G es v:=⟨h.tree.wide (fun _ h=>h) hM,h.root,h.all,h.row,h.rowno,h.len,h.ent,h.only,h.fine,h.ap⟩
theorem any_keys {w:World}{t:Nat}{P:List (B×Int)}{M:Nat}{G:Gt}{es:List Nat}{v:Value} (h:Tr w t P M G es v) (p:B):P.any (fun q=>decide (keysP q.1=keysP p))=(G.en (keysP p)).isSome:=by
 cases he:G.en (keysP p) with
 |none=>
  rw [List.any_eq_false.2]
  · rfl
  · intro q hq hk;obtain⟨i,hi⟩:=List.getElem?_of_mem hq;have hl:i<es.length:=by rw [h.len];exact(List.getElem?_eq_some_iff.1 hi).1
    have h1:=(h.ent i _ q (List.getElem?_eq_getElem hl) hi).2;rw [of_decide_eq_true hk,he] at h1;cases h1
 |some e=>
  rw [List.any_eq_true.2]
  · rfl
  · obtain⟨i,q,_,hq,hk⟩:=h.only _ e he;exact⟨q,List.mem_of_getElem? hq,decide_eq_true hk⟩
theorem add_any_r {w:World}{t:Nat}{P:List (B×Int)}{M:Nat}{G:Gt}{es:List Nat}{v:Value} (h:Tr w t P M G es v) (hmx:MxAt w) (hM:M+64<1000000) (hP:P.length≤1000000) (p:B) (hp:p.length≤140737488355328) (id:Int):
  Calls Tryz.prog 60 #[.pointer (some ⟨t,0,none⟩),.string (str p),.int .i64 id] w fun e w'=>AddAns_r w t P M G es v p id e w':=by
 have HCk:=hid (check_any p hp w hmx);obtain⟨S,hS⟩:∃ S,str p=S:=⟨_,rfl⟩;cases hc:checkP p with
 |false=>
  have HFin:=hid (show ∀ W,Below w.heap.size w W→AddAns_r w t P M G es v p id (.returned err3) W from fun W hb=>by
   have e1:addE_r P p=3:=by unfold addE_r;rw [hc];rfl
   refine⟨by rw [e1];rfl,G,es,v,?_,Below.kept hb,fun i hi=>.inl hi⟩;rw [show addP_r P p id=P from by unfold addP_r;rw [e1];rfl];exact(h.next hb).mono (Nat.le_add_right _ _))
  rw [hc,if_neg (by decide),hS] at HCk;rw [hS];clear hS hc h hmx;go_enter Tryz.func60,Tryz.ntmps60;go_wp2_with (go_at_call 57;(with_reducible refine HCk.out.mono ?_);rintro e w1 ⟨rfl,hb1⟩;have HB1:=hid hb1;clear hb1);go_ret;exact HFin.out _ HB1.out
 |true=>
  obtain⟨i0,hi0,hz0,hz1,hz2⟩:=info_parts infoE;rw [hc,if_pos rfl,hS] at HCk;have HCl:=hid (fun W:World=>cloneT p W (by omega));have HSg:=hid (fun (W:World) (hm:MxAt W)=>seg_yes hc W hm);rw [hS] at HCl HSg;have HMx:=hid hmx;have HH:=hid h;have HS:=hid hS;have HXl:=hid (show ∀ x∈cutT p.tail,x.length≤140737488355328 from fun x hx=>by
   have h1:=cutT_mem_len hx;rw [List.length_tail] at h1;omega)
  have hX64:(cutT p.tail).length≤64:=by obtain⟨t',e1,h2,_⟩:=check_parts hc;rw [e1];exact h2
  have HKp:=hid (show keysP p=keysT (cutT p.tail) from rfl);obtain⟨X,hX⟩:∃ X,cutT p.tail=X:=⟨_,rfl⟩;rw [hX] at HSg HXl hX64 HKp;have HFinT:=hid (show ∀ W G',GrowT w W G G'→TreeAt W (Fp G') G' (M+64)→(G.en (keysP p)).isSome=true→AddAns_r w t P M G es v p id (.returned (.iface 74 (.int .i64 6))) W from fun W G' hg hT he=>by
   have e1:addE_r P p=6:=by unfold addE_r;rw [hc,if_pos rfl,any_keys h p,he];rfl
   refine⟨by rw [e1];rfl,G',es,v,?_,hg.kept.mono (fun i _ hf=>.inl hf),fun i hi=>ft_grow hg hi⟩;rw [show addP_r P p id=P from by unfold addP_r;rw [e1];rfl];exact h.grow hT hg)
  have HFinA:=hid (show ∀ W G' es' v',Tr W t (P++ [(p,id)]) (M+64) G' es' v'→Kept (Ft_r G es v) w W→(∀ i,Ft_r G' es' v' i→Ft_r G es v i∨w.heap.size≤i)→(G.en (keysP p))=none→AddAns_r w t P M G es v p id (.returned .nilIface) W from fun W G' es' v' hT hk hf he=>by
   have e1:addE_r P p=0:=by unfold addE_r;rw [hc,if_pos rfl,any_keys h p,he];rfl
   refine⟨by rw [e1];rfl,G',es',v',?_,hk,hf⟩;rw [show addP_r P p id=P++ [(p,id)] from by unfold addP_r;rw [e1,if_pos rfl]];exact hT)
  rw [hS];have HC:=hid hc;clear hS hc h hmx hX;go_enter Tryz.func60,Tryz.ntmps60;go_wp2_with (first|(go_at_call 57;(with_reducible refine HCk.out.mono ?_);rintro e w1 ⟨rfl,hb1⟩;have HB1:=hid hb1;clear hb1)|(go_at_call 58;(with_reducible refine(HCl.out _).mono ?_);rintro e w2 ⟨rfl,hb2⟩;have HB2:=hid (below_out HB1.out hb2);have HB3:=hid (below_out HB2.out (below_new w2 (.cells #[.string S,.int .i64 id] 165 (0,0))));have HE3:=hid (ent_new HS.out w2 id 165);clear hb2)|(go_at_call 97;(with_reducible refine(HSg.out _ (HMx.out.next HB3.out)).mono ?_);rintro e w4 ⟨hb4,q4,n,c4,rfl,ho4,hn4⟩;have HN4:=hid hn4;have HG4:=hid ho4;have HB4:=hid (below_out HB3.out hb4);have HE4:=hid (HE3.out.keep (hb4.block _ HE3.out.lt));rw [hn4] at hX64;clear hb4 ho4 hn4));obtain⟨be,hbe⟩:∃ be,w2.heap.size=be:=⟨_,rfl⟩;have hbew:w.heap.size≤be:=by rw [←hbe];exact HB2.out.size
  rw [hbe] at HE4 ⊢;have HRow:=hid (show ∀ W,Kept (Fp G) w4 W→SgAt W q4 X from fun W hk=>OwnG.sg (HG4.out.keepB (fun g e=>hk.block g (HG4.out.lt e) (fun hf=>by
   have h1:=HH.out.tree.fp_lt hf;have h2:=own_ge HG4.out e;have h3:=HB3.out.size;omega))))
  have HTr4:=hid (HH.out.next HB4.out);go_loopg [11,40] (n+1) (fun gk s11 s40 wr=>∃ (i ni:Nat) (Gi:Gt),i≤n∧gk=n-i+1∧s40= .int .i64 (i:Int)∧s11= .pointer (some ⟨ni,0,none⟩)∧TreeAt wr (Fp Gi) Gi (M+i)∧Gi.nd (keysT (X.take i))=some ni∧GrowT w4 wr G Gi)
  case atStart=>exact⟨0,t,G,by omega,rfl,rfl,rfl,HTr4.out.tree,HTr4.out.root,GrowT.refl _ _⟩
  case round=>
   obtain⟨i,ni,Gi,hi,rfl,rfl,rfl,hTi,hni,hgi⟩:=hrel;have HTi:=hid hTi;have HNi:=hid hni;have HGi:=hid hgi;clear hTi hni hgi;by_cases hin:i<n
   · obtain⟨x,hx⟩:∃ x,X[i]?=some x:=⟨_,List.getElem?_eq_getElem (by rw [HN4.out];exact hin)⟩;have HKs:=hid (keys_snoc hx);have hxl:=HXl.out x (List.mem_of_getElem? hx);obtain⟨g1,o1,rfl,q1,q2⟩:=(HRow.out wr HGi.out.kept) i x hx;have HNx:=hid (fun (W:World) (h1:TreeAt W (Fp Gi) Gi (M+i))=>next_any W x hxl _ ni (by omega) h1 HNi.out);obtain⟨T,hT⟩:∃ T,str (segX x)=T:=⟨_,rfl⟩;obtain⟨K,hK⟩:∃ K:Int,(kindT x:Int)=K:=⟨_,rfl⟩;rw [hT,hK] at HNx;rw [hT] at q2;rw [hK] at q1;have HTb:=hid (HTi.out.next (below_new wr (.cells #[.int .i64 K,.string T] 174 (0,0))));clear hx hT hK hxl;go_wp2_with (go_at_call 104;(with_reducible refine(HNx.out _ HTb.out).mono ?_);rintro e w5 ⟨c5,G5,rfl,hT5,hn5,hg5⟩;have HT5:=hid hT5;have HN5:=hid hn5;have HG5:=hid (HGi.out.trans (GrowT.ahead (below_new wr _) hg5));clear hT5 hn5 hg5);go_roundg (n-(i+1)+1)
     case measure=>omega
     case rel=>exact⟨i+1,c5,G5,by omega,rfl,by push_cast;go_num,rfl,HT5.out,by rw [HKs.out];exact HN5.out,HG5.out⟩
   · obtain rfl:n=i:=by omega
     have HKn:=hid (show keysT (X.take n)=keysP p from by rw [List.take_of_length_le (by rw [HN4.out];exact Nat.le_refl _)];exact HKp.out.symm);rw [HKn.out] at HNi;have hnode:=(HTi.out.node _ ni HNi.out).2;have qe:=hnode.c3;rw [HGi.out.en] at qe;cases hen:G.en (keysP p) with
     |some e0=>
      rw [hen,ptrN_some] at qe;have HEn:=hid hen;clear hnode hen;go_wp2;go_ret;exact HFinT.out _ Gi (GrowT.ahead HB4.out HGi.out) (HTi.out.wide (fun _ h=>h) (by omega)) (by rw [HEn.out];rfl)
     |none=>
      rw [hen,ptrN_none] at qe;have HEn:=hid hen;have HTn:=hid (HTr4.out.grow HTi.out HGi.out);have qf:=hnode.fz 3;have HEb:=hid (HE4.out.keep (HGi.out.kept.block be HE4.out.lt (fun hf=>by have h1:=HH.out.tree.fp_lt hf;omega)));have hrb:v.ownBlock≠some be:=fun e1=>by have h1:=HH.out.row.lt e1;omega
      have hsA:=(kept_set wr ni 3 (ptrN (some be))).size;obtain⟨WA,hWA⟩:∃ WA,wr.setCell ⟨ni,3,none⟩ (.pointer (some ⟨be,0,none⟩))=WA:=⟨_,rfl⟩;have hWA2:WA=wr.setCell ⟨ni,3,none⟩ (ptrN (some be)):=hWA.symm;have HWA2:=hid hWA2;have HRowA:=hid (show OwnE WA 0 v es from by rw [hWA2];exact HTn.out.row.set (fun e1=>(HTn.out.rowno ni e1).1 (.inl ⟨_,HNi.out⟩)));have HallA:=hid (show WA.cell? ⟨t,4,none⟩=some v from by rw [hWA2];exact cell4_set (by decide) HTn.out.all);have HRtA:=hid (show ∃ cs T,WA.heap[t]?=some (.cells cs T (0,0)) from by
       have hb:=(HTn.out.tree.node _ t HTn.out.root).2.bk;by_cases e1:t=ni
       · rw [hWA2,e1];rw [e1] at hb;exact bk_set hb
       · obtain⟨cs,T,hb⟩:=hb;exact⟨cs,T,by rw [hWA2,RowKit.Below.heap_setCell wr ⟨ni,3,none⟩ _ t e1];exact hb⟩)
      have htv:v.ownBlock≠some t:=fun e1=>(HTn.out.rowno t e1).1 (.inl ⟨_,HTn.out.root⟩)
      obtain⟨pv,m5,cv,rfl⟩:=own_slice3 HRowA.out;obtain rfl:m5=es.length:=row_len HRowA.out;have hLe:es.length≤1000000:=by rw [HH.out.len];exact hP
      have HLe0:=hid (show es.length=es.length from rfl);obtain⟨m5,hm5⟩:∃ m5,es.length=m5:=⟨_,rfl⟩;have HLe:=hid hm5;rw [hm5] at hLe;rw [hm5] at HRowA HallA;have qA:=HallA.out;have HRow5:=hid (show (WA.alloc (.cells #[.pointer (some ⟨be,0,none⟩)] 163 (0,0))).ownsRow 0 163 1 (.slice pv m5 cv) m5 (es.flatMap ptrF) from by have h9:=HRowA.out.alloc (.cells #[.pointer (some ⟨be,0,none⟩)] 163 (0,0));unfold OwnR_r at h9;rw [hm5] at h9;exact h9);have HRt:=hid (show ∀ W2,(WA.alloc (.cells #[.pointer (some ⟨be,0,none⟩)] 163 (0,0))).grownBy W2 (Value.slice pv m5 cv).ownBlock→∃ cs T,W2.heap[t]?=some (.cells cs T (0,0)) from fun W2 hg=>by
       obtain⟨cs,T,hb⟩:=HRtA.out;have hl:=lt_of_heap hb;refine⟨cs,T,((hg.block t (by simp;omega) (fun e1=>?_)).trans ((below_new WA _).block t hl)).trans hb⟩;rw [←hm5] at e1;exact htv e1.symm)
      have HRv:=hid (show ∀ W2,(WA.alloc (.cells #[.pointer (some ⟨be,0,none⟩)] 163 (0,0))).grownBy W2 (Value.slice pv m5 cv).ownBlock→W2.cell? ⟨t,4,none⟩=some (.slice pv m5 cv) from fun W2 hg=>by
       have hl:=lt_of_cell HallA.out;refine cell_same HallA.out ((hg.block t (by simp;omega) (fun e1=>?_)).trans ((below_new WA _).block t hl));rw [←hm5] at e1;exact htv e1.symm)
      have hwn:keysT (X.take n)=keysP p:=HKn.out;clear hnode hen hWA2;go_wp2_with (at_builtin;refine wpList_append_own_at _ rfl (.tmp 62) (.tmp 64) 170 rfl 0 163 i0 _ 1 8 Tryz.underlying170 hi0 hz0 hz1 hz2 rfl (by decide) (.slice pv m5 cv) m5 (es.flatMap ptrF) (by go_simp) HRow5.out ⟨WA.heap.size,0,none⟩ 1 1 [.pointer (some ⟨be,0,none⟩)] (by go_simp) rfl (cells_new WA _ _) (by simp [Value.oneCell']) (by unfold maxLen;omega) (by omega) (Nat.zero_le _) ?_;intro v' W2 hown hgr _ hvv;obtain⟨p7,L7,c7,rfl⟩:=own_slice3 hown;have HOw:=hid (show OwnE W2 0 (.slice p7 L7 c7) (es++ [be]) from OwnR_r.put HLe.out hown);have HGr:=hid hgr;have HVv:=hid hvv;have qt1:W2.frozen? ⟨t,4,none⟩=false:=(by obtain⟨cs9,T9,hb9⟩:=HRt.out W2 hgr;exact frozen_of_row W2 t 4 cs9 T9 hb9);have qt2:=HRv.out W2 hgr;clear hown hgr hvv);go_ret;subst hm5;have hfin:=HTn.out.added HNi.out (by rw [HGi.out.en];exact HEn.out) HC.out HEb.out hrb HWA2.out HOw.out HGr.out HVv.out rfl;obtain⟨hf1,hf2⟩:=hfin;refine HFinA.out _ _ _ _ (hf1.mono (by omega)) ?_ ?_ HEn.out
      · have k1:Kept (Ft_r G es (.slice pv es.length cv)) w wr:=(Below.kept HB4.out).trans HGi.out.kept (fun i _ hf=>.inl hf);exact k1.trans hf2 (fun i hi hf=>(ft_grow HGi.out hf).elim (fun h=>h) (fun e1=>by have:=HB4.out.size;omega))
      · intro i hi9;have hwa:WA.heap.size=wr.heap.size:=by rw [HWA2.out];simp [World.setCell]
        have hgs:=HGi.out.kept.size;have hbs:=HB4.out.size;rcases ft_added HVv.out hi9 with h1|h1|h1
        · exact(ft_grow HGi.out h1).elim .inl (fun e1=>.inr (by omega))
        · right;rw [h1];simp;omega
        · right;omega
open Go.RowKit
structure RtC where
 host:B
 path:B
 ms:List B
deriving DecidableEq
def methE (l:List B):Nat:=if l.all tokT then (if decide l.Nodup then 0 else 6) else 3
def takesR (l:List B) (m:B):Bool:=l.isEmpty || l.contains m
def meetR (a b:List B):Bool:=a.isEmpty || b.isEmpty || a.any fun x=>b.contains x
theorem take_snoc_q (l:List B) (i:Nat) (x:B) (h:l[i]?=some x):l.take (i+1)=l.take i++ [x]:=by
 rw [List.take_add_one,h];rfl
theorem methE_bad {l:List B}{i:Nat}{x:B} (hx:l[i]?=some x) (h:tokT x=false):methE l=3:=by
 unfold methE;rw [if_neg];intro h2;rw [List.all_eq_true] at h2;rw [h2 x (List.mem_of_getElem? hx)] at h;cases h
theorem all_to {l:List B}{i:Nat} (h:∀ x∈l.take i,tokT x=true) (hi:i=l.length):l.all tokT=true:=by
 subst hi;rw [List.take_length] at h;rw [List.all_eq_true];exact h
theorem methE_twice {l:List B}{i:Nat}{x:B} (ha:l.all tokT=true) (hx:l[i]?=some x) (h:(l.take i).contains x=true):methE l=6:=by
 unfold methE;rw [if_pos ha,if_neg];intro h2;have h3:=of_decide_eq_true h2;rw [List.contains_iff_mem] at h;have h4:(l.take (i+1)).Nodup:=h3.sublist (List.take_sublist _ _);rw [take_snoc_q l i x hx,List.nodup_append] at h4;exact h4.2.2 x h x (by simp) rfl
theorem methE_ok {l:List B}{i:Nat} (ha:l.all tokT=true) (hi:i=l.length) (h:(l.take i).Nodup):methE l=0:=by
 subst hi;rw [List.take_length] at h;unfold methE;rw [if_pos ha,if_pos (decide_eq_true h)]
theorem nodup_next {l:List B}{i:Nat}{x:B} (h:(l.take i).Nodup) (hx:l[i]?=some x) (hn:(l.take i).contains x=false):(l.take (i+1)).Nodup:=by
 rw [take_snoc_q l i x hx,List.nodup_append];refine⟨h,by simp,fun a ha b hb=>?_⟩;rw [List.mem_singleton.1 hb];intro e;subst e;rw [←List.contains_iff_mem,hn] at ha;cases ha
theorem txt_take {w:World}{p:Option Addr}{l:List B} (h:TxAt w p l) (i:Nat):TxAt w p (l.take i):=by
 intro j t hj;refine h j t ?_;rw [List.getElem?_take] at hj;split at hj
 · exact hj
 · cases hj
theorem pmeth_any (l:List B) (p:Option Addr) (n c:Nat) (hn:l.length=n) (hc:n≤c) (hz:∀ x∈l,x.length≤maxLen) (hnn:n≤140737488355328) (w:World) (hT:TxAt w p l):Calls Tryz.prog 16 #[.slice p n c] w fun e w'=>e= .returned (errOf (methE l))∧w'=w:=by
 have HN:=hid hn;have HT:=hid hT;have HZ:=hid hz;clear hn hT hz;go_enter Tryz.func16,Tryz.ntmps16;go_wp2;go_loopg [9] (n+1) (fun gk s9 wr=>∃ i:Nat,i≤n∧gk=n-i+1∧s9= .int .i64 (i:Int)∧(∀ z∈l.take i,tokT z=true)∧wr=w)
 case atStart=>exact⟨0,by omega,rfl,rfl,by simp,rfl⟩
 case round=>
  obtain⟨i,hi,rfl,rfl,hE,hb⟩:=hrel;subst hb;have HE:=hid hE;clear hE;by_cases hin:i<n
  · have h1:i<l.length:=by rw [HN.out];exact hin
    obtain⟨x,hx⟩:∃ x,l[i]?=some x:=⟨_,List.getElem?_eq_getElem h1⟩;have HX:=hid hx;obtain⟨g1,o1,rfl,q1⟩:=HT.out i x hx;have HTk:=hid (fun W:World=>istoken_any (str x) W (by rw [str_size];exact HZ.out x (List.mem_of_getElem? hx)));obtain⟨b,hb⟩:∃ b,tokT x=b:=⟨_,rfl⟩;have HBt:=hid hb;rw [show isTok (str x)=b from hb] at HTk;clear h1 hx hb;obtain⟨X,hX⟩:∃ X,str x=X:=⟨_,rfl⟩;rw [hX] at q1 HTk;clear hX;cases b with
    |false=>
     have HV:=hid (methE_bad HX.out HBt.out);go_wp2_with (go_at_call 40;(with_reducible refine(HTk.out _).mono ?_);rintro e w1 ⟨rfl,hw1⟩;subst w1);go_ret;exact⟨by rw [HV.out];rfl,rfl⟩
    |true=>
     go_wp2_with (go_at_call 40;(with_reducible refine(HTk.out _).mono ?_);rintro e w1 ⟨rfl,hw1⟩;subst w1);go_roundg (n-(i+1)+1)
     case measure=>omega
     case rel=>
      refine⟨i+1,by omega,by omega,by go_num,?_,rfl⟩;intro z hz;rw [take_snoc_q l i x HX.out,List.mem_append,List.mem_singleton] at hz;rcases hz with hz|hz
      · exact HE.out z hz
      · rw [hz];exact HBt.out
  · have HA:=hid (all_to HE.out (by rw [HN.out];omega));go_wp2;clear hin hi HE;go_loopg [20] (n+1) (fun gk s20 wr2=>∃ i:Nat,i≤n∧gk=n-i+1∧s20= .int .i64 (i:Int)∧(l.take i).Nodup∧wr2=wr)
    case atStart=>exact⟨0,by omega,rfl,rfl,by simp,rfl⟩
    case round=>
     obtain⟨i,hi,rfl,rfl,hE,hb⟩:=hrel;subst hb;have HE:=hid hE;clear hE;by_cases hin:i<n
     · have h1:i<l.length:=by rw [HN.out];exact hin
       obtain⟨x,hx⟩:∃ x,l[i]?=some x:=⟨_,List.getElem?_eq_getElem h1⟩;have HX:=hid hx;obtain⟨g1,o1,rfl,q1⟩:=HT.out i x hx;have HCt:=hid (contains_any (l.take i) (some ⟨g1,o1,none⟩) i c (by rw [List.length_take];omega) (by omega) x _ (txt_take HT.out i));obtain⟨b,hb⟩:∃ b,(l.take i).contains x=b:=⟨_,rfl⟩;have HBt:=hid hb;rw [hb] at HCt;clear h1 hx hb;obtain⟨X,hX⟩:∃ X,str x=X:=⟨_,rfl⟩;rw [hX] at q1 HCt;clear hX;cases b with
       |true=>
        have HV:=hid (methE_twice HA.out HX.out HBt.out);go_wp2_with (go_at_call 41;(with_reducible refine HCt.out.mono ?_);rintro e w1 ⟨rfl,hw1⟩;subst w1);go_ret;exact⟨by rw [HV.out];rfl,rfl⟩
       |false=>
        go_wp2_with (go_at_call 41;(with_reducible refine HCt.out.mono ?_);rintro e w1 ⟨rfl,hw1⟩;subst w1);go_roundg (n-(i+1)+1)
        case measure=>omega
        case rel=>exact⟨i+1,by omega,by omega,by go_num,nodup_next HE.out HX.out HBt.out,rfl⟩
     · have HV:=hid (methE_ok HA.out (show i=l.length by rw [HN.out];omega) HE.out);go_wp2;go_ret;exact⟨by rw [HV.out];rfl,rfl⟩
theorem ptakes_any (l:List B) (p:Option Addr) (n c:Nat) (hn:l.length=n) (hnn:n≤140737488355328) (P:ByteArray) (y:B) (w:World) (hT:TxAt w p l):Calls Tryz.prog 32 #[.agg #[.string P,.slice p n c],.string (str y)] w fun e w'=>e= .returned (.bool (takesR l y))∧Below w.heap.size w w':=by
 have HCt:=hid (fun (W:World) (hb:Below w.heap.size w W)=>contains_any l p n c hn hnn y W (hT.next hb));unfold takesR;obtain⟨v,hv⟩:∃ v,l.contains y=v:=⟨_,rfl⟩;rw [hv] at HCt ⊢;obtain⟨Y,hY⟩:∃ Y,str y=Y:=⟨_,rfl⟩;rw [hY] at HCt ⊢;clear hv hY hT;have HB0:=hid (below_new w (.cells #[.string P,.slice p n c] 91 (0,0)));by_cases h0:n=0
 · subst h0;rw [List.length_eq_zero_iff.1 hn];clear hn;go_enter Tryz.func32,Tryz.ntmps32;go_wp2;go_ret;exact⟨rfl,HB0.out⟩
 · have HV:=hid (show l.isEmpty=false from by cases l with|nil=>exact absurd hn (by simp;omega)|cons x l=>rfl);have hb1:((n:Int)== 0)=false:=by rw [beq_eq_false_iff_ne];omega
   rw [HV.out,Bool.false_or];clear hn;go_enter Tryz.func32,Tryz.ntmps32;go_wp2_with (go_at_call 41;(with_reducible refine(HCt.out _ HB0.out).mono ?_);rintro e w1 ⟨rfl,hw1⟩;subst w1);go_ret;exact⟨rfl,HB0.out⟩
theorem small_small (c:UInt8):smallU (smallU c)=smallU c:=by
 apply UInt8.toNat_inj.1;have h1:=smallU_val (smallU c);have h2:=smallU_val c;rw [h2] at h1;have h3:=c.toNat_lt;have:((smallU (smallU c)).toNat:Int)=((smallU c).toNat:Int):=by
  rw [h1,h2];unfold smallV;by_cases h:65≤(c.toNat:Int)∧(c.toNat:Int)≤90
  · rw [if_pos h,if_neg (by omega)]
  · rw [if_neg h,if_neg h]
 omega
theorem low_low (s:B):lowH (lowH s)=lowH s:=by
 unfold lowH;rw [List.map_map];apply List.map_congr_left;intro c _;exact small_small c
theorem labs_low (wild:Bool) (s:B):labsH wild (lowH s)=labsH wild s:=by
 rw [labsH_low,labsH_low,low_len,low_low]
theorem pat_low (p:B):patH (lowH p)=patH p:=by
 unfold patH;by_cases h:p= []
 · subst h;rfl
 · rw [if_neg h,if_neg (fun e=>h (by have:=congrArg List.length e;rw [low_len] at this;exact List.eq_nil_of_length_eq_zero this)),labs_low]
theorem pat_join {p:B}{x:List B} (h:patH p=some x):joinH x=lowH p:=by
 rcases patH_some h with ⟨rfl,rfl⟩|⟨_,h1,_⟩
 · rfl
 · rw [(labs_cut h1).1];exact cutH_join _
theorem patL_some {p:B}{x:List B} (h:patH p=some x):patL p=x:=by unfold patL;rw [h];rfl
theorem pat_inj {p q:B}{x:List B} (hp:patH p=some x) (hq:patH q=some x):lowH p=lowH q:=by rw [←pat_join hp,←pat_join hq]
theorem key_len {p:B}{x:List B} (h:patH p=some x):(keyS x).1.length≤254∧(keyS x).2.length≤100000:=by
 have hl:=pat_len h;refine⟨by show (shapeS x).length≤254;rw [shape_len];exact hl,?_⟩;show (joinH (pickS x.reverse (shapeS x))).length≤100000;have hm:∀ y∈pickS x.reverse (shapeS x),y.length≤253:=by
  intro y hy;have hy2:=List.mem_reverse.1 (pick_mem hy);rcases patH_some h with ⟨_,rfl⟩|⟨_,h1,_⟩
  · simp at hy2
  · exact labs_mem_len h1 y hy2
 have h1:=joinH_len hm;have h2:=pick_len x.reverse (shapeS x) (by rw [List.length_reverse,shape_len]);have h3:(shapeS x).countP (· == 48)≤(shapeS x).length:=List.countP_le_length;rw [shape_len] at h3;rw [h2] at h1;have:(253+1)*(shapeS x).countP (· == 48)≤254*254:=Nat.mul_le_mul_left 254 (by omega);omega
structure Tab (w:World) (t:Nat) (P:List (B×Int)) (m:Option Nat) (v1 v2:Value) (L:List B):Prop where
 tab:Tab0 w t P P (P.map (·.1)) m v1 v2 L
 fine:∀ p∈P,(∃ x,patH p.1=some x)∧lowH p.1=p.1
 nd:∀ p∈P,∀ q∈P,p.1=q.1→p=q
 len:P.length≤64
section
variable {w w' : World} {t : Nat} {P : List (B × Int)} {m : Option Nat} {v1 v2 : Value} {L : List B}
theorem Tab.next (h:Tab w t P m v1 v2 L) (hb:Below w.heap.size w w'):Tab w' t P m v1 v2 L:=⟨h.tab.next hb,h.fine,h.nd,h.len⟩
theorem Tab.keep (h:Tab w t P m v1 v2 L) (hk:∀ i,Ft t m v1 v2 i→i<w.heap.size→w'.heap[i]?=w.heap[i]?):Tab w' t P m v1 v2 L:=⟨h.tab.keep hk,h.fine,h.nd,h.len⟩
theorem Tab.apart (h:Tab w t P m v1 v2 L) {p q:B×Int} (hp:p∈P) (hq:q∈P) (e:patL p.1=patL q.1):p=q:=by
 obtain⟨⟨x,hx⟩,h1⟩:=h.fine p hp;obtain⟨⟨y,hy⟩,h2⟩:=h.fine q hq;rw [patL_some hx,patL_some hy] at e;subst e;refine h.nd p hp q hq ?_;rw [←h1,←h2];exact pat_inj hx hy
theorem Tab.dot (h:Tab w t P m v1 v2 L) {p:B×Int} (hp:p∈P):noDot (patL p.1):=by
 obtain⟨⟨x,hx⟩,_⟩:=h.fine p hp;rw [patL_some hx];exact pat_nodot hx
theorem ids_some {P:List (B×Int)}{k:B×B}{i:Int} (h:idsF P k=some i):∃ p∈P,keyS (patL p.1)=k∧p.2=i:=by
 unfold idsF at h;obtain⟨p,hp,rfl⟩:=Option.map_eq_some_iff.1 h;have h2:=List.find?_some hp;simp only [decide_eq_true_eq] at h2;exact⟨p,List.mem_of_find?_eq_some hp,h2,rfl⟩
theorem Tab.ids (h:Tab w t P m v1 v2 L) (k:B×B) (i:Int):idsF P k=some i↔∃ p∈P,keyS (patL p.1)=k∧p.2=i:=by
 constructor
 · exact ids_some
 · rintro ⟨p,hp,hk,hi⟩;cases hf:idsF P k with
   |none=>
    unfold idsF at hf;rw [Option.map_eq_none_iff,List.find?_eq_none] at hf;exact absurd (decide_eq_true hk) (hf p hp)
   |some j=>
    obtain⟨q,hq,hk2,hj⟩:=ids_some hf;have:=h.apart hq hp (key_inj (h.dot hq) (h.dot hp) (hk2.trans hk.symm));subst this;rw [←hj,hi]
end
def addE (P:List (B×Int)) (p:B):Nat:=if (patH p).isNone then 3 else if P.any (fun q=>decide (q.1=lowH p)) then 6 else if 64≤P.length then 9 else 0
def addP (P:List (B×Int)) (p:B) (id:Int):List (B×Int):=if addE P p=0 then P++ [(lowH p,id)] else P
theorem any_ids {w:World}{t:Nat}{P:List (B×Int)}{m:Option Nat}{v1 v2:Value}{L:List B} (h:Tab w t P m v1 v2 L) {p:B}{x:List B} (hx:patH p=some x):P.any (fun q=>decide (q.1=lowH p))=(idsF P (keyS x)).isSome:=by
 rw [Bool.eq_iff_iff,List.any_eq_true,Option.isSome_iff_exists];constructor
 · rintro ⟨q,hq,e⟩;have e:=of_decide_eq_true e;refine⟨q.2,(h.ids _ _).2 ⟨q,hq,?_,rfl⟩⟩;rw [e,show patL (lowH p)=x from patL_some (by rw [pat_low];exact hx)]
 · rintro ⟨i,hi⟩;obtain⟨q,hq,hk,_⟩:=ids_some hi;refine⟨q,hq,decide_eq_true ?_⟩;obtain⟨⟨y,hy⟩,h1⟩:=h.fine q hq;rw [patL_some hy] at hk;have:=key_inj (pat_nodot hy) (pat_nodot hx) hk;subst this;rw [←h1];exact pat_inj hy hx
theorem Tab.more {w w':World}{t:Nat}{P:List (B×Int)}{m m':Option Nat}{v1 v2 v1' v2':Value}{L L':List B}{p:B}{id:Int}{x:List B} (h:Tab w t P m v1 v2 L) (hx:patH p=some x) (hno:idsF P (keyS x)=none) (hl:P.length<64) (hT:Tab0 w' t (P++ [(lowH p,id)]) (P++ [(lowH p,id)]) (P.map (·.1)++ [lowH p]) m' v1' v2' L'):Tab w' t (P++ [(lowH p,id)]) m' v1' v2' L':=by
 have hn:∀ q∈P,q.1≠lowH p:=by
  intro q hq e;have h1:=any_ids h hx;rw [hno] at h1;have h2:P.any (fun q=>decide (q.1=lowH p))=true:=List.any_eq_true.2 ⟨q,hq,decide_eq_true e⟩;rw [h2] at h1;cases h1
 refine⟨by rw [List.map_append];exact hT,fun q hq=>?_,fun q hq r hr e=>?_,by rw [List.length_append];simp;omega⟩
 · rcases List.mem_append.1 hq with hq|hq
   · exact h.fine q hq
   · simp at hq;subst hq;exact⟨⟨x,by rw [pat_low];exact hx⟩,low_low p⟩
 · rcases List.mem_append.1 hq with hq|hq <;> rcases List.mem_append.1 hr with hr|hr
   · exact h.nd q hq r hr e
   · simp at hr;subst hr;exact absurd e (hn q hq)
   · simp at hq;subst hq;exact absurd e.symm (hn r hr)
   · simp at hq hr;rw [hq,hr]
def findP (P:List (B×Int)) (y:List B) (o:Option Int):Prop:=match o with
 |none=>∀ p∈P,fitsS (patL p.1) y=false
 |some i=>∃ p∈P,p.2=i∧fitsS (patL p.1) y=true∧∀ q∈P,fitsS (patL q.1) y=true→q=p∨aheadP (patL p.1) (patL q.1)=true
theorem Tab.found {w:World}{t:Nat}{P:List (B×Int)}{m:Option Nat}{v1 v2:Value}{L:List B} (h:Tab w t P m v1 v2 L) {y:List B} (hy:noDot y):findP P y (findO (idsF P) y L):=by
 have hs:∀ p∈P,shapeS (patL p.1)∈L:=fun p hp=>(h.tab.mem _).2 ⟨p,hp,rfl⟩
 rcases find_spec (ids:=idsF P) (h:=y) (P:=P) (lab:=fun p=>patL p.1) (num:=fun p=>p.2) hy (fun p hp=>h.dot hp) (fun p hp q hq e=>h.apart hp hq e) h.ids h.tab.srt with ⟨h1,h2⟩|⟨p,hp,h1,h2,h3⟩
 · rw [h1];exact fun p hp=>h2 p hp (hs p hp)
 · rw [h1];exact⟨p,hp,rfl,h2,fun q hq hf=>h3 q hq (hs q hq) hf⟩
end Go.Proofs.YtlmlljlappjjjaaGreatDoor
