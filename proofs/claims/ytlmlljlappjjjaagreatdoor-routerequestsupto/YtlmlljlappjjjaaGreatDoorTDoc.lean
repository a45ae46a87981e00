/- All of the program; Add and Find of the document. -/
import Derived.Test.YtlmlljlappjjjaaGreatDoorSDAdd
import Derived.Test.YtlmlljlappjjjaaGreatDoorRows
import Derived.OpenShut
import Derived.ShutString
namespace Go.Proofs.YtlmlljlappjjjaaGreatDoor
open Go.RowKit
abbrev OwnP_r:=OwnR_r 205 2 patF
theorem infoP_r:(Tryz.prog.info? 205).map (fun i=>(i.zero,i.size,i.bytes))=some (some (.agg #[.string ⟨#[]⟩,.int .i64 0]),2,24):=by kernel_rfl
theorem OwnP_r.pt {w:World}{b n c:Nat}{p:Option Addr}{l:List (B×Int)} (h:OwnP_r w b (.slice p n c) l):PtAt w p l:=by
 intro j x hj;obtain⟨g,e,hc⟩:=OwnR_r.at patF_len h hj;refine⟨g,0,e,?_,?_⟩
 · have:=hc 0 _ rfl;rw [Nat.zero_add,Nat.mul_comm];exact this
 · have:=hc 1 _ rfl;rw [Nat.zero_add,Nat.mul_comm];exact this
theorem OwnR_r.news {α:Type}{T:TypeId}{sz:Nat}{f:α→List Value}{w:World}{base n c:Nat}{ad:Addr}{l:List α} (h:OwnR_r T sz f w base (.slice (some ad) n c) l):∀ j u,(l.flatMap f)[j]?=some u→w.cell? (ad.add j)=some u:=by
 intro j u hj;rcases h.2 with ⟨h1,_⟩|⟨g,cap,cur,h1,h2,h3,h4,_,h6,h7⟩
 · cases h1
 · injection h1 with e1
   injection e1 with e1
   subst e1;rw [add_off];rw [←h7,List.getElem?_take] at hj;split at hj
   · simp only [World.cell?,h3];simpa using hj
   · cases hj
theorem alike_dec {a b:B}:alikeT (cutT a) (cutT b)=decide (keysT (cutT a)=keysT (cutT b)):=by
 rw [Bool.eq_iff_iff,decide_eq_true_eq];exact alike_keys _ _
def RAddAns_r (P:List (B×Int)) (v:Value) (p:B) (id:Int) (w:World) (e:Ending) (w':World):Prop:=Below w.heap.size w w'∧((addE_r P p≠0∧e= .returned (.tuple #[v,.int .i64 (addE_r P p:Int)]))∨(addE_r P p=0∧∃ q d,e= .returned (.tuple #[.slice q (P.length+1) d,.int .i64 0])∧OwnP_r w' w.heap.size (.slice q (P.length+1) d) (P++ [(p,id)])))
set_option maxRecDepth 20000 in
set_option maxHeartbeats 16000000 in
theorem radd_any_r (P:List (B×Int)) (hfine:∀ x∈P,checkP x.1=true) (hP:P.length≤1000000) (p:B) (hp:p.length≤4398046511104) (id:Int) (pr:Option Addr) (n c base:Nat) (hn:P.length=n) (w:World) (hR:OwnP_r w base (.slice pr n c) P):
  Calls Tryz.prog 106 #[.slice pr n c,.string (str p),.int .i64 id] w fun e w'=>RAddAns_r P (.slice pr n c) p id w e w':=by
 obtain⟨i0,hi0,hz0,hz1,hz2⟩:=info_parts infoP_r;have HCk:=hid (rcheck_any_r p hp w);unfold RChkAns at HCk;obtain⟨S,hS⟩:∃ S,str p=S:=⟨_,rfl⟩;cases hc:checkP p with
 |false=>
  have e1:addE_r P p=3:=by unfold addE_r;rw [hc];rfl
  have HFin:=hid (show ∀ W,Below w.heap.size w W→RAddAns_r P (.slice pr n c) p id w (.returned (.tuple #[.slice pr n c,.int .i64 3])) W from fun W hb=>⟨hb,.inl ⟨by rw [e1];decide,by rw [e1];rfl⟩⟩);rw [hc,if_neg (by decide),hS] at HCk;rw [hS];clear hS hc e1 hR;go_enter Tryz.func106,Tryz.ntmps106;go_wp2_with (go_at_call 28;(with_reducible refine HCk.out.mono ?_);rintro e w1 ⟨rfl,hb1⟩;have HB1:=hid hb1;clear hb1);go_ret2;exact HFin.out _ HB1.out
 |true=>
  rw [hc,if_pos rfl] at HCk;have eA:addE_r P p=if P.any (fun q=>decide (keysP q.1=keysP p)) then 6 else 0:=by unfold addE_r;rw [hc,if_pos rfl]
  have HEA:=hid eA;obtain⟨tp,etp,_,hp256,_⟩:=check_parts hc;have HAl:=hid (show ∀ x∈P,∀ W:World,Calls Tryz.prog 138 #[.string (str x.1),.string (str p)] W fun e w'=>e= .returned (.bool (decide (keysP x.1=keysP p)))∧Below W.heap.size W w' from fun x hx W=>by
   obtain⟨tx,etx,_,hx256,_⟩:=check_parts (hfine x hx);have h9:=ralike_any tx tp (by rw [etx] at hx256;simp at hx256;omega) (by rw [etp] at hp256;simp at hp256;omega) W;rw [alike_dec,←etx,←etp] at h9;unfold keysP;rw [etx,etp] at h9 ⊢;exact h9)
  have HR:=hid hR;have HN:=hid hn;rw [hS] at HCk;rw [hS] at HAl;have HSs:=hid (show patF (p,id)= [.string S,.int .i64 id] from by unfold patF;rw [hS]);rw [hS];clear hS hc eA etp hp256 hR;have HP2:=hid hP;rw [hn] at hP;clear hn;go_enter Tryz.func106,Tryz.ntmps106;go_wp2_with (go_at_call 28;(with_reducible refine HCk.out.mono ?_);rintro e w1 ⟨rfl,hb1⟩;have HB1:=hid hb1;have HR1:=hid (HR.out.keep hb1);clear hb1);go_loopg [8] (n+1) (fun gk s8 wr=>∃ i:Nat,i≤n∧gk=n-i+1∧s8= .int .i64 (i:Int)∧(P.take i).any (fun q=>decide (keysP q.1=keysP p))=false∧Below w1.heap.size w1 wr)
  case atStart=>exact⟨0,by omega,rfl,rfl,rfl,Below.refl _ _⟩
  case round=>
   obtain⟨i,hi,rfl,rfl,hno,hb⟩:=hrel;have HNo:=hid hno;have HB:=hid hb;clear hno hb;by_cases hin:i<n
   · obtain⟨x,hx⟩:∃ x,P[i]?=some x:=⟨_,List.getElem?_eq_getElem (by rw [HN.out];exact hin)⟩;obtain⟨g,o,rfl,q1,q2⟩:=(OwnP_r.pt (HR1.out.keep HB.out)) i x hx;have HAx:=hid (HAl.out x (List.mem_of_getElem? hx));obtain⟨Sx,hSx⟩:∃ S,str x.1=S:=⟨_,rfl⟩;rw [hSx] at q1 HAx;cases hk:decide (keysP x.1=keysP p) with
     |true=>
      have e6:addE_r P p=6:=by rw [HEA.out,if_pos (List.any_eq_true.2 ⟨x,List.mem_of_getElem? hx,hk⟩)]
      have HFin:=hid (show ∀ W,Below w.heap.size w W→RAddAns_r P (.slice (some ⟨g,o,none⟩) n c) p id w (.returned (.tuple #[.slice (some ⟨g,o,none⟩) n c,.int .i64 6])) W from fun W hb=>⟨hb,.inl ⟨by rw [e6];decide,by rw [e6];rfl⟩⟩);rw [hk] at HAx;clear hx hSx hk e6;go_wp2_with (go_at_call 138;(with_reducible refine(HAx.out _).mono ?_);rintro e w4 ⟨rfl,hb4⟩;have HB4:=hid (HB.out.trans (hb4.mono HB.out.size));clear hb4);go_ret2;exact HFin.out _ (below_out HB1.out HB4.out)
     |false=>
      have HNn:=hid (show (P.take (i+1)).any (fun q=>decide (keysP q.1=keysP p))=false from by rw [List.take_add_one,hx,List.any_append,HNo.out];simpa using hk);rw [hk] at HAx;clear hx hSx hk;go_wp2_with (go_at_call 138;(with_reducible refine(HAx.out _).mono ?_);rintro e w4 ⟨rfl,hb4⟩;have HB4:=hid (HB.out.trans (hb4.mono HB.out.size));clear hb4);go_roundg (n-(i+1)+1)
      case measure=>omega
      case rel=>exact⟨i+1,by omega,rfl,by push_cast;go_num,HNn.out,HB4.out⟩
   · obtain rfl:n=i:=by omega
     have e0:addE_r P p=0:=by
      rw [HEA.out,if_neg];have h1:=HNo.out;rw [List.take_of_length_le (by rw [HN.out];exact Nat.le_refl _)] at h1;rw [h1];decide
     have HFin:=hid (show ∀ W q d,Below w.heap.size w W→OwnP_r W w.heap.size (.slice q (n+1) d) (P++ [(p,id)])→RAddAns_r P (.slice pr n c) p id w (.returned (.tuple #[.slice q (n+1) d,.int .i64 0])) W from fun W q d hb ho=>⟨hb,.inr ⟨e0,q,d,by rw [HN.out],by rw [HN.out];exact ho⟩⟩);have HRr:=hid (HR1.out.keep HB.out);have HR0:=hid (show ∀ (W:World) (b:Nat),W.ownsRow b 205 2 (.slice none 0 0) 0 [] from fun W b=>⟨rfl,.inl ⟨rfl,rfl⟩⟩);have HBr:=hid (below_out HB1.out HB.out);clear e0;cases pr with
     |none=>
      obtain⟨hn0,hc0⟩:n=0∧c=0:=by
       rcases HRr.out.2 with ⟨h1,_⟩|⟨g,cap,cur,h1,_⟩
       · injection h1 with _ h3 h4;exact⟨h3,h4⟩
       · cases h1
      subst hc0;have hP0:P= []:=List.eq_nil_of_length_eq_zero (by rw [HN.out];exact hn0);subst hP0;subst hn0;go_wp2_with (at_builtin;first|(refine wpList_append_own_none rfl (.tmp 28) (.tmp 29) 177 rfl wr.heap.size 205 i0 2 Tryz.underlying177 hi0 (.slice none 0 0) 0 [] (by go_simp) (HR0.out _ _) (by go_simp) ?_)|(refine wpList_append_own_at _ rfl (.tmp 30) (.tmp 34) 177 rfl wr.heap.size 205 i0 _ 2 24 Tryz.underlying177 hi0 hz0 hz1 hz2 rfl (by decide) (.slice none 0 0) 0 [] (by go_simp) (HR0.out _ _) ⟨wr.heap.size,0,none⟩ 1 1 [.string S,.int .i64 id] (by go_simp) rfl (cells_new wr _ _) (by simp [Value.oneCell']) (by unfold maxLen;omega) (by omega) (by simp) ?_;intro v6 w5 hown hgr _ _;obtain⟨p7,L7,c7,rfl⟩:=own_slice3 hown;have HO5:=hid (show OwnP_r w5 wr.heap.size (.slice p7 L7 c7) ([]++ [(p,id)]) from OwnR_r.put (n:=0) rfl (by rw [HSs.out];exact hown));have HB5:=hid ((below_new wr (.cells #[.string S,.int .i64 id] 205 (0,0))).trans ((below_grown hgr).mono (by simp)));obtain⟨hL7,_⟩:L7=0+1∧True:=⟨row_len hown,trivial⟩;subst hL7;clear hown hgr));go_ret2;exact HFin.out _ _ _ (below_out HBr.out HB5.out) (HO5.out.lower HBr.out.size)
     |some ad=>
      have HNews:=hid HRr.out.news;have hlf:(P.flatMap patF).length=n*2:=by have h9:=HRr.out.1;rw [HN.out] at h9;exact h9
      have HOne:=hid (show ∀ u∈P.flatMap patF,u.oneCell'=true from fun u hu=>by
       obtain⟨x,_,hx⟩:=List.mem_flatMap.1 hu;simp [patF] at hx;rcases hx with h|h <;> rw [h] <;> rfl)
      go_wp2_with (at_builtin;first|(refine wpList_append_own_at _ rfl (.tmp 28) (.tmp 29) 177 rfl wr.heap.size 205 i0 _ 2 24 Tryz.underlying177 hi0 hz0 hz1 hz2 rfl (by decide) (.slice none 0 0) 0 [] (by go_simp) (HR0.out _ _) ad n c (P.flatMap patF) (by go_simp) hlf HNews.out HOne.out (by unfold maxLen;omega) (by omega) (Nat.le_refl _) ?_;intro v3 w3 hown hgr _ _;obtain⟨p3,L3,c3,rfl⟩:=own_slice3 hown;have HO3:=hid (show OwnP_r w3 wr.heap.size (.slice p3 L3 c3) P from(by unfold OwnP_r OwnR_r;rw [HN.out];rw [Nat.zero_add,List.nil_append] at hown;exact hown));have HB3:=hid (show Below wr.heap.size wr w3 from below_grown hgr);obtain⟨hL3,_⟩:L3=0+n∧True:=⟨row_len hown,trivial⟩;rw [Nat.zero_add] at hL3;subst hL3;clear hown hgr)|(refine wpList_append_own_at _ rfl (.tmp 30) (.tmp 34) 177 rfl wr.heap.size 205 i0 _ 2 24 Tryz.underlying177 hi0 hz0 hz1 hz2 rfl (by decide) (.slice p3 L3 c3) L3 (P.flatMap patF) (by go_simp) (by have h8:=HO3.out.alloc (.cells #[.string S,.int .i64 id] 205 (0,0));unfold OwnR_r at h8;rw [HN.out] at h8;exact h8) ⟨w3.heap.size,0,none⟩ 1 1 [.string S,.int .i64 id] (by go_simp) rfl (cells_new w3 _ _) (by simp [Value.oneCell']) (by unfold maxLen;omega) (by omega) (by have h1:=HB3.out.size;simp;omega) ?_;intro v6 w5 hown hgr _ _;obtain⟨p7,L7,c7,rfl⟩:=own_slice3 hown;have HO5:=hid (show OwnP_r w5 wr.heap.size (.slice p7 L7 c7) (P++ [(p,id)]) from OwnR_r.put HN.out (by rw [HSs.out];exact hown));have HB5:=hid ((HB3.out.trans ((below_new w3 _).mono HB3.out.size)).trans ((HO3.out.alloc _).below (by have h1:=HB3.out.size;simp;omega) hgr));obtain⟨hL7,_⟩:L7=L3+1∧True:=⟨row_len hown,trivial⟩;subst hL7;clear hown hgr));go_ret2;exact HFin.out _ _ _ (below_out HBr.out HB5.out) (HO5.out.lower HBr.out.size)
end Go.Proofs.YtlmlljlappjjjaaGreatDoor
