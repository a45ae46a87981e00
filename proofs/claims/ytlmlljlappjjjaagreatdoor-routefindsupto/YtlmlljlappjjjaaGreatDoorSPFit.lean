/- Keys of patterns, by the program: shapes, the pattern of a shape that can fit, fitting, the order. -/
import Derived.Test.YtlmlljlappjjjaaGreatDoorTTree
namespace Go.Proofs.YtlmlljlappjjjaaGreatDoor
set_option maxRecDepth 20000
set_option maxHeartbeats 8000000
open Go.RowKit
theorem shape_step {x:List B}{i:Nat}{a:B} (h:x[i]?=some a):(x.drop i).reverse.map markU=(x.drop (i+1)).reverse.map markU++ [markU a]:=by
 obtain⟨h1,e1⟩:=List.getElem?_eq_some_iff.1 h;rw [List.drop_eq_getElem_cons h1,e1,List.reverse_cons,List.map_append];rfl
theorem shapeOf_any (x:List B) (p:Option Addr) (n c:Nat) (hn:x.length=n) (hnn:n≤254) (w:World) (hT:LbAt w p x):
  Calls Tryz.prog 132 #[.slice p n c] w fun e w'=>e= .returned (.string (str (shapeS x)))∧Below w.heap.size w w':=by
 obtain⟨b0,hb0,hc0,hc1,hc2⟩:=info_parts infoB;have HN:=hid hn;have HT:=hid hT;clear hn hT;go_enter Tryz.func132,Tryz.ntmps132;go_wp2;go_loopg [3,4] (n+1) (fun gk s3 s4 wr=>∃ (i j d:Nat) (q:Option Addr) (acc:B),i≤n∧j+i=n∧gk=i+1∧s4= .int .i64 ((i:Int)-1)∧s3= .slice q j d∧acc.length=j∧acc=(x.drop i).reverse.map markU∧Own wr w.heap.size (.slice q j d) acc∧Below w.heap.size w wr)
 case atStart=>exact⟨n,0,0,none,[],by omega,by omega,rfl,by go_num,rfl,rfl,by rw [List.drop_of_length_le (by rw [HN.out];exact Nat.le_refl _)];rfl,Own.nil _ _,Below.refl _ _⟩
 case round=>
  obtain⟨i0,j,d,q,acc,hi,hji,rfl,rfl,rfl,hl,hE,ho,hb⟩:=hrel;have HE:=hid hE;have HB:=hid hb;have HO:=hid ho;have HL:=hid hl;clear hE hb ho hl;rcases i0 with _|i
  · obtain⟨z,hz⟩:∃ z:Int,((0:Nat):Int)-1=z:=⟨_,rfl⟩;rw [hz];have hz0:¬(0:Int)≤z:=by omega
    clear hz;have hcv:=conv_own HO.out;go_wp2;go_ret;exact⟨by rw [HE.out];rfl,HB.out⟩
  · rw [show (((i+1:Nat):Int)-1)=(i:Int) by omega];have h1:i<x.length:=by rw [HN.out];omega
    obtain⟨a,ha⟩:∃ a,x[i]?=some a:=⟨_,List.getElem?_eq_getElem h1⟩;obtain⟨g1,o1,rfl,q1⟩:=(HT.out.next HB.out) i a ha;have HSt:=hid (shape_step ha);obtain⟨Sa,hSa⟩:∃ S,str a=S:=⟨_,rfl⟩;have ka:=star_or Sa hSa;rw [hSa] at q1;clear h1 ha hSa;rcases ka with ⟨ka,rfl⟩|⟨ka,ka1⟩
    · rw [show markU a=49 from if_pos ka] at HSt;clear ka;go_wp2_with (at_builtin;refine wpList_append_own_at _ rfl (.tmp 17) (.tmp 18) 138 rfl w.heap.size 5 b0 _ 1 1 Tryz.underlying138 hb0 hc0 hc1 hc2 rfl (by decide) (.slice q j d) j (Lib.byteCells acc) (by go_simp) (by have h8:=HO.out.alloc (.cells #[.int .u8 49] 5 (0,0));unfold Own at h8;rw [HL.out] at h8;exact h8) ⟨wr.heap.size,0,none⟩ 1 1 [.int .u8 49] (by go_simp) rfl (cells_new wr _ _) (by simp [Value.oneCell']) (by unfold maxLen;omega) (by omega) (by have h1:=HB.out.size;simp;omega) ?_;intro v6 w3 hown hgr _ _;obtain⟨p7,L7,c7,rfl⟩:=own_slice3 hown;have HO3:=hid (show Own w3 w.heap.size (.slice p7 L7 c7) (acc++ [49]) from Own.put (by rw [HL.out];exact hown) rfl rfl);have HB3:=hid ((HB.out.trans ((below_new wr _).mono HB.out.size)).trans (Own.below (HO.out.alloc _) (by have h1:=HB.out.size;simp;omega) hgr));obtain⟨hL7,_⟩:L7=j+1∧True:=⟨row_lenH hown,trivial⟩;subst hL7;clear hown hgr);go_roundg (i+1)
      case measure=>omega
      case rel=>exact⟨i,j+1,c7,p7,acc++ [49],by omega,by omega,rfl,by push_cast;go_num,rfl,by rw [List.length_append,HL.out];rfl,by rw [HSt.out,HE.out],HO3.out,HB3.out⟩
    · rw [show markU a=48 from if_neg ka] at HSt;have ka2:=star_not ka1;clear ka;go_wp2_with (at_builtin;refine wpList_append_own_at _ rfl (.tmp 20) (.tmp 21) 138 rfl w.heap.size 5 b0 _ 1 1 Tryz.underlying138 hb0 hc0 hc1 hc2 rfl (by decide) (.slice q j d) j (Lib.byteCells acc) (by go_simp) (by have h8:=HO.out.alloc (.cells #[.int .u8 48] 5 (0,0));unfold Own at h8;rw [HL.out] at h8;exact h8) ⟨wr.heap.size,0,none⟩ 1 1 [.int .u8 48] (by go_simp) rfl (cells_new wr _ _) (by simp [Value.oneCell']) (by unfold maxLen;omega) (by omega) (by have h1:=HB.out.size;simp;omega) ?_;intro v6 w3 hown hgr _ _;obtain⟨p7,L7,c7,rfl⟩:=own_slice3 hown;have HO3:=hid (show Own w3 w.heap.size (.slice p7 L7 c7) (acc++ [48]) from Own.put (by rw [HL.out];exact hown) rfl rfl);have HB3:=hid ((HB.out.trans ((below_new wr _).mono HB.out.size)).trans (Own.below (HO.out.alloc _) (by have h1:=HB.out.size;simp;omega) hgr));obtain⟨hL7,_⟩:L7=j+1∧True:=⟨row_lenH hown,trivial⟩;subst hL7;clear hown hgr);go_roundg (i+1)
      case measure=>omega
      case rel=>exact⟨i,j+1,c7,p7,acc++ [48],by omega,by omega,rfl,by push_cast;go_num,rfl,by rw [List.length_append,HL.out];rfl,by rw [HSt.out,HE.out],HO3.out,HB3.out⟩
theorem pick_snoc:∀ {l:List B}{s:B}{i:Nat}{a:B}{c:UInt8},l[i]?=some a→s[i]?=some c→pickS l (s.take (i+1))=pickS l (s.take i)++(if c=48 then [a] else [])
 | [],_,i,a,c,h,_=>by simp at h
 |_::_,[],i,a,c,_,h=>by simp at h
 |x::l,d::s,0,a,c,h1,h2=>by
  simp at h1 h2;subst h1;subst h2;simp [pickS]
 |x::l,d::s,i+1,a,c,h1,h2=>by
  have ih:=@pick_snoc l s i a c (by simpa using h1) (by simpa using h2);rw [List.take_succ_cons,List.take_succ_cons];unfold pickS;split
  · rw [ih];rfl
  · exact ih
theorem joinH_len:∀ {l:List B}{M:Nat},(∀ x∈l,x.length≤M)→(joinH l).length≤(M+1)*l.length
 | [],M,_=>Nat.zero_le _
 | [x],M,h=>by
  rw [joinH_one];have:=h x (by simp);simp;omega
 |x::y::l,M,h=>by
  have ih:=@joinH_len (y::l) M (fun z hz=>h z (by simp at hz ⊢;exact .inr hz));have hx:=h x (by simp);rw [joinH_more,List.length_append,List.length_cons,List.length_cons,Nat.mul_succ];omega
abbrev keyV (a b:B):Value:=.agg #[.string (str a),.string (str b)]
theorem join_any (l:List B) (p:Option Addr) (n c base:Nat) (hn:l.length=n) (hM:∀ x∈l,x.length≤253) (hnn:n≤254) (w:World) (ho:OwnS w base (.slice p n c) l):
  Calls Tryz.prog 140 #[.slice p n c,.string ⟨#[46]⟩] w fun e w'=>e= .returned (.string (str (joinH l)))∧Below w.heap.size w w':=by
 cases l with
 |nil=>
  simp at hn;subst hn;refine(Tryz.strings_Join_none p c ⟨#[46]⟩ w).mono ?_;rintro e w' ⟨rfl,rfl⟩;exact⟨rfl,Below.refl _ _⟩
 |cons x r=>
  obtain⟨g,o,rfl,q⟩:=ho.at (j:=0) (t:=x) rfl;have hlt:=lt_of_cell q;have hcap:=ho.cap;have hj:(joinH (x::r)).length≤254*(x::r).length:=joinH_len hM;have e1:((x::r).map str).map (fun t:ByteArray=>t.data.toList)=x::r:=by
   rw [List.map_map];conv=>rhs;rw [←List.map_id (x::r)]
   apply List.map_congr_left;intro t _;simp
  have h:=Tryz.strings_Join g o c ((x::r).map str) ⟨#[46]⟩ w (fun j y hy=>by
   rw [List.getElem?_map] at hy;obtain⟨t,ht,rfl⟩:=Option.map_eq_some_iff.1 hy;obtain⟨g',o',e',q'⟩:=ho.at ht;injection e' with e'
   injection e' with e2 e3 _
   subst e2;subst e3;exact q') hlt (by simp at hn ⊢;omega) (by simp at hn ⊢;omega) (by
    rw [e1];show (joinH (x::r)).length≤_;rw [hn] at hj;omega)
  rw [e1] at h;rw [List.length_map,hn] at h;exact h
theorem key_size:(Tryz.prog.info? 155).map (fun x=>x.size)=some 2:=by kernel_rfl
theorem results_key {fn:Func}{p u:Tmp} (h:fn.results= #[.cell p 155,.tmp u]) (tmps:Array Value) (w:World) (g:Nat) (t:TypeId) (cs:Array Value) (fr:Nat×Nat)
  (hp:tmps.getD p undef= .pointer (some ⟨g,0,none⟩)) (hg:w.heap[g]?=some (.cells cs t fr)) (hs:cs.size=2):(results fn tmps).run Tryz.prog w= .ok (.tuple #[.agg cs,tmps.getD u undef]) w:=by
 rw [results_cell_tmp h,hp];have hl:=run_loadVar_row (P:=Tryz.prog) w g t 155 cs fr _ hg Tryz.underlying155 rfl (by rw [key_size,hs]);simp [asAddr,Result.andThen,hl]
theorem heap_set1 {w:World}{g o:Nat}{cs:Array Value}{T:TypeId}{fr:Nat×Nat}{v:Value} (h:w.heap[g]?=some (.cells cs T fr)):(w.setCell ⟨g,o,none⟩ v).heap[g]?=some (.cells (cs.setIfInBounds o v) T fr):=by
 unfold World.setCell;show (w.heap.modify g _)[g]?=_;rw [Array.getElem?_modify,if_pos rfl,h];rfl
theorem heap_two {w:World}{g:Nat}{a b:Value}{T:TypeId} (h:w.heap[g]?=some (.cells #[a,b] T (0,0))) (c d:Value):((w.setCell ⟨g,0,none⟩ c).setCell ⟨g,1,none⟩ d).heap[g]?=some (.cells #[c,d] T (0,0)):=by
 have h1:=heap_set1 h (o:=0) (v:=c);have h2:=heap_set1 h1 (o:=1) (v:=d);rw [h2];rfl
theorem box_facts {w:World}{g:Nat}{a b:Value}{T:TypeId} (h:w.heap[g]?=some (.cells #[a,b] T (0,0))):w.cell? ⟨g,0,none⟩=some a∧w.cell? ⟨g,1,none⟩=some b∧w.frozen? ⟨g,0,none⟩=false∧w.frozen? ⟨g,1,none⟩=false:=by
 refine⟨?_,?_,?_,?_⟩
 · simp only [World.cell?,h];rfl
 · simp only [World.cell?,h];rfl
 · simp only [World.frozen?,h];rfl
 · simp only [World.frozen?,h];rfl
theorem und_below {w wr w4:World} (h:Below (w.heap.size+1) (w.alloc (.cells #[.string ⟨#[]⟩,.string ⟨#[]⟩] 155 (0,0))) wr) (h4:Below wr.heap.size wr w4) (a b:Value):Below w.heap.size w ((w4.setCell ⟨w.heap.size,0,none⟩ a).setCell ⟨w.heap.size,1,none⟩ b):=by
 have hs:=h.size;rw [show (w.alloc (.cells #[.string ⟨#[]⟩,.string ⟨#[]⟩] 155 (0,0))).heap.size=w.heap.size+1 by simp] at hs;have h1:Below w.heap.size w wr:=(below_new w _).trans (h.mono (Nat.le_succ _));have h2:Below w.heap.size w w4:=h1.trans (h4.mono (by omega));exact(h2.setCell (Nat.le_refl _) a).setCell (Nat.le_refl _) b
def undV (o:Option B) (sh:B):Value:=match o with
 |none=>.tuple #[keyV [] [],.bool false]
 |some pl=>.tuple #[keyV sh pl,.bool true]
theorem under_any (y:List B) (p:Option Addr) (n c:Nat) (hn:y.length=n) (hnn:n≤254) (hM:∀ x∈y,x.length≤253) (sh:B) (hsl:sh.length≤254) (w:World) (hT:LbAt w p y):
  Calls Tryz.prog 108 #[.slice p n c,.string (str sh)] w fun e w'=>e= .returned (undV (underS y sh) sh)∧Below w.heap.size w w':=by
 obtain⟨j0,hj0,hy0,hy1,hy2⟩:=info_parts infoS;obtain⟨m,hm⟩:∃ m,sh.length=m:=⟨_,rfl⟩;obtain⟨S,hS⟩:∃ S,str sh=S:=⟨_,rfl⟩;have hSn:S.size=m:=by rw [←hS,str_size,hm]
 by_cases hno:sh≠ []∧sh.length≠n
 · have HU:=hid (show underS y sh=none from by unfold underS;rw [hn,if_pos hno]);have hne1:¬S=(⟨#[]⟩:ByteArray):=fun e=>hno.1 (str_inj (by rw [hS,e]))
   have hne2:(S.toList== (⟨#[]⟩:ByteArray).toList)=false:=ne_list hne1;have hne3:S.toList.isEmpty=false:=ne_empty hne1;have hne4:(S.toList== [])=false:=by have h:=hne2;rw [ByteArray.toList_eq,ByteArray.toList_eq] at h;rw [ByteArray.toList_eq];exact h
   have hmn:¬(m:Int)=(n:Int):=by have:=hno.2;omega
   have hmn2:((m:Int)== (n:Int))=false:=by simpa using hmn
   rw [hS];clear hS hm hno hn hT hM;go_enter Tryz.func108,Tryz.ntmps108;go_wp2;refine bodyPost_ret (results_key rfl _ _ w.heap.size 155 _ (0,0) rfl (heap_alloc_new w _) rfl) rfl ?_;exact⟨by rw [HU.out];rfl,below_new _ _⟩
 · have HU:=hid (show underS y sh=some (joinH (pickS y.reverse sh)) from by unfold underS;rw [hn,if_neg hno]);have HMn:sh= []∨(sh≠ []∧n=m):=by
    by_cases h0:sh= []
    · exact .inl h0
    · exact .inr ⟨h0,by rw [←hm];exact Decidable.byContradiction fun h=>hno ⟨h0,fun e=>h e.symm⟩⟩
   clear hno;have HN:=hid hn;have HT:=hid hT;have HM:=hid hM;have HSl:=hid hm;have HS:=hid hS;have HByte:=hid (show ∀ (k:Nat) (h:k<sh.length) (h2:k<S.size),S[k]'h2=sh[k]'h from fun k h h2=>by subst hS;rfl);rcases HMn with rfl|⟨h0,rfl⟩
   · have hm9:0=m:=hm;subst hm9;obtain rfl:(⟨#[]⟩:ByteArray)=S:=hS;rw [show str []=(⟨#[]⟩:ByteArray) from rfl];clear hn hT hM HByte;go_enter Tryz.func108,Tryz.ntmps108;go_wp2;go_loopg [6,20] (0+1) (fun gk s6 s20 wr=>∃ (i k d:Nat) (q:Option Addr) (acc:List B),i≤0∧gk=0-i+1∧s20= .int .i64 (i:Int)∧s6= .slice q k d∧acc.length=k∧k≤i∧acc=pickS y.reverse (([]:B).take i)∧OwnS wr (w.heap.size+1) (.slice q k d) acc∧Below (w.heap.size+1) (w.alloc (.cells #[.string ⟨#[]⟩,.string ⟨#[]⟩] 155 (0,0))) wr)
     case atStart=>exact⟨0,0,0,none,[],by omega,rfl,rfl,rfl,rfl,by omega,by cases y.reverse <;> rfl,OwnS.nil _ _,Below.refl _ _⟩
     case round=>
      obtain⟨i,k,d,q,acc,hi,rfl,rfl,rfl,hl,hki,hE,ho,hb⟩:=hrel;have HE:=hid hE;have HB:=hid hb;have HO:=hid ho;have HL:=hid hl;clear hE hb ho hl;obtain rfl:i=0:=by omega
      have HEnd:=hid (HE.out.trans (by rw [List.take_of_length_le (by rw [HSl.out];exact Nat.le_refl _)]));have HJ:=hid (join_any acc q k d (w.heap.size+1) HL.out (fun x hx=>by rw [HE.out] at hx;exact HM.out x (List.mem_reverse.1 (pick_mem hx))) (by omega) wr HO.out);obtain⟨J,hJ⟩:∃ J,str (joinH acc)=J:=⟨_,rfl⟩;rw [hJ] at HJ;have HJe:=hid hJ;clear hJ;have hs1:=HB.out.size;rw [show (w.alloc (.cells #[.string ⟨#[]⟩,.string ⟨#[]⟩] 155 (0,0))).heap.size=w.heap.size+1 by simp] at hs1;have hbx:wr.heap[w.heap.size]?=some (.cells #[.string ⟨#[]⟩,.string ⟨#[]⟩] 155 (0,0)):=(HB.out.block _ (by simp)).trans (heap_alloc_new w _);go_wp2_with (go_at_call 140;(with_reducible refine HJ.out.mono ?_);rintro e w4 ⟨rfl,hb4⟩;have hbx4:=(hb4.block w.heap.size (by omega)).trans hbx;obtain⟨hq0,hq1,hq2,hq3⟩:=box_facts hbx4;obtain⟨hq4,hq5,hq6,hq7⟩:=box_facts (heap_set1 (o:=0) (v:=.string (⟨#[]⟩:ByteArray)) hbx4);have HB4:=hid hb4;clear hb4 HJ);refine bodyPost_ret (results_key rfl _ _ w.heap.size 155 _ (0,0) rfl (heap_two hbx4 _ _) rfl) rfl ?_;exact⟨by rw [HU.out,←HEnd.out];show _=Ending.returned (.tuple #[.agg #[.string (str []),.string (str (joinH acc))],.bool true]);rw [HJe.out];rfl,und_below HB.out HB4.out _ _⟩
   · have hne1:¬S=(⟨#[]⟩:ByteArray):=fun e=>h0 (str_inj (by rw [hS,e]))
     have hne2:(S.toList== (⟨#[]⟩:ByteArray).toList)=false:=ne_list hne1;have hne3:S.toList.isEmpty=false:=ne_empty hne1;have hne4:(S.toList== [])=false:=by have h:=hne2;rw [ByteArray.toList_eq,ByteArray.toList_eq] at h;rw [ByteArray.toList_eq];exact h
     rw [hS];clear hS hm hn hT hM h0;go_enter Tryz.func108,Tryz.ntmps108;go_wp2;go_loopg [6,20] (n+1) (fun gk s6 s20 wr=>∃ (i k d:Nat) (q:Option Addr) (acc:List B),i≤n∧gk=n-i+1∧s20= .int .i64 (i:Int)∧s6= .slice q k d∧acc.length=k∧k≤i∧acc=pickS y.reverse (sh.take i)∧OwnS wr (w.heap.size+1) (.slice q k d) acc∧Below (w.heap.size+1) (w.alloc (.cells #[.string ⟨#[]⟩,.string ⟨#[]⟩] 155 (0,0))) wr)
     case atStart=>exact⟨0,0,0,none,[],by omega,rfl,rfl,rfl,rfl,by omega,by cases y.reverse <;> rfl,OwnS.nil _ _,Below.refl _ _⟩
     case round=>
      obtain⟨i,k,d,q,acc,hi,rfl,rfl,rfl,hl,hki,hE,ho,hb⟩:=hrel;have HE:=hid hE;have HB:=hid hb;have HO:=hid ho;have HL:=hid hl;clear hE hb ho hl;have hs1:=HB.out.size;rw [show (w.alloc (.cells #[.string ⟨#[]⟩,.string ⟨#[]⟩] 155 (0,0))).heap.size=w.heap.size+1 by simp] at hs1;by_cases hin:i<n
      · have h1:i<sh.length:=by rw [HSl.out];exact hin
        obtain⟨j,hj⟩:∃ j,j+1+i=n:=⟨n-1-i,by omega⟩;have h2:j<y.length:=by rw [HN.out];omega
        obtain⟨a,ha⟩:∃ a,y[j]?=some a:=⟨_,List.getElem?_eq_getElem h2⟩;have har:y.reverse[i]?=some a:=by
         rw [List.getElem?_reverse (by rw [HN.out];exact hin),HN.out,show n-1-i=j by omega];exact ha
        obtain⟨ch,hch⟩:∃ ch,sh[i]?=some ch:=⟨_,List.getElem?_eq_getElem h1⟩;have HSt:=hid (pick_snoc har hch);have hSi:S[i]=ch:=by rw [HByte.out i h1 (by omega)];exact(List.getElem?_eq_some_iff.1 hch).2
        obtain⟨g1,o1,rfl,q1⟩:=(HT.out.next ((below_new w _).trans (HB.out.mono (Nat.le_succ _)))) j a ha;obtain⟨Sa,hSa⟩:∃ S,str a=S:=⟨_,rfl⟩;have HSa:=hid hSa;rw [hSa] at q1;have hjj:((n:Int)-1)-(i:Int)=(j:Int):=by omega
        have hjn:(j:Int)<(n:Int):=by omega
        obtain⟨Y,hY⟩:∃ Y,S[i].toNat=Y:=⟨_,rfl⟩;have hb9:=S[i].toNat_lt;rw [hY] at hb9;by_cases h48:ch=48
        · rw [if_pos h48] at HSt;obtain rfl:Y=48:=by rw [←hY,hSi,h48];rfl
          clear h1 h2 ha har hch hSi hSa h48;go_wp2_with (at_builtin;refine wpList_append_own_at _ rfl (.tmp 27) (.tmp 36) 36 rfl (w.heap.size+1) 9 j0 _ 1 16 Tryz.underlying36 hj0 hy0 hy1 hy2 rfl (by decide) (.slice q k d) k (strC acc) (by go_simp) (by have h8:=HO.out.alloc (.cells #[.string Sa] 9 (0,0));unfold OwnS at h8;rw [HL.out] at h8;exact h8) ⟨wr.heap.size,0,none⟩ 1 1 [.string Sa] (by go_simp) rfl (cells_new wr _ _) (by simp [Value.oneCell']) (by unfold maxLen;omega) (by omega) (by simp;omega) ?_;intro v6 w3 hown hgr _ _;obtain⟨p7,L7,c7,rfl⟩:=own_slice3 hown;have HO3:=hid (show OwnS w3 (w.heap.size+1) (.slice p7 L7 c7) (acc++ [a]) from OwnS.put (by rw [HL.out,HSa.out];exact hown));have HB3:=hid ((HB.out.trans ((below_new wr _).mono hs1)).trans (OwnS.below (HO.out.alloc _) (by simp;omega) hgr));obtain⟨hL7,_⟩:L7=k+1∧True:=⟨row_lenH hown,trivial⟩;subst hL7;clear hown hgr);go_roundg (n-(i+1)+1)
          case measure=>omega
          case rel=>exact⟨i+1,k+1,c7,p7,acc++ [a],by omega,rfl,by push_cast;go_num,rfl,by rw [List.length_append,HL.out];rfl,by omega,by rw [HSt.out,HE.out],HO3.out,HB3.out⟩
        · rw [if_neg h48,List.append_nil] at HSt;have hY48:¬(Y:Int)=48:=fun e=>h48 (by rw [←hSi];apply UInt8.toNat_inj.1;rw [hY];show Y=48;omega)
          have hY49:((Y:Int)== 48)=false:=by simpa using hY48
          clear h1 h2 ha har hch hSi hSa h48;go_wp2;go_roundg (n-(i+1)+1)
          case measure=>omega
          case rel=>exact⟨i+1,k,d,q,acc,by omega,rfl,by push_cast;go_num,rfl,HL.out,by omega,by rw [HSt.out,HE.out],HO.out,HB.out⟩
      · obtain rfl:i=n:=by omega
        have HEnd:=hid (HE.out.trans (by rw [List.take_of_length_le (by rw [HSl.out];exact Nat.le_refl _)]));have HJ:=hid (join_any acc q k d (w.heap.size+1) HL.out (fun x hx=>by rw [HE.out] at hx;exact HM.out x (List.mem_reverse.1 (pick_mem hx))) (by omega) wr HO.out);obtain⟨J,hJ⟩:∃ J,str (joinH acc)=J:=⟨_,rfl⟩;rw [hJ] at HJ;have HJe:=hid hJ;clear hJ;have hbx:wr.heap[w.heap.size]?=some (.cells #[.string ⟨#[]⟩,.string ⟨#[]⟩] 155 (0,0)):=(HB.out.block _ (by simp)).trans (heap_alloc_new w _);have hz0:((i:Nat):Int)<(i:Int)↔False:=by simp
        go_wp2_with (go_at_call 140;(with_reducible refine HJ.out.mono ?_);rintro e w4 ⟨rfl,hb4⟩;have hbx4:=(hb4.block w.heap.size (by omega)).trans hbx;obtain⟨hq0,hq1,hq2,hq3⟩:=box_facts hbx4;obtain⟨hq4,hq5,hq6,hq7⟩:=box_facts (heap_set1 (o:=0) (v:=.string S) hbx4);have HB4:=hid hb4;clear hb4 HJ);refine bodyPost_ret (results_key rfl _ _ w.heap.size 155 _ (0,0) rfl (heap_two hbx4 _ _) rfl) rfl ?_;exact⟨by rw [HU.out,←HEnd.out];show _=Ending.returned (.tuple #[.agg #[.string (str sh),.string (str (joinH acc))],.bool true]);rw [HS.out,HJe.out];rfl,und_below HB.out HB4.out _ _⟩
theorem labs_cut {wild:Bool}{s:B}{x:List B} (h:labsH wild s=some x):x=cutH (lowH s)∧s.length≤253∧x.all (okP wild)=true:=by
 rw [labsH_low] at h;split at h
 · cases h
 · rename_i h1
   split at h
   · rename_i h2
     have:=Option.some.inj h;subst this;exact⟨rfl,by omega,h2⟩
   · cases h
theorem labs_nodot {wild:Bool}{s:B}{x:List B} (h:labsH wild s=some x):noDot x:=by
 obtain⟨rfl,_⟩:=labs_cut h;exact fun y hy=>cutH_nodot _ y hy
theorem labs_mem_len {wild:Bool}{s:B}{x:List B} (h:labsH wild s=some x):∀ t∈x,t.length≤253:=by
 obtain⟨rfl,h1,_⟩:=labs_cut h;intro t ht;have:=cutH_mem_len ht;rw [low_len] at this;omega
theorem labs_len {wild:Bool}{s:B}{x:List B} (h:labsH wild s=some x):x.length≤254:=(labsH_some h).2.2.2.1
theorem pat_nodot {s:B}{x:List B} (h:patH s=some x):noDot x:=by
 rcases patH_some h with ⟨_,rfl⟩|⟨_,h1,_⟩
 · intro y hy;simp at hy
 · exact labs_nodot h1
theorem pat_len {s:B}{x:List B} (h:patH s=some x):x.length≤254:=by
 rcases patH_some h with ⟨_,rfl⟩|⟨_,h1,_⟩
 · exact Nat.zero_le _
 · exact labs_len h1
theorem order_any (a b:B) (ha:a.length≤254) (hb:b.length≤254) (w:World):Calls Tryz.prog 158 #[.string (str a),.string (str b)] w fun e w'=>e= .returned (.int .i64 (ordO a b))∧w'=w:=by
 have HC:=hid (fun W:World=>Tryz.strings_Compare (str a) (str b) W);rw [show (str a).data.toList=a by simp,show (str b).data.toList=b by simp] at HC;obtain⟨n,hn⟩:∃ n,a.length=n:=⟨_,rfl⟩;obtain⟨m,hm⟩:∃ m,b.length=m:=⟨_,rfl⟩;obtain⟨S,hS⟩:∃ S,str a=S:=⟨_,rfl⟩;obtain⟨T,hT⟩:∃ T,str b=T:=⟨_,rfl⟩;have hSn:S.size=n:=by rw [←hS,str_size,hn]
 have hTn:T.size=m:=by rw [←hT,str_size,hm]
 rw [hS,hT] at HC;rw [hn] at ha;rw [hm] at hb;by_cases ea:a= []
 · have HO:=hid (show ordO a b=(m:Int)-(n:Int) from by unfold ordO;rw [if_pos (.inl ea),hn,hm]);obtain rfl:(⟨#[]⟩:ByteArray)=S:=by rw [←hS,ea]
   obtain rfl:0=n:=by rw [←hn,ea];rfl
   rw [HO.out,hS,hT];clear hS hT hn hm ea;go_enter Tryz.func158,Tryz.ntmps158;go_wp2;go_ret;exact⟨by first|(congr 2;done)|(rw [show (((0:Nat):Int)-(n:Int))= -(n:Int) by omega];rfl),rfl⟩
 · have hne1:¬S=(⟨#[]⟩:ByteArray):=fun e=>ea (str_inj (by rw [hS,e]))
   have hne2:(S.toList== (⟨#[]⟩:ByteArray).toList)=false:=ne_list hne1;have hne3:S.toList.isEmpty=false:=ne_empty hne1;have hne4:(S.toList== [])=false:=by have h:=hne2;rw [ByteArray.toList_eq,ByteArray.toList_eq] at h;rw [ByteArray.toList_eq];exact h
   by_cases eb:b= []
   · have HO:=hid (show ordO a b=(m:Int)-(n:Int) from by unfold ordO;rw [if_pos (.inr eb),hn,hm]);obtain rfl:(⟨#[]⟩:ByteArray)=T:=by rw [←hT,eb]
     obtain rfl:0=m:=by rw [←hm,eb];rfl
     rw [HO.out,hS,hT];clear hS hT hn hm eb;go_enter Tryz.func158,Tryz.ntmps158;go_wp2;go_ret;exact⟨by first|(congr 2;done)|(rw [show (((0:Nat):Int)-(n:Int))= -(n:Int) by omega];rfl),rfl⟩
   · have HO:=hid (show ordO a b=Lib.compareBytes a b from by unfold ordO;rw [if_neg (fun h=>h.elim ea eb)]);have hnf1:¬T=(⟨#[]⟩:ByteArray):=fun e=>eb (str_inj (by rw [hT,e]))
     have hnf2:(T.toList== (⟨#[]⟩:ByteArray).toList)=false:=ne_list hnf1;have hnf3:T.toList.isEmpty=false:=ne_empty hnf1;have hnf4:(T.toList== [])=false:=by have h:=hnf2;rw [ByteArray.toList_eq,ByteArray.toList_eq] at h;rw [ByteArray.toList_eq];exact h
     rw [HO.out,hS,hT];clear hS hT hn hm;go_enter Tryz.func158,Tryz.ntmps158;go_wp2_with (go_at_call 178;(with_reducible refine(HC.out _).mono ?_);rintro e w1 ⟨rfl,rfl⟩);go_ret;exact⟨rfl,rfl⟩
def parV (o:Option (List B)):Value:=match o with
 |none=>.tuple #[keyV [] [],err3]
 |some x=>.tuple #[keyV (keyS x).1 (keyS x).2,.nilIface]
theorem parse_below {w w3:World} (h:Below (w.alloc (.cells #[.string ⟨#[]⟩,.string ⟨#[]⟩] 155 (0,0))).heap.size (w.alloc (.cells #[.string ⟨#[]⟩,.string ⟨#[]⟩] 155 (0,0))) w3) (o:Obj) (a b:Value):Below w.heap.size w (((w3.alloc o).setCell ⟨w.heap.size,0,none⟩ a).setCell ⟨w.heap.size,1,none⟩ b):=by
 have hs:=h.size;rw [show (w.alloc (.cells #[.string ⟨#[]⟩,.string ⟨#[]⟩] 155 (0,0))).heap.size=w.heap.size+1 by simp] at hs;have h1:Below w.heap.size w w3:=(below_new w _).trans (h.mono (by simp));have h2:Below w.heap.size w (w3.alloc o):=h1.trans ((below_new w3 o).mono (by omega));exact(h2.setCell (Nat.le_refl _) a).setCell (Nat.le_refl _) b
theorem parse_any (s:B) (hs:s.length≤9223372036854775807) (w:World) (hmx:MxAt w):Calls Tryz.prog 96 #[.string (str s)] w fun e w'=>e= .returned (parV (patH s))∧Below w.heap.size w w':=by
 by_cases h0:s= []
 · subst h0;rw [show str []=(⟨#[]⟩:ByteArray) from rfl];go_enter Tryz.func96,Tryz.ntmps96;go_wp2;refine bodyPost_ret (results_key rfl _ _ w.heap.size 155 _ (0,0) rfl (heap_alloc_new w _) rfl) rfl ?_;exact⟨rfl,below_new _ _⟩
 · have HL:=hid (fun (W:World) (h:MxAt W)=>plabels_any s true hs W h);have HM:=hid (hmx.next (below_new w (.cells #[.string ⟨#[]⟩,.string ⟨#[]⟩] 155 (0,0))));obtain⟨S,hS⟩:∃ S,str s=S:=⟨_,rfl⟩;have hne1:¬S=(⟨#[]⟩:ByteArray):=fun e=>h0 (str_inj (by rw [hS,e]))
   have hne2:(S.toList== (⟨#[]⟩:ByteArray).toList)=false:=ne_list hne1;have hne3:S.toList.isEmpty=false:=ne_empty hne1;have hne4:(S.toList== [])=false:=by have h:=hne2;rw [ByteArray.toList_eq,ByteArray.toList_eq] at h;rw [ByteArray.toList_eq];exact h
   rw [hS] at HL ⊢;rw [patH_ne h0];clear hS h0 hmx;cases hl:labsH true s with
   |none=>
    rw [hl] at HL;unfold PLab at HL;dsimp only at HL;clear hl;go_enter Tryz.func96,Tryz.ntmps96;go_wp2_with (go_at_call 107;(with_reducible refine(HL.out _ HM.out).mono ?_);rintro e w1 ⟨hb,rfl⟩;have HB:=hid hb;have hbx:=(hb.block w.heap.size (by simp)).trans (heap_alloc_new w (.cells #[.string ⟨#[]⟩,.string ⟨#[]⟩] 155 (0,0)));obtain⟨hq0,hq1,hq2,hq3⟩:=box_facts hbx;obtain⟨hq4,hq5,hq6,hq7⟩:=box_facts (heap_set1 (o:=0) (v:=.string ⟨#[]⟩) hbx);clear hb HL HM);refine bodyPost_ret (results_key rfl _ _ w.heap.size 155 _ (0,0) rfl (heap_two hbx _ _) rfl) rfl ?_;exact⟨rfl,((below_new w _).trans (HB.out.mono (by simp))).setCell (Nat.le_refl _) _ |>.setCell (Nat.le_refl _) _⟩
   |some x=>
    have HU:=hid (fun (W:World) (q:Option Addr) (d:Nat) (h:LbAt W q x)=>under_any x q x.length d rfl (labs_len hl) (labs_mem_len hl) (shapeS x) (by rw [shape_len];exact labs_len hl) W h);have HSh:=hid (fun (W:World) (q:Option Addr) (d:Nat) (h:LbAt W q x)=>shapeOf_any x q x.length d rfl (labs_len hl) W h);rw [under_self] at HU;rw [hl] at HL;unfold PLab at HL;dsimp only at HL;unfold parV undV at*;dsimp only at*;have hxl:=labs_len hl;obtain⟨n,hn⟩:∃ n,x.length=n:=⟨_,rfl⟩;rw [hn] at HU HSh HL hxl;obtain⟨SH,hSH⟩:∃ S,str (shapeS x)=S:=⟨_,rfl⟩;obtain⟨PL,hPL⟩:∃ S,str (keyS x).2=S:=⟨_,rfl⟩;have hk1:(keyS x).1=shapeS x:=rfl;unfold keyV at HU ⊢;rw [hSH,hPL] at HU;rw [hSH] at HSh;rw [hk1,hSH,hPL];clear hSH hPL hl hn hk1;go_enter Tryz.func96,Tryz.ntmps96;go_wp2_with (first|(go_at_call 107;(with_reducible refine(HL.out _ HM.out).mono ?_);rintro e w1 ⟨hb,q1,d1,rfl,ho⟩;have HB:=hid hb;have HT:=hid ho.lb;clear hb ho HL HM)|(go_at_call 132;(with_reducible refine(HSh.out _ _ _ HT.out).mono ?_);rintro e w2 ⟨rfl,hb2⟩;have HT2:=hid (HT.out.next hb2);have HB2:=hid (below_out HB.out hb2);clear hb2 HSh HB HT)|(go_at_call 108;(with_reducible refine(HU.out _ _ _ HT2.out).mono ?_);rintro e w3 ⟨rfl,hb3⟩;have HB3:=hid (below_out HB2.out hb3);have hbx:=(HB3.out.block w.heap.size (by simp)).trans (heap_alloc_new w (.cells #[.string ⟨#[]⟩,.string ⟨#[]⟩] 155 (0,0)));have hbx2:=((below_new w3 (.cells #[.string SH,.string PL] 155 (0,0))).block w.heap.size (lt_of_heap hbx)).trans hbx;obtain⟨hq0,hq1,hq2,hq3⟩:=box_facts hbx2;obtain⟨hq4,hq5,hq6,hq7⟩:=box_facts (heap_set1 (o:=0) (v:=.string SH) hbx2);clear hb3 HU HT2 HB2));refine bodyPost_ret (results_key rfl _ _ w.heap.size 155 _ (0,0) rfl (heap_two hbx2 _ _) rfl) rfl ?_;exact⟨rfl,parse_below HB3.out _ _ _⟩
theorem pcanon_any (s:B) (hs:s.length≤9223372036854775807) (w:World) (hmx:MxAt w):Calls Tryz.prog 66 #[.string (str s)] w fun e w'=>(e= .returned (match labsH false s with|none=>.tuple #[.string ⟨#[]⟩,err3]|some _=>.tuple #[.string (str (lowH s)),.nilIface]))∧Below w.heap.size w w':=by
 have HL:=hid (fun (W:World) (h:MxAt W)=>plabels_any s false (by omega) W h);have HLo:=hid (fun W:World=>lower_any (str s) W (by rw [str_size];unfold maxLen;omega));rw [lowS_strH] at HLo;have HM:=hid hmx;obtain⟨S,hS⟩:∃ S,str s=S:=⟨_,rfl⟩;obtain⟨SL,hSL⟩:∃ S,str (lowH s)=S:=⟨_,rfl⟩;rw [hS] at HL HLo ⊢;rw [hSL] at HLo ⊢;clear hS hSL hmx;cases hl:labsH false s with
 |none=>
  rw [hl] at HL;unfold PLab at HL;dsimp only at HL;clear hl;go_enter Tryz.func66,Tryz.ntmps66;go_wp2_with (go_at_call 107;(with_reducible refine(HL.out _ HM.out).mono ?_);rintro e w1 ⟨hb,rfl⟩;have HB:=hid hb;clear hb HL HM);go_ret2;exact⟨rfl,HB.out⟩
 |some x=>
  rw [hl] at HL;unfold PLab at HL;dsimp only at HL;have hxl:=labs_len hl;obtain⟨n,hn⟩:∃ n,x.length=n:=⟨_,rfl⟩;rw [hn] at HL hxl;clear hl hn;go_enter Tryz.func66,Tryz.ntmps66;go_wp2_with (first|(go_at_call 107;(with_reducible refine(HL.out _ HM.out).mono ?_);rintro e w1 ⟨hb,q1,d1,rfl,ho⟩;have HB:=hid hb;clear hb ho HL HM)|(go_at_call 100;(with_reducible refine(HLo.out _).mono ?_);rintro e w2 ⟨rfl,hb2⟩;have HB2:=hid (below_out HB.out hb2);clear hb2 HLo HB));go_ret2;exact⟨rfl,HB2.out⟩
theorem pcheck_any (s:B) (hs:s.length≤9223372036854775807) (w:World) (hmx:MxAt w):Calls Tryz.prog 56 #[.string (str s)] w fun e w'=>e= .returned (if (patH s).isSome then .nilIface else err3)∧Below w.heap.size w w':=by
 have HP:=hid (parse_any s hs w hmx);obtain⟨S,hS⟩:∃ S,str s=S:=⟨_,rfl⟩;rw [hS] at HP ⊢;clear hS hmx;cases hl:patH s with
 |none=>
  rw [hl] at HP;unfold parV keyV at HP;dsimp only at HP;clear hl;go_enter Tryz.func56,Tryz.ntmps56;go_wp2_with (go_at_call 96;(with_reducible refine HP.out.mono ?_);rintro e w1 ⟨rfl,hb⟩;have HB:=hid hb;clear hb HP);go_ret;exact⟨rfl,HB.out.trans ((below_new w1 _).mono HB.out.size)⟩
 |some x=>
  rw [hl] at HP;unfold parV keyV at HP;dsimp only at HP;obtain⟨SH,hSH⟩:∃ S,str (keyS x).1=S:=⟨_,rfl⟩;obtain⟨PL,hPL⟩:∃ S,str (keyS x).2=S:=⟨_,rfl⟩;rw [hSH,hPL] at HP;clear hSH hPL hl;go_enter Tryz.func56,Tryz.ntmps56;go_wp2_with (go_at_call 96;(with_reducible refine HP.out.mono ?_);rintro e w1 ⟨rfl,hb⟩;have HB:=hid hb;clear hb HP);go_ret;exact⟨rfl,HB.out.trans ((below_new w1 _).mono HB.out.size)⟩
end Go.Proofs.YtlmlljlappjjjaaGreatDoor
