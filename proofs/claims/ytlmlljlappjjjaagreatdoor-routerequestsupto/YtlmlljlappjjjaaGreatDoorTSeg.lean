/- Which segment a text is, by the program; whether a text is among others. -/
import Derived.Test.YtlmlljlappjjjaaGreatDoorTProg
namespace Go.Proofs.YtlmlljlappjjjaaGreatDoor
set_option maxRecDepth 20000
set_option maxHeartbeats 4000000
open Go.RowKit
def segX (x:B):B:=if kindT x=0 then x else x.tail
def okS (x:B):Bool:=if kindT x=0 then x.all visU else tokT x.tail
theorem beg_colon (x:B):begB 58 x=decide (kindT x=1):=by
 unfold begB kindT;split
 · rename_i c t
   by_cases h:c=58
   · simp [h]
   · by_cases h2:c=42 <;> simp [h,h2]
 · rfl
theorem beg_star {x:B} (h1:¬kindT x=1):begB 42 x=decide (kindT x=2):=by
 unfold begB;unfold kindT at h1 ⊢;split
 · rename_i c t
   by_cases h:c=58
   · simp [h] at h1
   · by_cases h2:c=42 <;> simp [h,h2]
 · rfl
theorem seg_size:(Tryz.prog.info? 174).map (·.size)=some 2:=by kernel_rfl
theorem results_seg {fn:Func}{p u:Tmp} (h:fn.results= #[.cell p 174,.tmp u]) (tmps:Array Value) (w:World) (g:Nat) (t:TypeId) (cs:Array Value) (fr:Nat×Nat)
  (hp:tmps.getD p undef= .pointer (some ⟨g,0,none⟩)) (hg:w.heap[g]?=some (.cells cs t fr)) (hs:cs.size=2):(results fn tmps).run Tryz.prog w= .ok (.tuple #[.agg cs,tmps.getD u undef]) w:=by
 have hl:=run_loadVar_row (P:=Tryz.prog) w g t 174 cs fr _ hg Tryz.underlying174 rfl (by rw [seg_size,hs]);rw [results_cell_tmp h,hp];simp [asAddr,Result.andThen,hl]
theorem segof_any (x:B) (hx:x.length≤140737488355328) (w:World):Calls Tryz.prog 134 #[.string (str x)] w fun e w'=>e= .returned (.tuple #[.agg #[.int .i64 (kindT x:Int),.string (str (segX x))],.bool (okS x)])∧Below w.heap.size w w':=by
 have HC:=hid (fun W:World=>cutp_any 58 x hx W);have HC2:=hid (fun W:World=>cutp_any 42 x hx W);have HV:=hid (fun W:World=>isvis_any x hx W);have HT:=hid (fun W:World=>istoken_any (str x.tail) W (by rw [str_size,List.length_tail];unfold maxLen;omega));rw [beg_colon] at HC;unfold cutP at HC HC2;rw [beg_colon] at HC;have hk:=kindT_le x;by_cases h1:kindT x=1
 · have e1:segX x=x.tail:=by unfold segX;rw [if_neg (by omega)]
   have e2:okS x=isTok (str x.tail):=by unfold okS;rw [if_neg (by omega)];rfl
   rw [e1,e2,h1];rw [decide_eq_true h1,if_pos rfl] at HC;obtain⟨S,hS⟩:∃ S,str x=S:=⟨_,rfl⟩;obtain⟨T,hT⟩:∃ T,str x.tail=T:=⟨_,rfl⟩;rw [hS,hT] at HC;rw [hT] at HT;rw [hS,hT];clear hS hT HC2 HV e1 e2 h1 hk;go_enter Tryz.func134,Tryz.ntmps134;go_wp2_with (first|(go_at_call 155;(with_reducible refine(HC.out _).mono ?_);rintro e w1 ⟨rfl,hw1⟩;subst w1)|(go_at_call 40;(with_reducible refine(HT.out _).mono ?_);rintro e w1 ⟨rfl,hw1⟩;subst w1));refine bodyPost_ret (results_seg rfl _ _ _ 174 _ (0,0) rfl (heap_alloc_new w _) rfl) rfl ?_;exact⟨rfl,below_new w _⟩
 · rw [beg_star h1] at HC2;rw [decide_eq_false h1,if_neg (by decide)] at HC;by_cases h2:kindT x=2
   · have e1:segX x=x.tail:=by unfold segX;rw [if_neg (by omega)]
     have e2:okS x=isTok (str x.tail):=by unfold okS;rw [if_neg (by omega)];rfl
     rw [e1,e2,h2];rw [decide_eq_true h2,if_pos rfl] at HC2;obtain⟨S,hS⟩:∃ S,str x=S:=⟨_,rfl⟩;obtain⟨T,hT⟩:∃ T,str x.tail=T:=⟨_,rfl⟩;rw [hS] at HC;rw [hS,hT] at HC2;rw [hT] at HT;rw [hS,hT];clear hS hT HV e1 e2 h1 h2 hk;go_enter Tryz.func134,Tryz.ntmps134;go_wp2_with (first|(go_at_call 155;first|((with_reducible refine(HC.out _).mono ?_);rintro e w1 ⟨rfl,hw1⟩;subst w1)|((with_reducible refine(HC2.out _).mono ?_);rintro e w1 ⟨rfl,hw1⟩;subst w1))|(go_at_call 40;(with_reducible refine(HT.out _).mono ?_);rintro e w1 ⟨rfl,hw1⟩;subst w1));refine bodyPost_ret (results_seg rfl _ _ _ 174 _ (0,0) rfl (heap_alloc_new w _) rfl) rfl ?_;exact⟨rfl,below_new w _⟩
   · have h0:kindT x=0:=by omega
     have e1:segX x=x:=by unfold segX;rw [if_pos h0]
     have e2:okS x=x.all visU:=by unfold okS;rw [if_pos h0]
     rw [e1,e2,h0];rw [decide_eq_false h2,if_neg (by decide)] at HC2;obtain⟨S,hS⟩:∃ S,str x=S:=⟨_,rfl⟩;obtain⟨bv,hbv⟩:∃ bv,x.all visU=bv:=⟨_,rfl⟩;rw [hS] at HC HC2 HV;rw [hbv] at HV ⊢;rw [hS];clear hS hbv e1 e2 h1 h2 h0 hk HT;go_enter Tryz.func134,Tryz.ntmps134;go_wp2_with (first|(go_at_call 155;first|((with_reducible refine(HC.out _).mono ?_);rintro e w1 ⟨rfl,hw1⟩;subst w1)|((with_reducible refine(HC2.out _).mono ?_);rintro e w1 ⟨rfl,hw1⟩;subst w1))|(go_at_call 156;(with_reducible refine(HV.out _).mono ?_);rintro e w1 ⟨rfl,hw1⟩;subst w1));refine bodyPost_ret (results_seg rfl _ _ _ 174 _ (0,0) rfl (heap_alloc_new w _) rfl) rfl ?_;exact⟨rfl,below_new w _⟩
theorem index_any (l:List B) (p:Option Addr) (n c:Nat) (hn:l.length=n) (hnn:n≤140737488355328) (y:B) (w:World) (hT:TxAt w p l):Calls Tryz.prog 75 #[.slice p n c,.string (str y)] w fun e w'=>(∃ r:Int,e= .returned (.int .i64 r)∧decide (0≤r)=l.contains y)∧w'=w:=by
 have HN:=hid hn;have HT:=hid hT;obtain⟨Y,hY⟩:∃ Y,str y=Y:=⟨_,rfl⟩;have HY:=hid hY;rw [hY];clear hn hT hY;go_enter Tryz.func75,Tryz.ntmps75;go_wp2;go_loopg [8] (n+1) (fun gk s8 wr=>∃ i:Nat,i≤n∧gk=n-i+1∧s8= .int .i64 (i:Int)∧(l.take i).contains y=false∧wr=w)
 case atStart=>exact⟨0,by omega,rfl,rfl,rfl,rfl⟩
 case round=>
  obtain⟨i,hi,rfl,rfl,hno,rfl⟩:=hrel;have HNo:=hid hno;clear hno;by_cases hin:i<n
  · obtain⟨a,ha⟩:∃ a,l[i]?=some a:=⟨_,List.getElem?_eq_getElem (by rw [HN.out];exact hin)⟩;obtain⟨g,o,rfl,hc⟩:=HT.out i a ha;obtain⟨Sa,hSa⟩:∃ S,str a=S:=⟨_,rfl⟩;rw [hSa] at hc;have HA:=hid ha;by_cases hab:y=a
    · obtain rfl:Sa=Y:=by rw [←hSa,←HY.out,hab]
      have HR:=hid (show l.contains y=true from by rw [List.contains_iff_mem,hab];exact List.mem_of_getElem? ha);clear ha hSa hab;go_wp2;go_ret;exact⟨⟨_,rfl,by rw [HR.out];exact decide_eq_true (by omega)⟩,rfl⟩
    · have hS:¬Y=Sa:=fun h=>hab (str_inj (by rw [HY.out,hSa,h]))
      have hS4:(Y.toList== Sa.toList)=false:=ne_list hS;have HR:=hid (show (l.take (i+1)).contains y=false from by
       rw [List.take_add_one,ha];have h1:=HNo.out;rw [List.contains_eq_mem,decide_eq_false_iff_not] at h1 ⊢;simp;exact⟨h1,hab⟩)
      clear ha hSa hab;go_wp2;go_roundg (n-(i+1)+1)
      case measure=>omega
      case rel=>exact⟨i+1,by omega,rfl,by push_cast;go_num,HR.out,rfl⟩
  · obtain rfl:n=i:=by omega
    have HR:=hid (show l.contains y=false from by have h1:=HNo.out;rw [List.take_of_length_le (by rw [HN.out];exact Nat.le_refl _)] at h1;exact h1);go_wp2;go_ret;exact⟨⟨-1,rfl,by rw [HR.out];rfl⟩,rfl⟩
theorem contains_any (l:List B) (p:Option Addr) (n c:Nat) (hn:l.length=n) (hnn:n≤140737488355328) (y:B) (w:World) (hT:TxAt w p l):Calls Tryz.prog 41 #[.slice p n c,.string (str y)] w fun e w'=>e= .returned (.bool (l.contains y))∧w'=w:=by
 have HI:=hid (index_any l p n c hn hnn y w hT);obtain⟨Y,hY⟩:∃ Y,str y=Y:=⟨_,rfl⟩;rw [hY] at HI ⊢;obtain⟨v,hv⟩:∃ v,l.contains y=v:=⟨_,rfl⟩;rw [hv] at HI ⊢;clear hv hY hT hn;go_enter Tryz.func41,Tryz.ntmps41;go_wp2_with (go_at_call 75;(with_reducible refine HI.out.mono ?_);rintro e w1 ⟨⟨r,rfl,hr⟩,hw1⟩;subst w1);go_ret;exact⟨rfl,rfl⟩
end Go.Proofs.YtlmlljlappjjjaaGreatDoor
