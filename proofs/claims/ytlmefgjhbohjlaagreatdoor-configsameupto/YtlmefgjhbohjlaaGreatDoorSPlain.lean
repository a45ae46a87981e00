/- The program: whether a key, a backend, a pool of that name is among some; the first one's place. -/
import Derived.Test.YtlmefgjhbohjlaaGreatDoorGPool1
import Derived.Lib.ItoaMem
namespace Go.Proofs.YtlmefgjhbohjlaaGreatDoor
set_option maxRecDepth 20000
set_option maxHeartbeats 8000000
open Go.RowKit
def fidx {α:Type} (P:α→Bool) (l:List α):Int:=match l.findIdx? P with
 |some i=>(i:Int)
 |none=> -1
theorem fidx_hit {α:Type}{P:α→Bool}{l:List α}{i:Nat}{x:α} (hno:∀ y∈l.take i,P y=false) (hx:l[i]?=some x) (h:P x=true):fidx P l=(i:Int):=by
 obtain⟨h1,h2⟩:=List.getElem?_eq_some_iff.1 hx;unfold fidx;rw [(List.findIdx?_eq_some_iff_getElem).2 ⟨h1,by rw [h2];exact h,fun j hj=>by
  have hjl:j<l.length:=by omega
  have hm:l[j]∈l.take i:=List.mem_take_iff_getElem.2 ⟨j,by omega,rfl⟩;simp [hno _ hm]⟩]
theorem fidx_none {α:Type}{P:α→Bool}{l:List α} (hno:∀ y∈l,P y=false):fidx P l= -1:=by
 unfold fidx;rw [List.findIdx?_eq_none_iff.2 hno]
theorem fidx_any {α:Type} (P:α→Bool) (l:List α):decide (0≤fidx P l)=l.any P:=by
 unfold fidx;cases h:l.findIdx? P with
 |none=>
  have h1:=List.findIdx?_eq_none_iff.1 h;rw [List.any_eq_false.2 (fun x hx=>by rw [h1 x hx];decide)];rfl
 |some i=>
  obtain⟨h1,h2,_⟩:=List.findIdx?_eq_some_iff_getElem.1 h;rw [List.any_eq_true.2 ⟨_,List.getElem_mem h1,h2⟩];simp
theorem no_nextP {α:Type}{P:α→Bool}{l:List α}{i:Nat}{x:α} (hno:∀ y∈l.take i,P y=false) (hx:l[i]?=some x) (h:P x=false):∀ y∈l.take (i+1),P y=false:=by
 rw [List.take_add_one,hx];intro y hy;rcases List.mem_append.1 hy with h1|h1
 · exact hno y h1
 · simp at h1;rw [h1];exact h
theorem pkeyis_any (g:Nat) (Y:ByteArray) (X S:ByteArray) (w:World) (hg:w.cell? ⟨g,0,none⟩=some (.string X)):Calls Tryz.prog 152 #[.agg #[.string S,.string Y],.pointer (some ⟨g,0,none⟩)] w fun e w'=>e= .returned (.bool (decide (S=X)))∧Below w.heap.size w w':=by
 have HB0:=hid (below_new w (.cells #[.string S,.string Y] 72 (0,0)));have hg2:=cell_keep HB0.out hg;clear hg;by_cases h:S=X
 · subst h;go_enter Tryz.func152,Tryz.ntmps152;go_wp2;go_ret;exact⟨ret_bool (by simp),HB0.out⟩
 · have h2:=ne_list h;rw [decide_eq_false h];go_enter Tryz.func152,Tryz.ntmps152;go_wp2;go_ret;exact⟨rfl,HB0.out⟩
theorem pkeyidx_any (l:List KeyC) (p:Option Addr) (n c:Nat) (hn:l.length=n) (hnn:n≤9223372036854775807) (x:B) (g:Nat) (w:World) (hg:w.cell? ⟨g,0,none⟩=some (.string (str x))) (hB:KyAt w p l):Calls Tryz.prog 219 #[.slice p n c,.func (.func 152) #[] #[.pointer (some ⟨g,0,none⟩)]] w fun e w'=>e= .returned (.int .i64 (fidx (fun a=>decide (a.id=x)) l))∧Below w.heap.size w w':=by
 have HN:=hid hn;have HBk:=hid hB;have HSx:=hid (show ∀ y:KeyC,(str y.id=str x)↔y.id=x from fun y=>⟨str_inj,fun h=>by rw [h]⟩);obtain⟨X,hX⟩:∃ X,str x=X:=⟨_,rfl⟩;rw [hX] at hg HSx;have HG:=hid hg;clear hn hB hX hg;go_enter Tryz.func219,Tryz.ntmps219;go_wp2;go_loopg [8] (n+1) (fun gk s8 wr=>∃ i:Nat,i≤n∧gk=n-i+1∧s8= .int .i64 (i:Int)∧(∀ y∈l.take i,decide (y.id=x)=false)∧Below w.heap.size w wr)
 case atStart=>exact⟨0,by omega,rfl,rfl,by simp,Below.refl _ _⟩
 case round=>
  obtain⟨i,hi,rfl,rfl,hE,hb⟩:=hrel;have HE:=hid hE;have HB:=hid hb;have hg2:=cell_keep hb HG.out;clear hE hb;by_cases hin:i<n
  case neg=>
   have hiN:i=n:=by omega
   subst hiN;have HR:=hid (show fidx (fun a=>decide (a.id=x)) l= -1 from fidx_none (by have h:=HE.out;rw [List.take_of_length_le (by rw [HN.out];exact Nat.le_refl _)] at h;exact h));go_wp2;go_ret;exact⟨by rw [HR.out];rfl,HB.out⟩
  have h1:i<l.length:=by rw [HN.out];exact hin
  obtain⟨y,hy⟩:∃ y,l[i]?=some y:=⟨_,List.getElem?_eq_getElem h1⟩;have HY:=hid hy;obtain⟨g1,o1,rfl,q0,q1⟩:=(HBk.out.next HB.out) i y hy;obtain⟨Sy,hSy⟩:∃ S,str y.id=S:=⟨_,rfl⟩;have HIn:=hid (show (Sy=X)↔y.id=x from by rw [←hSy];exact HSx.out y);rw [hSy] at q0;have HCl:=hid (pkeyis_any g (str y.sec) X Sy wr hg2);clear h1 hy hSy;by_cases hyx:y.id=x
  · have hS:=HIn.out.2 hyx;have HR:=hid (show fidx (fun a=>decide (a.id=x)) l=(i:Int) from fidx_hit HE.out HY.out (decide_eq_true hyx));rw [decide_eq_true hS] at HCl;clear hyx hS HIn;go_wp2_with (go_at_call 152;(with_reducible refine HCl.out.mono ?_);rintro e w1 ⟨rfl,hw1⟩;have HB1:=hid (HB.out.trans (hw1.mono HB.out.size));clear hw1);go_ret;exact⟨by rw [HR.out];rfl,HB1.out⟩
  · have hS:¬Sy=X:=fun e=>hyx (HIn.out.1 e)
    have HNx:=hid (no_nextP HE.out HY.out (decide_eq_false hyx));rw [decide_eq_false hS] at HCl;clear hyx hS HIn;go_wp2_with (go_at_call 152;(with_reducible refine HCl.out.mono ?_);rintro e w1 ⟨rfl,hw1⟩;have HB1:=hid (HB.out.trans (hw1.mono HB.out.size));clear hw1);go_roundg (n-(i+1)+1)
    case measure=>omega
    case rel=>exact⟨i+1,by omega,by omega,by go_num,HNx.out,HB1.out⟩
theorem pkeyhas_any (l:List KeyC) (p:Option Addr) (n c:Nat) (hn:l.length=n) (hnn:n≤9223372036854775807) (x:B) (g:Nat) (w:World) (hg:w.cell? ⟨g,0,none⟩=some (.string (str x))) (hB:KyAt w p l):Calls Tryz.prog 154 #[.slice p n c,.func (.func 152) #[] #[.pointer (some ⟨g,0,none⟩)]] w fun e w'=>e= .returned (.bool (l.any (fun a=>decide (a.id=x))))∧Below w.heap.size w w':=by
 have HI:=hid (pkeyidx_any l p n c hn hnn x g w hg hB);rw [←fidx_any];obtain⟨I,hI⟩:∃ I,fidx (fun a:KeyC=>decide (a.id=x)) l=I:=⟨_,rfl⟩;rw [hI] at HI ⊢;clear hI hg hB hn;go_enter Tryz.func154,Tryz.ntmps154;go_wp2_with (go_at_call 219;(with_reducible refine HI.out.mono ?_);rintro e w1 ⟨rfl,hw1⟩;have HB1:=hid hw1;clear hw1);go_ret;exact⟨rfl,HB1.out⟩
theorem pbackis_any (g:Nat) (Y:Int) (X S:ByteArray) (w:World) (hg:w.cell? ⟨g,0,none⟩=some (.string X)):Calls Tryz.prog 220 #[.agg #[.string S,.int .i64 Y],.pointer (some ⟨g,0,none⟩)] w fun e w'=>e= .returned (.bool (decide (S=X)))∧Below w.heap.size w w':=by
 have HB0:=hid (below_new w (.cells #[.string S,.int .i64 Y] 145 (0,0)));have hg2:=cell_keep HB0.out hg;clear hg;by_cases h:S=X
 · subst h;go_enter Tryz.func220,Tryz.ntmps220;go_wp2;go_ret;exact⟨ret_bool (by simp),HB0.out⟩
 · have h2:=ne_list h;rw [decide_eq_false h];go_enter Tryz.func220,Tryz.ntmps220;go_wp2;go_ret;exact⟨rfl,HB0.out⟩
theorem pbackidx_any (l:List BackC) (p:Option Addr) (n c:Nat) (hn:l.length=n) (hnn:n≤9223372036854775807) (x:B) (g:Nat) (w:World) (hg:w.cell? ⟨g,0,none⟩=some (.string (str x))) (hB:BkAt w p l):Calls Tryz.prog 266 #[.slice p n c,.func (.func 220) #[] #[.pointer (some ⟨g,0,none⟩)]] w fun e w'=>e= .returned (.int .i64 (fidx (fun a=>decide (a.addr=x)) l))∧Below w.heap.size w w':=by
 have HN:=hid hn;have HBk:=hid hB;have HSx:=hid (show ∀ y:BackC,(str y.addr=str x)↔y.addr=x from fun y=>⟨str_inj,fun h=>by rw [h]⟩);obtain⟨X,hX⟩:∃ X,str x=X:=⟨_,rfl⟩;rw [hX] at hg HSx;have HG:=hid hg;clear hn hB hX hg;go_enter Tryz.func266,Tryz.ntmps266;go_wp2;go_loopg [8] (n+1) (fun gk s8 wr=>∃ i:Nat,i≤n∧gk=n-i+1∧s8= .int .i64 (i:Int)∧(∀ y∈l.take i,decide (y.addr=x)=false)∧Below w.heap.size w wr)
 case atStart=>exact⟨0,by omega,rfl,rfl,by simp,Below.refl _ _⟩
 case round=>
  obtain⟨i,hi,rfl,rfl,hE,hb⟩:=hrel;have HE:=hid hE;have HB:=hid hb;have hg2:=cell_keep hb HG.out;clear hE hb;by_cases hin:i<n
  case neg=>
   have hiN:i=n:=by omega
   subst hiN;have HR:=hid (show fidx (fun a=>decide (a.addr=x)) l= -1 from fidx_none (by have h:=HE.out;rw [List.take_of_length_le (by rw [HN.out];exact Nat.le_refl _)] at h;exact h));go_wp2;go_ret;exact⟨by rw [HR.out];rfl,HB.out⟩
  have h1:i<l.length:=by rw [HN.out];exact hin
  obtain⟨y,hy⟩:∃ y,l[i]?=some y:=⟨_,List.getElem?_eq_getElem h1⟩;have HY:=hid hy;obtain⟨g1,o1,rfl,q0,q1⟩:=(HBk.out.next HB.out) i y hy;obtain⟨Sy,hSy⟩:∃ S,str y.addr=S:=⟨_,rfl⟩;have HIn:=hid (show (Sy=X)↔y.addr=x from by rw [←hSy];exact HSx.out y);rw [hSy] at q0;have HCl:=hid (pbackis_any g y.wt X Sy wr hg2);clear h1 hy hSy;by_cases hyx:y.addr=x
  · have hS:=HIn.out.2 hyx;have HR:=hid (show fidx (fun a=>decide (a.addr=x)) l=(i:Int) from fidx_hit HE.out HY.out (decide_eq_true hyx));rw [decide_eq_true hS] at HCl;clear hyx hS HIn;go_wp2_with (go_at_call 220;(with_reducible refine HCl.out.mono ?_);rintro e w1 ⟨rfl,hw1⟩;have HB1:=hid (HB.out.trans (hw1.mono HB.out.size));clear hw1);go_ret;exact⟨by rw [HR.out];rfl,HB1.out⟩
  · have hS:¬Sy=X:=fun e=>hyx (HIn.out.1 e)
    have HNx:=hid (no_nextP HE.out HY.out (decide_eq_false hyx));rw [decide_eq_false hS] at HCl;clear hyx hS HIn;go_wp2_with (go_at_call 220;(with_reducible refine HCl.out.mono ?_);rintro e w1 ⟨rfl,hw1⟩;have HB1:=hid (HB.out.trans (hw1.mono HB.out.size));clear hw1);go_roundg (n-(i+1)+1)
    case measure=>omega
    case rel=>exact⟨i+1,by omega,by omega,by go_num,HNx.out,HB1.out⟩
theorem pbackhas_any (l:List BackC) (p:Option Addr) (n c:Nat) (hn:l.length=n) (hnn:n≤9223372036854775807) (x:B) (g:Nat) (w:World) (hg:w.cell? ⟨g,0,none⟩=some (.string (str x))) (hB:BkAt w p l):Calls Tryz.prog 222 #[.slice p n c,.func (.func 220) #[] #[.pointer (some ⟨g,0,none⟩)]] w fun e w'=>e= .returned (.bool (l.any (fun a=>decide (a.addr=x))))∧Below w.heap.size w w':=by
 have HI:=hid (pbackidx_any l p n c hn hnn x g w hg hB);rw [←fidx_any];obtain⟨I,hI⟩:∃ I,fidx (fun a:BackC=>decide (a.addr=x)) l=I:=⟨_,rfl⟩;rw [hI] at HI ⊢;clear hI hg hB hn;go_enter Tryz.func222,Tryz.ntmps222;go_wp2_with (go_at_call 266;(with_reducible refine HI.out.mono ?_);rintro e w1 ⟨rfl,hw1⟩;have HB1:=hid hw1;clear hw1);go_ret;exact⟨rfl,HB1.out⟩
theorem ppoolis_any (g:Nat) (pb:Option Addr) (nb cb:Nat) (Y:ByteArray) (i1 i2 i3 i4 i5 i6 i7 i8 i9:Int) (X S:ByteArray) (w:World) (hg:w.cell? ⟨g,0,none⟩=some (.string X)):Calls Tryz.prog 155 #[.agg #[.string S,.slice pb nb cb,.int .i64 i1,.int .i64 i2,.int .i64 i3,.int .i64 i4,.int .i64 i5,.string Y,.int .i64 i6,.int .i64 i7,.int .i64 i8,.int .i64 i9],.pointer (some ⟨g,0,none⟩)] w fun e w'=>e= .returned (.bool (decide (S=X)))∧Below w.heap.size w w':=by
 have HB0:=hid (below_new w (.cells #[.string S,.slice pb nb cb,.int .i64 i1,.int .i64 i2,.int .i64 i3,.int .i64 i4,.int .i64 i5,.string Y,.int .i64 i6,.int .i64 i7,.int .i64 i8,.int .i64 i9] 83 (0,0)));have hg2:=cell_keep HB0.out hg;clear hg;by_cases h:S=X
 · subst h;go_enter Tryz.func155,Tryz.ntmps155;go_wp2;go_ret;exact⟨ret_bool (by simp),HB0.out⟩
 · have h2:=ne_list h;rw [decide_eq_false h];go_enter Tryz.func155,Tryz.ntmps155;go_wp2;go_ret;exact⟨rfl,HB0.out⟩
theorem ppoolidx_any (l:List PoolC) (p:Option Addr) (n c:Nat) (hn:l.length=n) (hnn:n≤9223372036854775807) (x:B) (g:Nat) (w:World) (hg:w.cell? ⟨g,0,none⟩=some (.string (str x))) (hB:PoAt w p l):Calls Tryz.prog 52 #[.slice p n c,.func (.func 155) #[] #[.pointer (some ⟨g,0,none⟩)]] w fun e w'=>e= .returned (.int .i64 (fidx (fun a=>decide (a.name=x)) l))∧Below w.heap.size w w':=by
 have HN:=hid hn;have HBk:=hid hB;have HSx:=hid (show ∀ y:PoolC,(str y.name=str x)↔y.name=x from fun y=>⟨str_inj,fun h=>by rw [h]⟩);obtain⟨X,hX⟩:∃ X,str x=X:=⟨_,rfl⟩;rw [hX] at hg HSx;have HG:=hid hg;clear hn hB hX hg;go_enter Tryz.func52,Tryz.ntmps52;go_wp2;go_loopg [8] (n+1) (fun gk s8 wr=>∃ i:Nat,i≤n∧gk=n-i+1∧s8= .int .i64 (i:Int)∧(∀ y∈l.take i,decide (y.name=x)=false)∧Below w.heap.size w wr)
 case atStart=>exact⟨0,by omega,rfl,rfl,by simp,Below.refl _ _⟩
 case round=>
  obtain⟨i,hi,rfl,rfl,hE,hb⟩:=hrel;have HE:=hid hE;have HB:=hid hb;have hg2:=cell_keep hb HG.out;clear hE hb;by_cases hin:i<n
  case neg=>
   have hiN:i=n:=by omega
   subst hiN;have HR:=hid (show fidx (fun a=>decide (a.name=x)) l= -1 from fidx_none (by have h:=HE.out;rw [List.take_of_length_le (by rw [HN.out];exact Nat.le_refl _)] at h;exact h));go_wp2;go_ret;exact⟨by rw [HR.out];rfl,HB.out⟩
  have h1:i<l.length:=by rw [HN.out];exact hin
  obtain⟨y,hy⟩:∃ y,l[i]?=some y:=⟨_,List.getElem?_eq_getElem h1⟩;have HY:=hid hy;obtain⟨g1,o1,pb,cb,rfl,hpc,_⟩:=(HBk.out.next HB.out) i y hy;obtain⟨q0,q1,q2,q3,q4,q5,q6,q7,q8,q9,q10,q11⟩:=hpc;obtain⟨Sy,hSy⟩:∃ S,str y.name=S:=⟨_,rfl⟩;have HIn:=hid (show (Sy=X)↔y.name=x from by rw [←hSy];exact HSx.out y);rw [hSy] at q0;have HCl:=hid (ppoolis_any g pb y.backs.length cb (str y.probe.path) y.policy y.retries y.timeout y.fails y.opn y.probe.every y.probe.timeout y.probe.rise y.probe.fall X Sy wr hg2);clear h1 hy hSy;by_cases hyx:y.name=x
  · have hS:=HIn.out.2 hyx;have HR:=hid (show fidx (fun a=>decide (a.name=x)) l=(i:Int) from fidx_hit HE.out HY.out (decide_eq_true hyx));rw [decide_eq_true hS] at HCl;clear hyx hS HIn;go_wp2_with (go_at_call 155;(with_reducible refine HCl.out.mono ?_);rintro e w1 ⟨rfl,hw1⟩;have HB1:=hid (HB.out.trans (hw1.mono HB.out.size));clear hw1);go_ret;exact⟨by rw [HR.out];rfl,HB1.out⟩
  · have hS:¬Sy=X:=fun e=>hyx (HIn.out.1 e)
    have HNx:=hid (no_nextP HE.out HY.out (decide_eq_false hyx));rw [decide_eq_false hS] at HCl;clear hyx hS HIn;go_wp2_with (go_at_call 155;(with_reducible refine HCl.out.mono ?_);rintro e w1 ⟨rfl,hw1⟩;have HB1:=hid (HB.out.trans (hw1.mono HB.out.size));clear hw1);go_roundg (n-(i+1)+1)
    case measure=>omega
    case rel=>exact⟨i+1,by omega,by omega,by go_num,HNx.out,HB1.out⟩
theorem ppoolhas_any (l:List PoolC) (p:Option Addr) (n c:Nat) (hn:l.length=n) (hnn:n≤9223372036854775807) (x:B) (g:Nat) (w:World) (hg:w.cell? ⟨g,0,none⟩=some (.string (str x))) (hB:PoAt w p l):Calls Tryz.prog 156 #[.slice p n c,.func (.func 155) #[] #[.pointer (some ⟨g,0,none⟩)]] w fun e w'=>e= .returned (.bool (l.any (fun a=>decide (a.name=x))))∧Below w.heap.size w w':=by
 have HI:=hid (ppoolidx_any l p n c hn hnn x g w hg hB);rw [←fidx_any];obtain⟨I,hI⟩:∃ I,fidx (fun a:PoolC=>decide (a.name=x)) l=I:=⟨_,rfl⟩;rw [hI] at HI ⊢;clear hI hg hB hn;go_enter Tryz.func156,Tryz.ntmps156;go_wp2_with (go_at_call 52;(with_reducible refine HI.out.mono ?_);rintro e w1 ⟨rfl,hw1⟩;have HB1:=hid hw1;clear hw1);go_ret;exact⟨rfl,HB1.out⟩
theorem ppoolof_any (g:Nat) (pb:Option Addr) (nb cb:Nat) (Y:ByteArray) (i1 i2 i3 i4 i5 i6 i7 i8 i9:Int) (X S:ByteArray) (w:World) (hg:w.cell? ⟨g,0,none⟩=some (.string X)):Calls Tryz.prog 53 #[.agg #[.string S,.slice pb nb cb,.int .i64 i1,.int .i64 i2,.int .i64 i3,.int .i64 i4,.int .i64 i5,.string Y,.int .i64 i6,.int .i64 i7,.int .i64 i8,.int .i64 i9],.pointer (some ⟨g,0,none⟩)] w fun e w'=>e= .returned (.bool (decide (S=X)))∧Below w.heap.size w w':=by
 have HB0:=hid (below_new w (.cells #[.string S,.slice pb nb cb,.int .i64 i1,.int .i64 i2,.int .i64 i3,.int .i64 i4,.int .i64 i5,.string Y,.int .i64 i6,.int .i64 i7,.int .i64 i8,.int .i64 i9] 83 (0,0)));have hg2:=cell_keep HB0.out hg;clear hg;by_cases h:S=X
 · subst h;go_enter Tryz.func53,Tryz.ntmps53;go_wp2;go_ret;exact⟨ret_bool (by simp),HB0.out⟩
 · have h2:=ne_list h;rw [decide_eq_false h];go_enter Tryz.func53,Tryz.ntmps53;go_wp2;go_ret;exact⟨rfl,HB0.out⟩
theorem ppoolat_any (l:List PoolC) (p:Option Addr) (n c:Nat) (hn:l.length=n) (hnn:n≤9223372036854775807) (x:B) (g:Nat) (w:World) (hg:w.cell? ⟨g,0,none⟩=some (.string (str x))) (hB:PoAt w p l):Calls Tryz.prog 52 #[.slice p n c,.func (.func 53) #[] #[.pointer (some ⟨g,0,none⟩)]] w fun e w'=>e= .returned (.int .i64 (fidx (fun a=>decide (a.name=x)) l))∧Below w.heap.size w w':=by
 have HN:=hid hn;have HBk:=hid hB;have HSx:=hid (show ∀ y:PoolC,(str y.name=str x)↔y.name=x from fun y=>⟨str_inj,fun h=>by rw [h]⟩);obtain⟨X,hX⟩:∃ X,str x=X:=⟨_,rfl⟩;rw [hX] at hg HSx;have HG:=hid hg;clear hn hB hX hg;go_enter Tryz.func52,Tryz.ntmps52;go_wp2;go_loopg [8] (n+1) (fun gk s8 wr=>∃ i:Nat,i≤n∧gk=n-i+1∧s8= .int .i64 (i:Int)∧(∀ y∈l.take i,decide (y.name=x)=false)∧Below w.heap.size w wr)
 case atStart=>exact⟨0,by omega,rfl,rfl,by simp,Below.refl _ _⟩
 case round=>
  obtain⟨i,hi,rfl,rfl,hE,hb⟩:=hrel;have HE:=hid hE;have HB:=hid hb;have hg2:=cell_keep hb HG.out;clear hE hb;by_cases hin:i<n
  case neg=>
   have hiN:i=n:=by omega
   subst hiN;have HR:=hid (show fidx (fun a=>decide (a.name=x)) l= -1 from fidx_none (by have h:=HE.out;rw [List.take_of_length_le (by rw [HN.out];exact Nat.le_refl _)] at h;exact h));go_wp2;go_ret;exact⟨by rw [HR.out];rfl,HB.out⟩
  have h1:i<l.length:=by rw [HN.out];exact hin
  obtain⟨y,hy⟩:∃ y,l[i]?=some y:=⟨_,List.getElem?_eq_getElem h1⟩;have HY:=hid hy;obtain⟨g1,o1,pb,cb,rfl,hpc,_⟩:=(HBk.out.next HB.out) i y hy;obtain⟨q0,q1,q2,q3,q4,q5,q6,q7,q8,q9,q10,q11⟩:=hpc;obtain⟨Sy,hSy⟩:∃ S,str y.name=S:=⟨_,rfl⟩;have HIn:=hid (show (Sy=X)↔y.name=x from by rw [←hSy];exact HSx.out y);rw [hSy] at q0;have HCl:=hid (ppoolof_any g pb y.backs.length cb (str y.probe.path) y.policy y.retries y.timeout y.fails y.opn y.probe.every y.probe.timeout y.probe.rise y.probe.fall X Sy wr hg2);clear h1 hy hSy;by_cases hyx:y.name=x
  · have hS:=HIn.out.2 hyx;have HR:=hid (show fidx (fun a=>decide (a.name=x)) l=(i:Int) from fidx_hit HE.out HY.out (decide_eq_true hyx));rw [decide_eq_true hS] at HCl;clear hyx hS HIn;go_wp2_with (go_at_call 53;(with_reducible refine HCl.out.mono ?_);rintro e w1 ⟨rfl,hw1⟩;have HB1:=hid (HB.out.trans (hw1.mono HB.out.size));clear hw1);go_ret;exact⟨by rw [HR.out];rfl,HB1.out⟩
  · have hS:¬Sy=X:=fun e=>hyx (HIn.out.1 e)
    have HNx:=hid (no_nextP HE.out HY.out (decide_eq_false hyx));rw [decide_eq_false hS] at HCl;clear hyx hS HIn;go_wp2_with (go_at_call 53;(with_reducible refine HCl.out.mono ?_);rintro e w1 ⟨rfl,hw1⟩;have HB1:=hid (HB.out.trans (hw1.mono HB.out.size));clear hw1);go_roundg (n-(i+1)+1)
    case measure=>omega
    case rel=>exact⟨i+1,by omega,by omega,by go_num,HNx.out,HB1.out⟩
theorem pwithin_any (n lo hi:Int) (w:World):Calls Tryz.prog 92 #[.int .i64 n,.int .i64 lo,.int .i64 hi] w fun e w'=>e= .returned (.bool (inC n lo hi))∧w'=w:=by
 go_enter Tryz.func92,Tryz.ntmps92;go_wp2;all_goals
  go_ret;exact⟨ret_bool (by rw [Bool.eq_iff_iff];simp [inC];try omega),rfl⟩
theorem ptoken_any (s:B) (most:Int) (hs:s.length≤maxLen) (w:World):Calls Tryz.prog 153 #[.string (str s),.int .i64 most] w fun e w'=>e= .returned (.bool (tokC s most))∧w'=w:=by
 have HT:=hid (fun W:World=>istoken_any (str s) W (by rw [str_size];exact hs));have hz:=str_size s;unfold tokC;obtain⟨n,hn⟩:∃ n,s.length=n:=⟨_,rfl⟩;obtain⟨S,hS⟩:∃ S,str s=S:=⟨_,rfl⟩;rw [hS] at HT hz ⊢;rw [hn] at hz hs ⊢;obtain⟨b,hb⟩:∃ b,isTok S=b:=⟨_,rfl⟩;rw [hb] at HT ⊢;clear hS hb hn;unfold maxLen at hs;cases b;all_goals
  go_enter Tryz.func153,Tryz.ntmps153;go_wp2_with (go_at_call 218;(with_reducible refine(HT.out _).mono ?_);rintro e w1 ⟨rfl,hw1⟩;subst w1);all_goals
   go_ret;exact⟨ret_bool (by first|rfl|(rw [Bool.eq_iff_iff];simp;try omega)),rfl⟩
theorem pempty_any (s:B) (w:World):Calls Tryz.prog 224 #[.string (str s)] w fun e w'=>e= .returned (.bool (decide (s= [])))∧w'=w:=by
 by_cases h:s= []
 · subst h;go_enter Tryz.func224,Tryz.ntmps224;go_wp2;go_ret;exact⟨rfl,rfl⟩
 · have f1:=ne_facts h;obtain⟨S,hS⟩:∃ S,str s=S:=⟨_,rfl⟩;rw [hS] at f1 ⊢;have f2:(S.toList== (⟨#[]⟩:ByteArray).toList)=false:=ne_list f1;have f3:S.toList.isEmpty=false:=ne_empty f1;have f4:(S.toList== [])=false:=by have h:=f2;rw [ByteArray.toList_eq,ByteArray.toList_eq] at h;rw [ByteArray.toList_eq];exact h
   have HD:=hid (decide_eq_false h);clear hS h;go_enter Tryz.func224,Tryz.ntmps224;go_wp2;go_ret;exact⟨ret_bool HD.out.symm,rfl⟩
def partC (n at_:B):B:=if at_= [] then [] else n++46::at_
theorem ppart_any (n s:B) (hn:n.length≤4398046511104) (hs:s.length≤4398046511104) (w:World):Calls Tryz.prog 160 #[.string (str n),.string (str s)] w fun e w'=>e= .returned (.string (str (partC n s)))∧w'=w:=by
 have hz1:=str_size n;have hz2:=str_size s;by_cases h:s= []
 · subst h;obtain⟨S,hS⟩:∃ S,str n=S:=⟨_,rfl⟩;rw [hS];go_enter Tryz.func160,Tryz.ntmps160;go_wp2;go_ret;exact⟨rfl,rfl⟩
 · have f1:=ne_facts h;have HD:=hid (show str (partC n s)=str n++(⟨#[46]⟩:ByteArray)++str s from by unfold partC;rw [if_neg h,←str_app3]);rw [HD.out];clear HD;obtain⟨S,hS⟩:∃ S,str s=S:=⟨_,rfl⟩;obtain⟨S2,hS2⟩:∃ S,str n=S:=⟨_,rfl⟩;rw [hS] at f1 hz2 ⊢;rw [hS2] at hz1 ⊢;have f2:(S.toList== (⟨#[]⟩:ByteArray).toList)=false:=ne_list f1;have f3:S.toList.isEmpty=false:=ne_empty f1;have f4:(S.toList== [])=false:=by have h:=f2;rw [ByteArray.toList_eq,ByteArray.toList_eq] at h;rw [ByteArray.toList_eq];exact h
   have g1:S.size≤4398046511104:=by omega
   have g2:S2.size≤4398046511104:=by omega
   clear hS hS2 h hz1 hz2 hn hs;go_enter Tryz.func160,Tryz.ntmps160;go_wp2;go_ret;exact⟨rfl,rfl⟩
def breakC (f o:Int):B:=if inC f 0 1000=false then n_fails else if inC o (if f=0 then 0 else 1) (if f=0 then 0 else 1048576)=false then n_open else []
theorem break_old (f o:Int) (h:inC f 0 1000=true):(breakC f o= []∧¬((f=0∧o≠0)∨(0<f∧inC o 1 1048576=false)))∨(breakC f o=n_open∧((f=0∧o≠0)∨(0<f∧inC o 1 1048576=false))):=by
 have h1:=h;unfold inC at h1;simp only [Bool.and_eq_true,decide_eq_true_eq] at h1;unfold breakC;rw [h,if_neg (by simp)];by_cases h0:f=0
 · rw [if_pos h0,if_pos h0];by_cases ho:o=0
   · refine .inl ⟨by rw [ho];rfl,?_⟩;rintro (h2|h2)
     · exact h2.2 ho
     · omega
   · refine .inr ⟨?_,.inl ⟨h0,ho⟩⟩;rw [if_pos];unfold inC;rw [Bool.and_eq_false_iff,decide_eq_false_iff_not,decide_eq_false_iff_not];omega
 · rw [if_neg h0,if_neg h0];cases hi:inC o 1 1048576
   · exact .inr ⟨by simp,.inr ⟨by omega,rfl⟩⟩
   · refine .inl ⟨by simp,?_⟩;rintro (h2|h2)
     · exact h0 h2.1
     · simp at h2
theorem pbreak_any (f o:Int) (w:World):Calls Tryz.prog 159 #[.agg #[.int .i64 f,.int .i64 o]] w fun e w'=>e= .returned (.string (str (breakC f o)))∧Below w.heap.size w w':=by
 have HW1:=hid (fun W:World=>pwithin_any f 0 1000 W);have HW2:=hid (fun W:World=>pwithin_any o (if f=0 then 0 else 1) (if f=0 then 0 else 1048576) W);unfold breakC;obtain⟨b1,hb1⟩:∃ b,inC f 0 1000=b:=⟨_,rfl⟩;obtain⟨b2,hb2⟩:∃ b,inC o (if f=0 then 0 else 1) (if f=0 then 0 else 1048576)=b:=⟨_,rfl⟩;rw [hb1] at HW1;rw [hb2] at HW2;rw [hb1,hb2];clear hb1 hb2;by_cases h0:f=0
 · rw [if_pos h0,if_pos h0] at HW2;subst h0;cases b1 <;> cases b2;all_goals
    go_enter Tryz.func159,Tryz.ntmps159;go_wp2_with (go_at_call 92;first|((with_reducible refine(HW1.out _).mono ?_);rintro e w1 ⟨rfl,hw1⟩;subst w1)|((with_reducible refine(HW2.out _).mono ?_);rintro e w1 ⟨rfl,hw1⟩;subst w1));go_ret;exact⟨rfl,below_new _ _⟩
 · rw [if_neg h0,if_neg h0] at HW2;have h00:(f== 0)=false:=by simpa using h0
   cases b1 <;> cases b2;all_goals
    go_enter Tryz.func159,Tryz.ntmps159;go_wp2_with (go_at_call 92;first|((with_reducible refine(HW1.out _).mono ?_);rintro e w1 ⟨rfl,hw1⟩;subst w1)|((with_reducible refine(HW2.out _).mono ?_);rintro e w1 ⟨rfl,hw1⟩;subst w1));go_ret;exact⟨rfl,below_new _ _⟩
theorem plimit_any (l:LimC) (on:Bool) (w:World):Calls Tryz.prog 166 #[limV l,.bool on] w fun e w'=>e= .returned (.string (str (limC l on)))∧Below w.heap.size w w':=by
 obtain⟨by_,r,p,u⟩:=l;dsimp only [limV];have HW0:=hid (fun W:World=>pwithin_any by_ 0 2 W);have HW1:=hid (fun W:World=>pwithin_any r (if by_=0 then 0 else 1) (if by_=0 then 0 else 1048576) W);have HW2:=hid (fun W:World=>pwithin_any p (if by_=0 then 0 else 1) (if by_=0 then 0 else 1048576) W);have HW3:=hid (fun W:World=>pwithin_any u (if by_=0 then 0 else 1) (if by_=0 then 0 else 1048576) W);have hin:inC by_ 0 2=(!(decide (by_<0) || decide (2<by_))):=by
  unfold inC;rw [Bool.eq_iff_iff];simp
 have HV:=hid (show limC ⟨by_,r,p,u⟩ on=if (!(inC by_ 0 2) || (decide (by_=2) && !on))=true then n_by else if inC r (if by_=0 then 0 else 1) (if by_=0 then 0 else 1048576)=false then n_rate else if inC p (if by_=0 then 0 else 1) (if by_=0 then 0 else 1048576)=false then n_per else if inC u (if by_=0 then 0 else 1) (if by_=0 then 0 else 1048576)=false then n_burst else [] from by
  rw [hin,Bool.not_not];rfl)
 rw [HV.out];clear HV hin;obtain⟨b0,hb0⟩:∃ b,inC by_ 0 2=b:=⟨_,rfl⟩;obtain⟨b1,hb1⟩:∃ b,inC r (if by_=0 then 0 else 1) (if by_=0 then 0 else 1048576)=b:=⟨_,rfl⟩;obtain⟨b2,hb2⟩:∃ b,inC p (if by_=0 then 0 else 1) (if by_=0 then 0 else 1048576)=b:=⟨_,rfl⟩;obtain⟨b3,hb3⟩:∃ b,inC u (if by_=0 then 0 else 1) (if by_=0 then 0 else 1048576)=b:=⟨_,rfl⟩;rw [hb0] at HW0;rw [hb1] at HW1;rw [hb2] at HW2;rw [hb3] at HW3;rw [hb0,hb1,hb2,hb3];have HB0:=hid hb0;clear hb0 hb1 hb2 hb3;by_cases h0:by_=0
 · subst h0;rw [if_pos rfl,if_pos rfl] at HW1 HW2 HW3;have:b0=true:=HB0.out.symm;subst this;cases b1 <;> cases b2 <;> cases b3;all_goals
    go_enter Tryz.func166,Tryz.ntmps166;go_wp2_with (go_at_call 92;first|((with_reducible refine(HW0.out _).mono ?_);rintro e w1 ⟨rfl,hw1⟩;subst w1)|((with_reducible refine(HW1.out _).mono ?_);rintro e w1 ⟨rfl,hw1⟩;subst w1)|((with_reducible refine(HW2.out _).mono ?_);rintro e w1 ⟨rfl,hw1⟩;subst w1)|((with_reducible refine(HW3.out _).mono ?_);rintro e w1 ⟨rfl,hw1⟩;subst w1));go_ret;exact⟨rfl,below_new _ _⟩
 · rw [if_neg h0,if_neg h0] at HW1 HW2 HW3;have h00:(by_== 0)=false:=by simpa using h0
   by_cases h2:by_=2
   · subst h2;have:b0=true:=HB0.out.symm;subst this;cases on <;> cases b1 <;> cases b2 <;> cases b3;all_goals
      go_enter Tryz.func166,Tryz.ntmps166;go_wp2_with (go_at_call 92;first|((with_reducible refine(HW0.out _).mono ?_);rintro e w1 ⟨rfl,hw1⟩;subst w1)|((with_reducible refine(HW1.out _).mono ?_);rintro e w1 ⟨rfl,hw1⟩;subst w1)|((with_reducible refine(HW2.out _).mono ?_);rintro e w1 ⟨rfl,hw1⟩;subst w1)|((with_reducible refine(HW3.out _).mono ?_);rintro e w1 ⟨rfl,hw1⟩;subst w1));go_ret;exact⟨rfl,below_new _ _⟩
   · have h22:(by_== 2)=false:=by simpa using h2
     rw [decide_eq_false h2];cases b0 <;> cases b1 <;> cases b2 <;> cases b3;all_goals
      go_enter Tryz.func166,Tryz.ntmps166;go_wp2_with (go_at_call 92;first|((with_reducible refine(HW0.out _).mono ?_);rintro e w1 ⟨rfl,hw1⟩;subst w1)|((with_reducible refine(HW1.out _).mono ?_);rintro e w1 ⟨rfl,hw1⟩;subst w1)|((with_reducible refine(HW2.out _).mono ?_);rintro e w1 ⟨rfl,hw1⟩;subst w1)|((with_reducible refine(HW3.out _).mono ?_);rintro e w1 ⟨rfl,hw1⟩;subst w1));go_ret;exact⟨rfl,below_new _ _⟩
def cutT:B→List B
 | []=>[[]]
 |c::s=>if c=47 then []::cutT s else match cutT s with
  | []=>[[c]]
  |x::l=>(c::x)::l
theorem cutT_ne (s:B):cutT s≠ []:=by
 cases s with
 |nil=>simp [cutT]
 |cons c s=>
  unfold cutT;split
  · simp
  · split <;> simp
def splitT (s:B):Option (List B):=match s with
 |c::t=>if c=47 then some (cutT t) else none
 | []=>none
def kindT (s:B):Nat:=match s with
 |c::_=>if c=58 then 1 else if c=42 then 2 else 0
 | []=>0
theorem kindT_le (s:B):kindT s≤2:=by
 unfold kindT;split
 · split
   · decide
   · split <;> decide
 · decide
def joinT:List B→B
 | []=>[]
 | [x]=>x
 |x::y::l=>x++47::joinT (y::l)
def restLast:List B→Bool
 | []=>true
 | [_]=>true
 |x::y::l=>decide (kindT x≠2) && restLast (y::l)
theorem joinT_cons (x:B) {l:List B} (h:l≠ []):joinT (x::l)=x++47::joinT l:=by
 cases l with
 |nil=>exact absurd rfl h
 |cons y l=>rfl
theorem joinT_app (c:UInt8) (x:B) (l:List B):joinT ((c::x)::l)=c::joinT (x::l):=by
 cases l with
 |nil=>rfl
 |cons y l=>rfl
theorem joinT_cut:∀ s:B,joinT (cutT s)=s
 | []=>rfl
 |c::s=>by
  have ih:=joinT_cut s;unfold cutT;split
  · rename_i hc
    rw [joinT_cons _ (cutT_ne s),ih,hc];rfl
  · split
    · rename_i e
      exact absurd e (cutT_ne s)
    · rename_i y l e
      rw [joinT_app,←e,ih]
theorem cutT_cons (c:UInt8) (s:B):cutT (c::s)=if c=47 then []::cutT s else match cutT s with
 | []=>[[c]]
 |x::l=>(c::x)::l:=rfl
theorem cutT_app:∀ (x s:B),(47:UInt8)∉x→cutT (x++47::s)=x::cutT s
 | [],s,_=>by
  show cutT (47::s)=_;rw [cutT_cons,if_pos rfl]
 |c::x,s,h=>by
  simp at h;have ih:=cutT_app x s h.2;show cutT (c::(x++47::s))=_;rw [cutT_cons,if_neg (fun e=>h.1 e.symm),ih]
theorem cutT_only:∀ (x:B),(47:UInt8)∉x→cutT x= [x]
 | [],_=>rfl
 |c::x,h=>by
  simp at h;have ih:=cutT_only x h.2;rw [cutT_cons,if_neg (fun e=>h.1 e.symm),ih]
def okSegs (V:UInt8→Bool) (K:B→Bool):List B→List B→Bool
 |_,[]=>true
 |names,x::l=>
  if kindT x=0 then x.all V && okSegs V K names l
  else K x.tail && (decide (kindT x≠2) || decide (l= [])) && !names.contains x.tail && okSegs V K (names++ [x.tail]) l
def checkT (V:UInt8→Bool) (K:B→Bool) (p:B):Bool:=match splitT p with
 |none=>false
 |some l=>decide (p.length≤256) && decide (l.length≤64) && okSegs V K [] l
theorem ok_rest {V:UInt8→Bool}{K:B→Bool}:∀ {names l:List B},okSegs V K names l=true→restLast l=true
 |_,[],_=>rfl
 |_,[_],_=>rfl
 |names,x::y::l,h=>by
  unfold okSegs at h;unfold restLast;split at h
  · rename_i h0
    rw [Bool.and_eq_true] at h;rw [ok_rest h.2,Bool.and_true];exact decide_eq_true (by omega)
  · simp only [Bool.and_eq_true] at h;rw [ok_rest h.2,Bool.and_true];have h1:=h.1.1.2;simpa using h1
theorem check_some {V:UInt8→Bool}{K:B→Bool}{p:B} (h:checkT V K p=true):∃ t,p=47::t∧(cutT t).length≤64∧p.length≤256∧okSegs V K [] (cutT t)=true∧restLast (cutT t)=true:=by
 unfold checkT splitT at h;cases p with
 |nil=>cases h
 |cons c t=>
  by_cases hc:c=47
  · simp only [if_pos hc,Bool.and_eq_true,decide_eq_true_eq] at h;exact⟨t,by rw [hc],h.1.2,h.1.1,h.2,ok_rest h.2⟩
  · simp only [if_neg hc] at h;cases h
def smallU (b:UInt8):UInt8:=if 65≤b.toNat∧b.toNat≤90 then UInt8.ofNat (b.toNat+32) else b
theorem smallU_val (b:UInt8):((smallU b).toNat:Int)=smallV (b.toNat:Int):=by
 unfold smallU smallV;by_cases h:65≤b.toNat∧b.toNat≤90
 · rw [if_pos h,if_pos (by omega)];rw [UInt8.toNat_ofNat'];omega
 · rw [if_neg h,if_neg (by omega)]
def lowL (s:ByteArray):List UInt8:=s.data.toList.map smallU
def lowS (s:ByteArray):ByteArray:=⟨(lowL s).toArray⟩
def lowA (s:ByteArray) (k cap:Nat):Array Value:=
 (((s.data.toList.take k).map smallU++s.data.toList.drop k).map (fun b:UInt8=>Value.int .u8 (b.toNat:Int))++List.replicate (cap-s.size) (Value.int .u8 0)).toArray
theorem lowA_zero (s:ByteArray) (cap:Nat):bytesRow s cap=lowA s 0 cap:=by
 apply Array.toList_inj.1;simp [lowA,bytesRow]
theorem lowA_size (s:ByteArray) (k cap:Nat) (h:k≤s.size):(lowA s k cap).size=s.size+(cap-s.size):=by
 simp [lowA];omega
theorem lowA_at (s:ByteArray) (k cap:Nat) (h:k<s.size):(lowA s k cap)[k]?=some (.int .u8 (s[k].toNat:Int)):=by
 simp only [lowA,List.getElem?_toArray];rw [List.getElem?_append_left (by simp;omega),List.getElem?_map,List.getElem?_append_right (by simp;omega),List.getElem?_drop];have:k+(k-((s.data.toList.take k).map smallU).length)=k:=by simp;omega
 rw [this,List.getElem?_eq_getElem (by simpa using h)];rfl
theorem lowA_set (s:ByteArray) (k cap:Nat) (h:k<s.size):(lowA s k cap).setIfInBounds k (.int .u8 (smallV (s[k].toNat:Int)))=lowA s (k+1) cap:=by
 apply Array.toList_inj.1;rw [←smallU_val];simp only [lowA,Array.toList_setIfInBounds];have e1:s.data.toList.drop k=s[k]::s.data.toList.drop (k+1):=by
  rw [List.drop_eq_getElem_cons (by simpa using h)];rfl
 rw [e1,take_snoc s k h,List.set_append_left _ _ (by simp;omega)];congr 1;simp only [List.map_append,List.map_cons,List.map_nil,List.append_assoc];rw [List.set_append_right _ _ (by simp;omega)];have:k-(((s.data.toList.take k).map smallU).map fun b=>Value.int .u8 (b.toNat:Int)).length=0:=by simp;omega
 rw [this];simp
theorem lowA_end (s:ByteArray) (cap j:Nat) (h:j<(lowL s).length):(lowA s s.size cap)[j]?=some (.int .u8 (((lowL s)[j]).toNat:Int)):=by
 have hj:j<s.size:=by simpa [lowL] using h
 simp only [lowA,List.getElem?_toArray];rw [List.getElem?_append_left (by simp;omega),List.getElem?_map,List.take_of_length_le (by simp),List.drop_eq_nil_of_le (by simp),List.append_nil];show ((lowL s)[j]?).map _=_;rw [List.getElem?_eq_getElem h];rfl
theorem mk_cell (w:World) (A:Array Value) (e:TypeId) (fz:Nat×Nat) (j:Nat):(w.alloc (.cells A e fz)).cell? ⟨w.heap.size,j,none⟩=A[j]?:=
 cell_of_row _ _ _ _ _ _ (heap_alloc_new w _)
theorem mk_frozen (w:World) (A:Array Value) (e:TypeId) (z y j:Nat) (h:j<z):(w.alloc (.cells A e (z,y))).frozen? ⟨w.heap.size,j,none⟩=false:=by
 simp only [World.frozen?,heap_alloc_new w _];simp;omega
theorem mk_set (w:World) (A:Array Value) (e:TypeId) (fz:Nat×Nat) (j:Nat) (v:Value):(w.alloc (.cells A e fz)).setCell ⟨w.heap.size,j,none⟩ v=w.alloc (.cells (A.setIfInBounds j v) e fz):=by
 unfold World.setCell World.alloc;congr 1;apply Array.ext_getElem?;intro k;rw [Array.getElem?_modify];by_cases hk:w.heap.size=k
 · subst hk;simp
 · have hk':k≠w.heap.size:=fun e=>hk e.symm
   simp [hk,hk',Array.getElem?_push]
theorem lower_any (s:ByteArray) (w:World) (hs:s.size≤maxLen):
 Calls Tryz.prog 308 #[.string s] w fun e w'=>e= .returned (.string (lowS s))∧Below w.heap.size w w':=by
 unfold maxLen at hs;have hcv:=run_bytes_of_string (P:=Tryz.prog) w 9 106 5 s Tryz.underlying9 Tryz.underlying106 Tryz.underlying5;generalize grownCap w s.size 0 5=cap at hcv;rw [lowA_zero,lowA_size s 0 cap (Nat.zero_le _)] at hcv;generalize hz:s.size+(cap-s.size)=z at hcv;go_enter Tryz.func308,Tryz.ntmps308;go_wp2;clear hcv;go_loopw [10] (fun i W=>∃ k:Nat,k≤s.size∧i= .int .i64 k∧W=(w.alloc (.cells (lowA s k cap) 5 (z,z+1))).drew) (fun i _=>s.size-(intOf i).toNat)
 case atStart=>exact⟨0,Nat.zero_le _,rfl,rfl⟩
 case round=>
  obtain⟨k,hk,rfl,rfl⟩:=hrel;by_cases hlt:k<s.size
  · have hb:=s[k].toNat_lt;have hcell:=(mk_cell w (lowA s k cap) 5 (z,z+1) k).trans (lowA_at s k cap hlt);have hfr:=mk_frozen w (lowA s k cap) 5 z (z+1) k (by omega);have hst:=(mk_set w (lowA s k cap) 5 (z,z+1) k (.int .u8 (smallV (s[k].toNat:Int)))).trans (by rw [lowA_set s k cap hlt]);go_wp2_with (go_at_call 337;refine(small_any _ _ (by omega) (by omega)).mono ?_;rintro e w' ⟨rfl,rfl⟩);go_roundw
    case rel=>exact⟨k+1,by omega,by go_num,rfl⟩
    case measure=>simp [intOf];omega
  · have hk':k=s.size:=by omega
    subst hk';have hcv:∀ W,W=(w.alloc (.cells (lowA s s.size cap) 5 (z,z+1))).drew→(convert 106 9 (.slice (some ⟨w.heap.size,0,none⟩) s.size cap)).run Tryz.prog W= .ok (.string (lowS s)) W:=fun W hW=>by
     have:=run_convert_bytes_back (P:=Tryz.prog) W 106 9 5 ⟨w.heap.size,0,none⟩ cap (lowL s) Tryz.underlying106 Tryz.underlying5 Tryz.underlying9 (fun j hj=>by
      rw [Lib.add_plain,hW,World.cell?_drew,Nat.zero_add,mk_cell];exact lowA_end s cap j hj)
     rw [show (lowL s).length=s.size by simp [lowL]] at this;exact this
    have hcv':=hcv _ rfl;clear hcv;go_wp2;go_ret;exact⟨rfl,((Below.refl _ _).alloc (Nat.le_refl _) _).drew⟩
theorem app_belowL {w wr w1:World}{o:Obj}{v:Value}{e:TypeId}{size k:Nat}{xs:List Value} (hbel:Below w.heap.size w wr) (hown:wr.ownsRow w.heap.size e size v k xs) (hg:(wr.alloc o).grownBy w1 v.ownBlock):Below w.heap.size w w1:=
  (hbel.alloc hbel.size o).grown hg (by have h1:=hbel.size;have h2:wr.heap.size≤(wr.alloc o).heap.size:=by simp
                                        omega) (fun k hk=>(hown.lt k hk).1)
def cutH:B→List B
 | []=>[[]]
 |c::s=>if c=46 then []::cutH s else match cutH s with
  | []=>[[c]]
  |x::l=>(c::x)::l
theorem cutH_ne (s:B):cutH s≠ []:=by
 cases s with
 |nil=>simp [cutH]
 |cons c s=>
  unfold cutH;split
  · simp
  · split <;> simp
theorem cutH_cons (c:UInt8) (s:B):cutH (c::s)=if c=46 then []::cutH s else match cutH s with
 | []=>[[c]]
 |x::l=>(c::x)::l:=rfl
theorem cutH_app:∀ (x s:B),(46:UInt8)∉x→cutH (x++46::s)=x::cutH s
 | [],s,_=>by
  show cutH (46::s)=_;rw [cutH_cons,if_pos rfl]
 |c::x,s,h=>by
  simp at h;have ih:=cutH_app x s h.2;show cutH (c::(x++46::s))=_;rw [cutH_cons,if_neg (fun e=>h.1 e.symm),ih]
theorem cutH_only:∀ (x:B),(46:UInt8)∉x→cutH x= [x]
 | [],_=>rfl
 |c::x,h=>by
  simp at h;have ih:=cutH_only x h.2;rw [cutH_cons,if_neg (fun e=>h.1 e.symm),ih]
theorem cutH_len:∀ s:B,(cutH s).length≤s.length+1
 | []=>Nat.le_refl _
 |c::s=>by
  have ih:=cutH_len s;rw [cutH_cons];split
  · simp;omega
  · split
    · simp
    · rename_i y l e
      rw [e] at ih;simp at ih ⊢;omega
def lowH (b:B):B:=b.map smallU
theorem lowS_strH (b:B):lowS (str b)=str (lowH b):=by
 unfold lowS lowL lowH str;simp
def hostI (c:Int):Bool:=(decide (97≤c) && decide (c≤122)) || (decide (65≤c) && decide (c≤90)) || digB c || decide (c=45) || decide (c=95)
def hostU (c:UInt8):Bool:=hostI (c.toNat:Int)
def okLab (wild:Bool) (l:B):Bool:=decide (1≤l.length) && decide (l.length≤63) && ((wild && decide (l= [42])) || l.all hostU)
def labsH (wild:Bool) (s:B):Option (List B):=if s= []∨253<s.length then none else if (cutH s).all (okLab wild) then some ((cutH s).map lowH) else none
def starL:B:=[42]
end Go.Proofs.YtlmefgjhbohjlaaGreatDoor
