/- A request, a row of texts, handed in: opened. -/
import Derived.Test.YtlmlljlappjjjaaGreatDoorQOpen
import Derived.Test.YtlmlljlappjjjaaGreatDoorQReqs
namespace Go.Proofs.YtlmlljlappjjjaaGreatDoor
open Go.ChangeShapes Go.WideShapes Go.RowKit
abbrev fldF (a:B×B):List Value:=[.string (str a.1),.string (str a.2)]
def wFl (a:B×B):Nat:=a.1.length+a.2.length+1
set_option maxHeartbeats 4000000 in
theorem open_fld {H:Type}{enc:TypeId×Value→H}{W:World}{sp:Nat→Bool}{held:Bool} (fuel:Nat) (cs:List Value) (x:DataW H×List MemPlace) (h:DataW.trod enc Tryz.prog W 0 sp held fuel 73 cs=some x):∃ a:B×B,cs=fldF a∧True∧wFl a≤Rows.uptoBulk x.1:=by
 obtain⟨xs,n,rfl,rfl,hl,hx,hf⟩:=DataW.trod_struct Tryz.underlying73 h;have ct:Tryz.prog.cellsOf 73=2:=by kernel_rfl
 rw [ct] at hl;have hxn:xs.length=2:=by rw [hx];rfl
 clear hx ct;rcases cs with _|⟨d0,_|⟨d1,_|⟨d2,r⟩⟩⟩ <;> simp at hl
 rcases xs with _|⟨y0,_|⟨y1,_|⟨y2,r⟩⟩⟩ <;> simp at hxn
 have f0:DataW.trod enc Tryz.prog W 0 sp held n 9 [d0]=some y0:=by have h:=trod_at (hf 0 _ rfl) c_string;exact h
 have f1:DataW.trod enc Tryz.prog W 0 sp held n 9 [d1]=some y1:=by have h:=trod_at (hf 1 _ rfl) c_string;exact h
 clear hf hl hxn;obtain⟨s0,e0,rfl,_⟩:=DataW.trod_string Tryz.underlying9 f0;obtain⟨s1,e1,rfl,_⟩:=DataW.trod_string Tryz.underlying9 f1;simp only [List.cons.injEq,and_true] at e0 e1;subst e0;subst e1;refine⟨(s0.data.toList,s1.data.toList),by simp only [fldF,str_selfC],trivial,?_⟩;unfold wFl;simp [Rows.uptoBulk,Rows.uptoBulkAll] at*;try omega
theorem open_flds {H:Type}{enc:TypeId×Value→H}{W:World}{sp:Nat→Bool}{held:Bool} (fuel:Nat) (d:Value) (x:DataW H×List MemPlace) (h:DataW.trod enc Tryz.prog W 0 sp held fuel 45 [d]=some x):∃ (l:List (B×B)) (p:Option Addr) (c:Nat),d= .slice p l.length c∧l.length≤c∧(p=none→c=0)∧RowG W 2 fldF p l∧(∀ a∈l,True)∧wtG wFl l≤Rows.uptoBulk x.1:=
 open_rowG (sz:=2) (f:=fldF) (Q:=fun _=>True) (b:=wFl) Tryz.underlying45 (by kernel_rfl) (by decide) (fun _=>rfl) (fun fu cs y hy=>open_fld fu cs y hy) fuel d x h
theorem c_flds:Tryz.prog.cellsOf 45=1:=by kernel_rfl
theorem fat_of {W:World}{p:Option Addr}{l:List (B×B)} (h:RowG W 2 fldF p l):FAt W p l:=fun j a hj=>by
 obtain⟨g,o,e,hc⟩:=h j a hj;exact⟨g,o,e,by have h0:=hc 0 _ rfl;rwa [Nat.add_zero] at h0,hc 1 _ rfl⟩
theorem tx_of {W:World}{p:Option Addr}{l:List B} (h:RowG W 1 strF p l):TxAt W p l:=fun j t hj=>by
 obtain⟨g,o,e,hc⟩:=h j t hj;have h1:=hc 0 _ rfl;rw [Nat.mul_one,Nat.add_zero] at h1;exact⟨g,o,e,h1⟩
set_option maxHeartbeats 4000000 in
theorem open_req {H:Type}{enc:TypeId×Value→H}{W:World}{sp:Nat→Bool}{held:Bool} (fuel:Nat) (cs:List Value) (x:DataW H×List MemPlace) (h:DataW.trod enc Tryz.prog W 0 sp held fuel 57 cs=some x):∃ (m t:B) (k:Int) (fs:List (B×B)) (p:Option Addr) (c:Nat),cs= [.string (str m),.string (str t),.int .i64 k,.slice p fs.length c]∧FAt W p fs∧m.length+t.length+wtG wFl fs≤Rows.uptoBulk x.1:=by
 obtain⟨xs,n,rfl,rfl,hl,hx,hf⟩:=DataW.trod_struct Tryz.underlying57 h;have ct:Tryz.prog.cellsOf 57=4:=by kernel_rfl
 rw [ct] at hl;have hxn:xs.length=4:=by rw [hx];rfl
 clear hx ct;rcases cs with _|⟨d0,_|⟨d1,_|⟨d2,_|⟨d3,_|⟨d4,r⟩⟩⟩⟩⟩ <;> simp at hl
 rcases xs with _|⟨y0,_|⟨y1,_|⟨y2,_|⟨y3,_|⟨y4,r⟩⟩⟩⟩⟩ <;> simp at hxn
 have f0:DataW.trod enc Tryz.prog W 0 sp held n 9 [d0]=some y0:=by have h:=trod_at (hf 0 _ rfl) c_string;exact h
 have f1:DataW.trod enc Tryz.prog W 0 sp held n 9 [d1]=some y1:=by have h:=trod_at (hf 1 _ rfl) c_string;exact h
 have f2:DataW.trod enc Tryz.prog W 0 sp held n 3 [d2]=some y2:=by have h:=trod_at (hf 2 _ rfl) c_int;exact h
 have f3:DataW.trod enc Tryz.prog W 0 sp held n 45 [d3]=some y3:=by have h:=trod_at (hf 3 _ rfl) c_flds;exact h
 clear hf hl hxn;obtain⟨s0,e0,rfl,_⟩:=DataW.trod_string Tryz.underlying9 f0;obtain⟨s1,e1,rfl,_⟩:=DataW.trod_string Tryz.underlying9 f1;obtain⟨k,e2,rfl,_⟩:=DataW.trod_int Tryz.underlying3 f2;obtain⟨fs,p,c,rfl,_,_,hR,_,hw⟩:=open_flds n d3 y3 f3;simp only [List.cons.injEq,and_true] at e0 e1 e2;subst e0;subst e1;subst e2;refine⟨s0.data.toList,s1.data.toList,k,fs,p,c,by simp only [str_selfC],fat_of hR,?_⟩;simp [Rows.uptoBulk,Rows.uptoBulkAll] at*;try omega
theorem sz_of {l:List (B×B)} (hw:wtG wFl l≤1048576):szB l∧l.length≤1048576:=by
 refine⟨fun f hf=>?_,Nat.le_trans (wtG_len wFl (fun _=>by unfold wFl;omega) l) hw⟩;have h1:f.1.length+f.2.length+1≤wtG wFl l:=wtG_mem wFl l f hf;omega
theorem txz_of {l:List B} (hw:wtG wS l≤1048576):(∀ x∈l,x.length≤maxLen)∧l.length≤1048576:=by
 refine⟨fun x hx=>?_,Nat.le_trans (wtG_len wS (fun _=>by show 1≤_+1;omega) l) hw⟩;have h1:x.length+1≤wtG wS l:=wtG_mem wS l x hx;exact Nat.le_trans (show x.length≤1048576 by omega) (by decide)
end Go.Proofs.YtlmlljlappjjjaaGreatDoor
