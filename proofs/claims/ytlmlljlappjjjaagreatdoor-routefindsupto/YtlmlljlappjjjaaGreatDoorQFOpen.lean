/- What is asked, a row of it, handed in: opened. -/
import Derived.Test.YtlmlljlappjjjaaGreatDoorQOpen
import Derived.Test.YtlmlljlappjjjaaGreatDoorQFinds
namespace Go.Proofs.YtlmlljlappjjjaaGreatDoor
open Go.ChangeShapes Go.WideShapes Go.RowKit
abbrev askF (a:B×B×B):List Value:=[.string (str a.1),.string (str a.2.1),.string (str a.2.2)]
def wAk (a:B×B×B):Nat:=a.1.length+a.2.1.length
theorem open_askeds {H:Type}{enc:TypeId×Value→H}{W:World}{sp:Nat→Bool}{held:Bool} (fuel:Nat) (d:Value) (x:DataW H×List MemPlace) (h:DataW.trod enc Tryz.prog W 0 sp held fuel 23 [d]=some x):∃ (l:List (B×B×B)) (p:Option Addr) (c:Nat),d= .slice p l.length c∧l.length≤c∧(p=none→c=0)∧RowG W 3 askF p l∧(∀ a∈l,True)∧wtG wAk l≤Rows.uptoBulk x.1:=
  open_rowG (sz:=3) (f:=askF) (Q:=fun _=>True) (b:=wAk) Tryz.underlying23 (by kernel_rfl) (by decide) (fun _=>rfl) (fun fu cs y hy=>by
    obtain⟨a,b,c,e,hw⟩:=open_asked fu cs y hy
    exact⟨(a,b,c),e,trivial,by unfold wAk;dsimp only;omega⟩) fuel d x h
theorem as_of {W:World}{p:Option Addr}{l:List (B×B×B)} (h:RowG W 3 askF p l):AsAt W p l:=fun j a hj=>by
 obtain⟨g,o,e,hc⟩:=h j a hj;exact⟨g,o,e,by have h0:=hc 0 _ rfl;rwa [Nat.add_zero] at h0,hc 1 _ rfl,hc 2 _ rfl⟩
theorem ask_sz {l:List (B×B×B)} (hw:wtG wAk l≤1048576):∀ a∈l,a.1.length≤1048576∧a.2.1.length≤1048576:=fun a ha=>by
 have:=Nat.le_trans (wtG_mem wAk l a ha) hw;unfold wAk at this;omega
end Go.Proofs.YtlmlljlappjjjaaGreatDoor
