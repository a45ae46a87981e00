/- For all routes and all that is asked of them whose bulk together is at most 1048576 the law RouteFinds returns true and leaves its arguments as they were; the listed tables of Go's library are tied to the program's text (the tie is given). -/
import Derived.Test.YtlmlljlappjjjaaGreatDoorCards
import Derived.Test.YtlmlljlappjjjaaGreatDoorTie
import Derived.Test.YtlmlljlappjjjaaGreatDoorQFOpen
import Derived.Test.YtlmlljlappjjjaaGreatDoorQFactFinds
import Derived.Test.YtlmlljlappjjjaaGreatDoorQGoesFinds
import Derived.LaidMore
import Derived.Stop.LaidErr
import Derived.Deep.DeepWitnessRowRef
namespace Go.Proofs.YtlmlljlappjjjaaGreatDoor.RouteFinds
open Go.ChangeShapes Go.WideShapes Go.ChangeAt Go.RowKit
open Go.ChangeMaps (open_string shut_string)
theorem ownF:ownKnob Tryz.prog.godebug=none:=by kernel_rfl
def firstCellsF:Array Value:=(Go.Pinned.utf8FirstZ.map fun n:Nat=>Value.int .u8 (n:Int)).toArray
def laidOverF (w:World):World:=
 {w with heap:=w.heap.modify 1 fun
  | .cells _ t frozen=>.cells firstCellsF t frozen
  |o=>o}
theorem doorF (os:Os) (args:Array Value):laidMetH Tryz.prog Rows.routeFindsUptoRow.laid ((laidOverF (World.doorLaid Tryz.prog 400 os)).forCall (fun _ _=>0) ⟨#[],args,[]⟩).memory:=
 laidMetH_of_parts3 (fuel:=8) (laidMet_of_run' 8 (by kernel_rfl) (by kernel_rfl)) (by kernel_rfl) (by kernel_rfl)
theorem mxLenF {W:World} (h:W.ShapedOpen Tryz.prog):MxAt W:=
 cell_of_shapedOpen_int (zero:=#[.int .i64 0]) (t:=3) h (of_decide_eq_true (by kernel_rfl)) (by kernel_rfl) rfl (by kernel_rfl) (by kernel_rfl) Tryz.underlying3
theorem readsF (os:Os) {H:Type} (enc:TypeId×Value→H):∃ places,DataW.whole enc Tryz.prog ((laidOverF (World.doorLaid Tryz.prog 400 os)).forCall (fun _ _=>0) ⟨#[], #[.slice none 0 0,.slice none 0 0],[]⟩).memory Tryz.f3.params.toList Rows.routeFindsSpec.vars false (#[.slice none 0 0,.slice none 0 0]:Array Value).toList 8=some ([.nil,.nil],[],places):=
 ⟨[],by kernel_rfl⟩
set_option maxRecDepth 100000 in
theorem liftedF (os:Os) (started:os.Started) (H:Type) (enc:TypeId×Value→H) (F:Stop.Interp):
    ReturnsInHanded {} Tryz.checked os 3 .any ((Rows.OpenSpec.upto Rows.routeFindsSpec).preRow enc Tryz.prog Tryz.f3 Rows.routeFindsUptoRow.domain false Rows.routeFindsUptoRow.laid) (((Rows.OpenSpec.upto Rows.routeFindsSpec).at F).post enc Tryz.prog Tryz.f3 false true false false):=by
  obtain⟨places,hx⟩:=readsF os enc
  refine returnsInHanded_of_row (C:=Tryz.checked) (s:=Rows.OpenSpec.upto Rows.routeFindsSpec) ownF started (by kernel_rfl) Tryz.func3
    (witness_row_atRef (enc:=enc) (C:=Tryz.checked) false (laidOverF (World.doorLaid Tryz.prog 400 os)) #[.slice none 0 0,.slice none 0 0] rfl (by kernel_rfl) (by kernel_rfl) (by kernel_rfl)
      (OpenSpec.preRow_of_cond 8 hx (by kernel_rfl) (fun k hk=>by cases hk;kernel_rfl) (by kernel_rfl) (doorF os _))) ?_
  intro W base args ds gs before hval0 hW _ hcond _ _ hsh _
  have hval:∀ (j:Nat) t v,Tryz.f3.params[j]?=some t→args[j]?=some v→Value.okWide Tryz.prog W .any base t v:=hval0
  have hk:Rows.uptoSmall H (ds++gs)=true:=hcond _ rfl
  have hW':=hW
  obtain⟨p,q,hA0,hV,rfl,hfz,hnd⟩:=hW
  have hA:DataW.TrodAll enc Tryz.prog W 0 (fun _=>true) true Tryz.f3.params.toList args.toList ds p:=hA0
  rw [Tryz.params3] at hA hval
  obtain⟨v0,v1,d0,d1,p0,p1,rfl,rfl,rfl,h0,h1⟩:=trodAll_two hA
  obtain⟨rfl,rfl⟩:=trodVars_none hV
  obtain⟨pa,len0,cap0,rfl⟩:=okWide_slice Tryz.underlying22 (hval 0 22 v0 rfl rfl)
  obtain⟨pb,len1,cap1,rfl⟩:=okWide_slice Tryz.underlying23 (hval 1 23 v1 rfl rfl)
  have hlt0:∀ x∈p0,x.block<W.heap.size:=fun x hx=>by simpa using hW'.lt x (by simp [hx])
  have hlt1:∀ x∈p1,x.block<W.heap.size:=fun x hx=>by simpa using hW'.lt x (by simp [hx])
  obtain⟨fuel0,hd0⟩:=h0
  obtain⟨fuel1,hd1⟩:=h1
  have he0:DataW.trod enc Tryz.prog W 0 (fun _=>true) true fuel0 22 [.slice pa len0 cap0]=some (d0,p0):=hd0
  have he1:DataW.trod enc Tryz.prog W 0 (fun _=>true) true fuel1 23 [.slice pb len1 cap1]=some (d1,p1):=hd1
  obtain⟨l,lp,lc,hv,hlc,_,hR,hIn,hw0⟩:=open_routes fuel0 _ _ he0
  obtain⟨qs,lq,qc,hv1,_,_,hR1,_,hw1⟩:=open_askeds fuel1 _ _ he1
  obtain⟨rfl,rfl,rfl⟩:pa=lp∧len0=l.length∧cap0=lc:=by simpa using hv
  obtain⟨rfl,rfl,rfl⟩:pb=lq∧len1=qs.length∧cap1=qc:=by simpa using hv1
  clear hA0 hval0
  have hbulk:=of_decide_eq_true hk
  simp only [List.append_nil,Rows.uptoBulkAll] at hbulk
  simp only at hw0 hw1
  obtain⟨hz1,hz2,hz3⟩:=zp_of hIn (show _≤1048576 by omega)
  have hcall:=finds_any l pa l.length cap0 qs pb qs.length cap1 W ⟨rfl,hz1,hz2,hz3,rts_of hR hIn⟩ (mxLenF hsh) (as_of hR1) rfl (ask_sz (by omega))
  refine hcall.mono fun e W' ⟨he,bel⟩=>?_
  subst he
  exact⟨_,rfl,_,_,_,[],_,[],hW',trodAll_mk1 (shut_bool Tryz.underlying4 _),trodAll_mk2 (Below.trod laidOutF (by kernel_rfl) (of_decide_eq_true (by kernel_rfl)) ⟨fuel0,hd0⟩ bel hlt0) (Below.trod laidOutF (by kernel_rfl) (of_decide_eq_true (by kernel_rfl)) ⟨fuel1,hd1⟩ bel hlt1),rfl,bel.frame _,fun h=>by cases h⟩
theorem row_holdsF:Rows.RouteFindsUptoSaid:=
 OpenClaim.holds_of_cond 3 Tryz.f3 rfl rfl rfl rfl rfl rfl rfl ⟨rfl,rfl,rfl,rfl,rfl⟩ rfl rfl rfl rfl rfl (by kernel_rfl) Tryz.func3 joinedF
  (of_decide_eq_true (by kernel_rfl)) (by unfold Func.isWrapper;first|(rw [if_pos (by decide+kernel)];kernel_rfl)|(rw [if_neg (by decide+kernel)];exact⟨rfl,rfl⟩))
  (fun os started H enc _ F=>by rw [OpenClaim.pre_eq_preRow];exact liftedF os started H enc F)
end Go.Proofs.YtlmlljlappjjjaaGreatDoor.RouteFinds
namespace Go.Proofs.YtlmlljlappjjjaaGreatDoor
theorem routeFindsUpto_holds:Rows.RouteFindsUptoCardSaid:=
 Claim7.holds_tied_plain_at .later [] _ _ _ _
  RouteFinds.row_holdsF (fun _ h=>by cases h) (by kernel_rfl) (fun _ h=>by cases h) routeFindsUpto_row_tie rfl ⟨rfl,rfl⟩ (by kernel_rfl) rfl
  (fun f fn hf hfn=>by
   obtain rfl : f = 3 := Option.some.inj ((show Tryz.prog.funcNamed "turnstile/turnstilelaw18.RouteFinds" = some 3 by kernel_rfl).symm.trans hf) |>.symm
   obtain rfl:fn=Tryz.f3:=(Option.some.inj (Tryz.func3.symm.trans hfn)).symm;exact⟨by kernel_rfl,fun j t ht=>by
    rw [Tryz.params3] at ht;have hm:t∈ [22,23]:=by simpa using Array.mem_of_getElem? ht
    have hall:([22,23].all fun u=>!Tryz.prog.wantsStandIn u)=true:=by kernel_rfl
    exact(show Tryz.prog.wantsStandIn t=false by simpa using List.all_eq_true.1 hall t hm)⟩)
  RouteFinds.noGoesF
end Go.Proofs.YtlmlljlappjjjaaGreatDoor
