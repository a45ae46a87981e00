/- For all routes, every host, path, method and turn whose bulk together is at most 1048576 the law RouteOrder returns true and leaves its arguments as they were; the listed tables of Go's library are tied to the program's text (the tie is given). -/
import Derived.Test.YtlmlljlappjjjaaGreatDoorRows
import Derived.Test.YtlmlljlappjjjaaGreatDoorCards
import Derived.Test.YtlmlljlappjjjaaGreatDoorTie
import Derived.Test.YtlmlljlappjjjaaGreatDoorQOrder
import Derived.Test.YtlmlljlappjjjaaGreatDoorQOpen
import Derived.Test.YtlmlljlappjjjaaGreatDoorQFactOrder
import Derived.Test.YtlmlljlappjjjaaGreatDoorQGoesOrder
import Derived.Stop.Joined
import Derived.SevenTiedAt
import Derived.ProofKit
import Derived.Shelf.Vars
import Derived.LaidMore
import Derived.LaidHandle
import Derived.OpenShut
import Derived.ShutString
import Derived.ChangeOld
import Derived.Stop.LaidErr
import Derived.Deep.DeepHandedRow
import Derived.Deep.DeepWitnessRowRef
namespace Go.Proofs.YtlmlljlappjjjaaGreatDoor.RouteOrder
open Go.ChangeShapes Go.WideShapes Go.ChangeAt Go.RowKit
open Go.ChangeMaps (open_string shut_string)
theorem ownO:ownKnob Tryz.prog.godebug=none:=by kernel_rfl
def firstCellsO:Array Value:=(Go.Pinned.utf8FirstZ.map fun n:Nat=>Value.int .u8 (n:Int)).toArray
def laidOverO (w:World):World:=
 {w with heap:=w.heap.modify 1 fun
  | .cells _ t frozen=>.cells firstCellsO t frozen
  |o=>o}
theorem doorO (os:Os) (args:Array Value):laidMetH Tryz.prog Rows.routeOrderUptoRow.laid ((laidOverO (World.doorLaid Tryz.prog 400 os)).forCall (fun _ _=>0) ⟨#[],args,[]⟩).memory:=
 laidMetH_of_parts3 (fuel:=8) (laidMet_of_run' 8 (by kernel_rfl) (by kernel_rfl)) (by kernel_rfl) (by kernel_rfl)
theorem mxLenO {W:World} (h:W.ShapedOpen Tryz.prog):MxAt W:=
 cell_of_shapedOpen_int (zero:=#[.int .i64 0]) (t:=3) h (of_decide_eq_true (by kernel_rfl)) (by kernel_rfl) rfl (by kernel_rfl) (by kernel_rfl) Tryz.underlying3
abbrev zaO:Value:=.agg #[.string ByteArray.empty,.string ByteArray.empty,.string ByteArray.empty]
theorem readsO (os:Os) {H:Type} (enc:TypeId×Value→H):∃ places,DataW.whole enc Tryz.prog ((laidOverO (World.doorLaid Tryz.prog 400 os)).forCall (fun _ _=>0) ⟨#[], #[.slice none 0 0,zaO,.int .i64 0],[]⟩).memory Tryz.f5.params.toList Rows.routeOrderSpec.vars false (#[.slice none 0 0,zaO,.int .i64 0]:Array Value).toList 8=some ([.nil,.agg [.lit (.string []),.lit (.string []),.lit (.string [])],.lit (.int .i64 0)],[],places):=
 ⟨[],by kernel_rfl⟩
set_option maxRecDepth 100000 in
theorem liftedO (os:Os) (started:os.Started) (H:Type) (enc:TypeId×Value→H) (F:Stop.Interp):
    ReturnsInHanded {} Tryz.checked os 5 .any ((Rows.OpenSpec.upto Rows.routeOrderSpec).preRow enc Tryz.prog Tryz.f5 Rows.routeOrderUptoRow.domain false Rows.routeOrderUptoRow.laid) (((Rows.OpenSpec.upto Rows.routeOrderSpec).at F).post enc Tryz.prog Tryz.f5 false true false false):=by
  obtain⟨places,hx⟩:=readsO os enc
  refine returnsInHanded_of_row (C:=Tryz.checked) (s:=Rows.OpenSpec.upto Rows.routeOrderSpec) ownO started (by kernel_rfl) Tryz.func5
    (witness_row_atRef (enc:=enc) (C:=Tryz.checked) false (laidOverO (World.doorLaid Tryz.prog 400 os)) #[.slice none 0 0,zaO,.int .i64 0] rfl (by kernel_rfl) (by kernel_rfl) (by kernel_rfl)
      (OpenSpec.preRow_of_cond 8 hx (by kernel_rfl) (fun k hk=>by cases hk;kernel_rfl) (by kernel_rfl) (doorO os _))) ?_
  intro W base args ds gs before hval0 hW _ hcond _ _ hsh _
  have hval:∀ (j:Nat) t v,Tryz.f5.params[j]?=some t→args[j]?=some v→Value.okWide Tryz.prog W .any base t v:=hval0
  have hk:Rows.uptoSmall H (ds++gs)=true:=hcond _ rfl
  have hW':=hW
  obtain⟨p,q,hA0,hV,rfl,hfz,hnd⟩:=hW
  have hA:DataW.TrodAll enc Tryz.prog W 0 (fun _=>true) true Tryz.f5.params.toList args.toList ds p:=hA0
  rw [Tryz.params5] at hA hval
  obtain⟨v0,v1,v2,d0,d1,d2,p0,p1,p2,rfl,rfl,rfl,h0,h1,h2⟩:=trodAll_three hA
  obtain⟨rfl,rfl⟩:=trodVars_none hV
  obtain⟨pa,len0,cap0,rfl⟩:=okWide_slice Tryz.underlying22 (hval 0 22 v0 rfl rfl)
  obtain⟨xs,rfl,_⟩:=okWide_struct Tryz.underlying44 (hval 1 44 v1 rfl rfl)
  obtain⟨u,rfl,rfl,rfl,hu⟩:=open_int Tryz.underlying3 (hval 2 3 v2 rfl rfl) h2
  have hlt0:∀ x∈p0,x.block<W.heap.size:=fun x hx=>by simpa using hW'.lt x (by simp [hx])
  have hlt1:∀ x∈p1,x.block<W.heap.size:=fun x hx=>by simpa using hW'.lt x (by simp [hx])
  obtain⟨fuel0,hd0⟩:=h0
  obtain⟨fuel1,hd1⟩:=h1
  have he0:DataW.trod enc Tryz.prog W 0 (fun _=>true) true fuel0 22 [.slice pa len0 cap0]=some (d0,p0):=hd0
  have he1:DataW.trod enc Tryz.prog W 0 (fun _=>true) true fuel1 44 xs.toList=some (d1,p1):=hd1
  obtain⟨l,lp,lc,hv,hlc,_,hR,hIn,hw0⟩:=open_routes fuel0 _ _ he0
  obtain⟨ah,ap,am,hxs,hw1⟩:=open_asked fuel1 _ _ he1
  obtain⟨rfl,rfl,rfl⟩:pa=lp∧len0=l.length∧cap0=lc:=by simpa using hv
  clear hA0 hval0
  have hbulk:=of_decide_eq_true hk
  simp only [List.append_nil,Rows.uptoBulkAll] at hbulk
  simp only at hw0 hw1
  obtain⟨hz1,hz2,hz3⟩:=zp_of hIn (show _≤1048576 by omega)
  have hcall:=order_any_q l pa l.length cap0 ah ap am u W ⟨rfl,hz1,hz2,hz3,rts_of hR hIn⟩ (mxLenO hsh) (by omega) (by omega)
  have hx0:(Value.agg xs)= .agg #[.string (str ah),.string (str ap),.string (str am)]:=by rw [←Array.toArray_toList (xs:=xs),hxs]
  rw [←hx0] at hcall
  refine hcall.mono fun e W' ⟨he,bel⟩=>?_
  subst he
  exact⟨_,rfl,_,_,_,[],_,[],hW',trodAll_mk1 (shut_bool Tryz.underlying4 _),trodAll_mk3 (Below.trod laidOutO (by kernel_rfl) (of_decide_eq_true (by kernel_rfl)) ⟨fuel0,hd0⟩ bel hlt0) (Below.trod laidOutO (by kernel_rfl) (of_decide_eq_true (by kernel_rfl)) ⟨fuel1,hd1⟩ bel hlt1) (shut_int Tryz.underlying3 hu),rfl,bel.frame _,fun h=>by cases h⟩
theorem row_holdsO:Rows.RouteOrderUptoSaid:=
 OpenClaim.holds_of_cond 5 Tryz.f5 rfl rfl rfl rfl rfl rfl rfl ⟨rfl,rfl,rfl,rfl,rfl⟩ rfl rfl rfl rfl rfl (by kernel_rfl) Tryz.func5 joinedO
  (of_decide_eq_true (by kernel_rfl)) (by unfold Func.isWrapper;first|(rw [if_pos (by decide+kernel)];kernel_rfl)|(rw [if_neg (by decide+kernel)];exact⟨rfl,rfl⟩))
  (fun os started H enc _ F=>by rw [OpenClaim.pre_eq_preRow];exact liftedO os started H enc F)
end Go.Proofs.YtlmlljlappjjjaaGreatDoor.RouteOrder
namespace Go.Proofs.YtlmlljlappjjjaaGreatDoor
theorem routeOrderUpto_holds:Rows.RouteOrderUptoCardSaid:=
 Claim7.holds_tied_plain_at .later [] _ _ _ _
  RouteOrder.row_holdsO (fun _ h=>by cases h) (by kernel_rfl) (fun _ h=>by cases h) routeOrderUpto_row_tie rfl ⟨rfl,rfl⟩ (by kernel_rfl) rfl
  (fun f fn hf hfn=>by
   obtain rfl : f = 5 := Option.some.inj ((show Tryz.prog.funcNamed "turnstile/turnstilelaw18.RouteOrder" = some 5 by kernel_rfl).symm.trans hf) |>.symm
   obtain rfl:fn=Tryz.f5:=(Option.some.inj (Tryz.func5.symm.trans hfn)).symm;exact⟨by kernel_rfl,fun j t ht=>by
    rw [Tryz.params5] at ht;have hm:t∈ [22,44,3]:=by simpa using Array.mem_of_getElem? ht
    have hall:([22,44,3].all fun u=>!Tryz.prog.wantsStandIn u)=true:=by kernel_rfl
    exact(show Tryz.prog.wantsStandIn t=false by simpa using List.all_eq_true.1 hall t hm)⟩)
  RouteOrder.noGoesO
end Go.Proofs.YtlmlljlappjjjaaGreatDoor
