/- For all routes, every request and all methods whose bulk together is at most 1048576 the law RouteRequests returns true and leaves its arguments as they were; the listed tables of Go's library are tied to the program's text (the tie is given). -/
import Derived.Test.YtlmlljlappjjjaaGreatDoorCards
import Derived.Test.YtlmlljlappjjjaaGreatDoorTie
import Derived.Test.YtlmlljlappjjjaaGreatDoorQROpen
import Derived.Test.YtlmlljlappjjjaaGreatDoorQFactRequests
import Derived.Test.YtlmlljlappjjjaaGreatDoorQGoesRequests
import Derived.LaidMore
import Derived.Stop.LaidErr
import Derived.Deep.DeepWitnessRowRef
namespace Go.Proofs.YtlmlljlappjjjaaGreatDoor.RouteRequests
open Go.ChangeShapes Go.WideShapes Go.ChangeAt Go.RowKit
open Go.ChangeMaps (open_string shut_string)
theorem ownR:ownKnob Tryz.prog.godebug=none:=by kernel_rfl
def firstCellsR:Array Value:=(Go.Pinned.utf8FirstZ.map fun n:Nat=>Value.int .u8 (n:Int)).toArray
def laidOverR (w:World):World:=
 {w with heap:=w.heap.modify 1 fun
  | .cells _ t frozen=>.cells firstCellsR t frozen
  |o=>o}
theorem doorR (os:Os) (args:Array Value):laidMetH Tryz.prog Rows.routeRequestsUptoRow.laid ((laidOverR (World.doorLaid Tryz.prog 400 os)).forCall (fun _ _=>0) ⟨#[],args,[]⟩).memory:=
 laidMetH_of_parts3 (fuel:=8) (laidMet_of_run' 8 (by kernel_rfl) (by kernel_rfl)) (by kernel_rfl) (by kernel_rfl)
theorem mxLenR {W:World} (h:W.ShapedOpen Tryz.prog):MxAt W:=
 cell_of_shapedOpen_int (zero:=#[.int .i64 0]) (t:=3) h (of_decide_eq_true (by kernel_rfl)) (by kernel_rfl) rfl (by kernel_rfl) (by kernel_rfl) Tryz.underlying3
abbrev zaR:Value:=.agg #[.string ByteArray.empty,.string ByteArray.empty,.int .i64 0,.slice none 0 0]
theorem readsR (os:Os) {H:Type} (enc:TypeId×Value→H):∃ places,DataW.whole enc Tryz.prog ((laidOverR (World.doorLaid Tryz.prog 400 os)).forCall (fun _ _=>0) ⟨#[], #[.slice none 0 0,zaR,.slice none 0 0],[]⟩).memory Tryz.f4.params.toList Rows.routeRequestsSpec.vars false (#[.slice none 0 0,zaR,.slice none 0 0]:Array Value).toList 8=some ([.nil,.agg [.lit (.string []),.lit (.string []),.lit (.int .i64 0),.nil],.nil],[],places):=
 ⟨[],by kernel_rfl⟩
set_option maxRecDepth 100000 in
theorem liftedR (os:Os) (started:os.Started) (H:Type) (enc:TypeId×Value→H) (F:Stop.Interp):
    ReturnsInHanded {} Tryz.checked os 4 .any ((Rows.OpenSpec.upto Rows.routeRequestsSpec).preRow enc Tryz.prog Tryz.f4 Rows.routeRequestsUptoRow.domain false Rows.routeRequestsUptoRow.laid) (((Rows.OpenSpec.upto Rows.routeRequestsSpec).at F).post enc Tryz.prog Tryz.f4 false true false false):=by
  obtain⟨places,hx⟩:=readsR os enc
  refine returnsInHanded_of_row (C:=Tryz.checked) (s:=Rows.OpenSpec.upto Rows.routeRequestsSpec) ownR started (by kernel_rfl) Tryz.func4
    (witness_row_atRef (enc:=enc) (C:=Tryz.checked) false (laidOverR (World.doorLaid Tryz.prog 400 os)) #[.slice none 0 0,zaR,.slice none 0 0] rfl (by kernel_rfl) (by kernel_rfl) (by kernel_rfl)
      (OpenSpec.preRow_of_cond 8 hx (by kernel_rfl) (fun k hk=>by cases hk;kernel_rfl) (by kernel_rfl) (doorR os _))) ?_
  intro W base args ds gs before hval0 hW _ hcond _ _ hsh _
  have hval:∀ (j:Nat) t v,Tryz.f4.params[j]?=some t→args[j]?=some v→Value.okWide Tryz.prog W .any base t v:=hval0
  have hk:Rows.uptoSmall H (ds++gs)=true:=hcond _ rfl
  have hW':=hW
  obtain⟨p,q,hA0,hV,rfl,hfz,hnd⟩:=hW
  have hA:DataW.TrodAll enc Tryz.prog W 0 (fun _=>true) true Tryz.f4.params.toList args.toList ds p:=hA0
  rw [Tryz.params4] at hA hval
  obtain⟨v0,v1,v2,d0,d1,d2,p0,p1,p2,rfl,rfl,rfl,h0,h1,h2⟩:=trodAll_three hA
  obtain⟨rfl,rfl⟩:=trodVars_none hV
  obtain⟨pa,len0,cap0,rfl⟩:=okWide_slice Tryz.underlying22 (hval 0 22 v0 rfl rfl)
  obtain⟨xs,rfl,_⟩:=okWide_struct Tryz.underlying57 (hval 1 57 v1 rfl rfl)
  obtain⟨pc,len2,cap2,rfl⟩:=okWide_slice Tryz.underlying36 (hval 2 36 v2 rfl rfl)
  have hlt0:∀ x∈p0,x.block<W.heap.size:=fun x hx=>by simpa using hW'.lt x (by simp [hx])
  have hlt1:∀ x∈p1,x.block<W.heap.size:=fun x hx=>by simpa using hW'.lt x (by simp [hx])
  have hlt2:∀ x∈p2,x.block<W.heap.size:=fun x hx=>by simpa using hW'.lt x (by simp [hx])
  obtain⟨fuel0,hd0⟩:=h0
  obtain⟨fuel1,hd1⟩:=h1
  obtain⟨fuel2,hd2⟩:=h2
  have he0:DataW.trod enc Tryz.prog W 0 (fun _=>true) true fuel0 22 [.slice pa len0 cap0]=some (d0,p0):=hd0
  have he1:DataW.trod enc Tryz.prog W 0 (fun _=>true) true fuel1 57 xs.toList=some (d1,p1):=hd1
  have he2:DataW.trod enc Tryz.prog W 0 (fun _=>true) true fuel2 36 [.slice pc len2 cap2]=some (d2,p2):=hd2
  obtain⟨l,lp,lc,hv,hlc,_,hR,hIn,hw0⟩:=open_routes fuel0 _ _ he0
  obtain⟨rm,rt,rk,fs,fp,fc,hxs,hF1,hw1⟩:=open_req fuel1 _ _ he1
  obtain⟨ms,lm,mc,hv2,hmc,_,hR2,_,hw2⟩:=open_texts fuel2 _ _ he2
  obtain⟨rfl,rfl,rfl⟩:pa=lp∧len0=l.length∧cap0=lc:=by simpa using hv
  obtain⟨rfl,rfl,rfl⟩:pc=lm∧len2=ms.length∧cap2=mc:=by simpa using hv2
  clear hA0 hval0
  have hbulk:=of_decide_eq_true hk
  simp only [List.append_nil,Rows.uptoBulkAll] at hbulk
  simp only at hw0 hw1 hw2
  obtain⟨hz1,hz2,hz3⟩:=zp_of hIn (show _≤1048576 by omega)
  obtain⟨hs1,hs2⟩:=sz_of (l:=fs) (by omega)
  obtain⟨hm1,hm2⟩:=txz_of (l:=ms) (by omega)
  have hcall:=requests_any l pa l.length cap0 rm rt rk fs fp fs.length fc ms pc ms.length cap2 W ⟨rfl,hz1,hz2,hz3,rts_of hR hIn⟩ (mxLenR hsh) rfl hF1 hs1 hs2 (by omega) rfl hmc hm1 hm2 (tx_of hR2)
  have hx0:(Value.agg xs)= .agg #[.string (str rm),.string (str rt),.int .i64 rk,.slice fp fs.length fc]:=by rw [←Array.toArray_toList (xs:=xs),hxs]
  rw [←hx0] at hcall
  refine hcall.mono fun e W' ⟨he,bel⟩=>?_
  subst he
  exact⟨_,rfl,_,_,_,[],_,[],hW',trodAll_mk1 (shut_bool Tryz.underlying4 _),trodAll_mk3 (Below.trod laidOutR (by kernel_rfl) (of_decide_eq_true (by kernel_rfl)) ⟨fuel0,hd0⟩ bel hlt0) (Below.trod laidOutR (by kernel_rfl) (of_decide_eq_true (by kernel_rfl)) ⟨fuel1,hd1⟩ bel hlt1) (Below.trod laidOutR (by kernel_rfl) (of_decide_eq_true (by kernel_rfl)) ⟨fuel2,hd2⟩ bel hlt2),rfl,bel.frame _,fun h=>by cases h⟩
theorem row_holdsR:Rows.RouteRequestsUptoSaid:=
 OpenClaim.holds_of_cond 4 Tryz.f4 rfl rfl rfl rfl rfl rfl rfl ⟨rfl,rfl,rfl,rfl,rfl⟩ rfl rfl rfl rfl rfl (by kernel_rfl) Tryz.func4 joinedR
  (of_decide_eq_true (by kernel_rfl)) (by unfold Func.isWrapper;first|(rw [if_pos (by decide+kernel)];kernel_rfl)|(rw [if_neg (by decide+kernel)];exact⟨rfl,rfl⟩))
  (fun os started H enc _ F=>by rw [OpenClaim.pre_eq_preRow];exact liftedR os started H enc F)
end Go.Proofs.YtlmlljlappjjjaaGreatDoor.RouteRequests
namespace Go.Proofs.YtlmlljlappjjjaaGreatDoor
theorem routeRequestsUpto_holds:Rows.RouteRequestsUptoCardSaid:=
 Claim7.holds_tied_plain_at .later [] _ _ _ _
  RouteRequests.row_holdsR (fun _ h=>by cases h) (by kernel_rfl) (fun _ h=>by cases h) routeRequestsUpto_row_tie rfl ⟨rfl,rfl⟩ (by kernel_rfl) rfl
  (fun f fn hf hfn=>by
   obtain rfl : f = 4 := Option.some.inj ((show Tryz.prog.funcNamed "turnstile/turnstilelaw18.RouteRequests" = some 4 by kernel_rfl).symm.trans hf) |>.symm
   obtain rfl:fn=Tryz.f4:=(Option.some.inj (Tryz.func4.symm.trans hfn)).symm;exact⟨by kernel_rfl,fun j t ht=>by
    rw [Tryz.params4] at ht;have hm:t∈ [22,57,36]:=by simpa using Array.mem_of_getElem? ht
    have hall:([22,57,36].all fun u=>!Tryz.prog.wantsStandIn u)=true:=by kernel_rfl
    exact(show Tryz.prog.wantsStandIn t=false by simpa using List.all_eq_true.1 hall t hm)⟩)
  RouteRequests.noGoesR
end Go.Proofs.YtlmlljlappjjjaaGreatDoor
