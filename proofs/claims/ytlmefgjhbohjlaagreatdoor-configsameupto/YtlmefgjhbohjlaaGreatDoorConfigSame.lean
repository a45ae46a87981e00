/- For every two configurations and every name whose bulk together is at most 1048576 the law ConfigSame returns true and leaves its arguments as they were; the listed tables and errors of Go's library are tied to the program's text (the tie is given). -/
import Derived.Test.YtlmefgjhbohjlaaGreatDoorCards
import Derived.Test.YtlmefgjhbohjlaaGreatDoorTie
import Derived.Test.YtlmefgjhbohjlaaGreatDoorLCfgSame
import Derived.Test.YtlmefgjhbohjlaaGreatDoorLLaid
import Derived.Test.YtlmefgjhbohjlaaGreatDoorLFactSame
import Derived.Test.YtlmefgjhbohjlaaGreatDoorLGoesSame
import Derived.SevenTiedAt
import Derived.Deep.DeepWitnessRowRef
namespace Go.Proofs.YtlmefgjhbohjlaaGreatDoor.ConfigSame
open Go.ChangeShapes Go.WideShapes Go.ChangeAt Go.RowKit
open Go.ChangeMaps (open_string shut_string)
theorem own:ownKnob Tryz.prog.godebug=none:=by kernel_rfl
def firstCells:Array Value:=(Go.Pinned.utf8FirstZ.map fun n:Nat=>Value.int .u8 (n:Int)).toArray
def laidOver (w:World):World:=
 {w with heap:=w.heap.modify 1 fun
  | .cells _ t frozen=>.cells firstCells t frozen
  |o=>o}
theorem door (os:Os) (args:Array Value):laidMetH Tryz.prog Rows.configSameUptoRow.laid ((laidOver (World.doorLaid Tryz.prog 400 os)).forCall (fun _ _=>0) ⟨#[],args,[]⟩).memory:=
 laidMetH_of_parts3 (fuel:=8) (laidMet_of_run' 8 (by kernel_rfl) (by kernel_rfl)) (by kernel_rfl) (by kernel_rfl)
set_option maxRecDepth 100000 in
theorem env {W:World} (h:laidMetH Tryz.prog Rows.configSameUptoRow.laid W) (hsh:W.ShapedOpen Tryz.prog):EnvC W:=by
 have h' : laidMet Tryz.prog laidListC W ∧ handlesMet Tryz.prog [("errors.errorType", Rows.laid_errors_errorType)] W := h;exact env_ofC h' hsh
abbrev zc:Value:=.agg #[.slice none 0 0,.slice none 0 0,.slice none 0 0,.int .i64 0,.int .i64 0,.int .i64 0,.int .i64 0,.int .i64 0]
theorem reads (os:Os) {H:Type} (enc:TypeId×Value→H):∃ places,DataW.whole enc Tryz.prog ((laidOver (World.doorLaid Tryz.prog 400 os)).forCall (fun _ _=>0) ⟨#[], #[zc,zc,.string ByteArray.empty],[]⟩).memory Tryz.f5.params.toList Rows.configSameSpec.vars false (#[zc,zc,.string ByteArray.empty]:Array Value).toList 8=some ([.agg [.nil,.nil,.nil,.lit (.int .i64 0),.lit (.int .i64 0),.lit (.int .i64 0),.lit (.int .i64 0),.lit (.int .i64 0)],.agg [.nil,.nil,.nil,.lit (.int .i64 0),.lit (.int .i64 0),.lit (.int .i64 0),.lit (.int .i64 0),.lit (.int .i64 0)],.lit (.string [])],[],places):=
 ⟨[],by kernel_rfl⟩
set_option maxRecDepth 100000 in
theorem lifted (os:Os) (started:os.Started) (H:Type) (enc:TypeId×Value→H) (F:Stop.Interp):
    ReturnsInHanded {} Tryz.checked os 5 .any ((Rows.OpenSpec.upto Rows.configSameSpec).preRow enc Tryz.prog Tryz.f5 Rows.configSameUptoRow.domain false Rows.configSameUptoRow.laid) (((Rows.OpenSpec.upto Rows.configSameSpec).at F).post enc Tryz.prog Tryz.f5 false true false false):=by
  obtain⟨places,hx⟩:=reads os enc
  refine returnsInHanded_of_row (C:=Tryz.checked) (s:=Rows.OpenSpec.upto Rows.configSameSpec) own started (by kernel_rfl) Tryz.func5
    (witness_row_atRef (enc:=enc) (C:=Tryz.checked) false (laidOver (World.doorLaid Tryz.prog 400 os)) #[zc,zc,.string ByteArray.empty] rfl (by kernel_rfl) (by kernel_rfl) (by kernel_rfl)
      (OpenSpec.preRow_of_cond 8 hx (by kernel_rfl) (fun k hk=>by cases hk;kernel_rfl) (by kernel_rfl) (door os _))) ?_
  intro W base args ds gs before hval0 hW _ hcond _ hL hsh _
  have hval:∀ (j:Nat) t v,Tryz.f5.params[j]?=some t→args[j]?=some v→Value.okWide Tryz.prog W .any base t v:=hval0
  have hk:Rows.uptoSmall H (ds++gs)=true:=hcond _ rfl
  have hW':=hW
  obtain⟨p,q,hA0,hV,rfl,hfz,hnd⟩:=hW
  have hA:DataW.TrodAll enc Tryz.prog W 0 (fun _=>true) true Tryz.f5.params.toList args.toList ds p:=hA0
  rw [Tryz.params5] at hA hval
  obtain⟨v0,v1,v2,d0,d1,d2,p0,p1,p2,rfl,rfl,rfl,h0,h1,h2⟩:=trodAll_three hA
  obtain⟨rfl,rfl⟩:=trodVars_none hV
  obtain⟨xs,rfl,_⟩:=okWide_struct Tryz.underlying26 (hval 0 26 v0 rfl rfl)
  obtain⟨ys,rfl,_⟩:=okWide_struct Tryz.underlying26 (hval 1 26 v1 rfl rfl)
  obtain⟨s,rfl,rfl,rfl,hs⟩:=open_string Tryz.underlying9 (hval 2 9 v2 rfl rfl) h2
  have hlt0:∀ x∈p0,x.block<W.heap.size:=fun x hx=>by simpa using hW'.lt x (by simp [hx])
  have hlt1:∀ x∈p1,x.block<W.heap.size:=fun x hx=>by simpa using hW'.lt x (by simp [hx])
  obtain⟨fuel0,hd0⟩:=h0
  obtain⟨fuel1,hd1⟩:=h1
  have he0:DataW.trod enc Tryz.prog W 0 (fun _=>true) true fuel0 26 xs.toList=some (d0,p0):=hd0
  have he1:DataW.trod enc Tryz.prog W 0 (fun _=>true) true fuel1 26 ys.toList=some (d1,p1):=hd1
  obtain⟨kqa,kka,pqa,pka,rqa,rka,ksa,psa,rsa,m1,m2,m3,m4,m5,hxs,hIa,hwa⟩:=open_cfg fuel0 _ _ he0
  obtain⟨kqb,kkb,pqb,pkb,rqb,rkb,ksb,psb,rsb,n1,n2,n3,n4,n5,hys,hIb,hwb⟩:=open_cfg fuel1 _ _ he1
  clear hA0 hval0
  have hbulk:=of_decide_eq_true hk
  simp only [List.append_nil,Rows.uptoBulkAll,Rows.uptoBulk] at hbulk
  simp only at hwa hwb
  have hza:=giveZ_of hIa (show _≤1048576 by omega)
  have hzb:=giveZ_of hIb (show _≤1048576 by omega)
  have hcall:=cfgsame_walk kqa ksa.length kka pqa psa.length pka rqa rsa.length rka ksa psa rsa m1 m2 m3 m4 m5 kqb ksb.length kkb pqb psb.length pkb rqb rsb.length rkb ksb psb rsb n1 n2 n3 n4 n5 s.data.toList hza hzb W hIa hIb (env hL hsh)
  rw [show str s.data.toList=s from arr_inj (by simp)] at hcall
  have hx0:(Value.agg xs)= .agg #[.slice kqa ksa.length kka,.slice pqa psa.length pka,.slice rqa rsa.length rka,.int .i64 m1,.int .i64 m2,.int .i64 m3,.int .i64 m4,.int .i64 m5]:=by rw [←Array.toArray_toList (xs:=xs),hxs]
  have hy0:(Value.agg ys)= .agg #[.slice kqb ksb.length kkb,.slice pqb psb.length pkb,.slice rqb rsb.length rkb,.int .i64 n1,.int .i64 n2,.int .i64 n3,.int .i64 n4,.int .i64 n5]:=by rw [←Array.toArray_toList (xs:=ys),hys]
  rw [←hx0,←hy0] at hcall
  refine hcall.mono fun e W' ⟨he,bel⟩=>?_
  subst he
  exact⟨_,rfl,_,_,_,[],_,[],hW',trodAll_mk1 (shut_bool Tryz.underlying4 _),trodAll_mk3 (Below.trod laidOut (by kernel_rfl) (of_decide_eq_true (by kernel_rfl)) ⟨fuel0,hd0⟩ bel hlt0) (Below.trod laidOut (by kernel_rfl) (of_decide_eq_true (by kernel_rfl)) ⟨fuel1,hd1⟩ bel hlt1) (shut_string Tryz.underlying9 hs),rfl,bel.frame _,fun h=>by cases h⟩
theorem row_holds:Rows.ConfigSameUptoSaid:=
 OpenClaim.holds_of_cond 5 Tryz.f5 rfl rfl rfl rfl rfl rfl rfl ⟨rfl,rfl,rfl,rfl,rfl⟩ rfl rfl rfl rfl rfl (by kernel_rfl) Tryz.func5 joined
  (of_decide_eq_true (by kernel_rfl)) (by unfold Func.isWrapper;first|(rw [if_pos (by decide+kernel)];kernel_rfl)|(rw [if_neg (by decide+kernel)];exact⟨rfl,rfl⟩))
  (fun os started H enc _ F=>by rw [OpenClaim.pre_eq_preRow];exact lifted os started H enc F)
end Go.Proofs.YtlmefgjhbohjlaaGreatDoor.ConfigSame
namespace Go.Proofs.YtlmefgjhbohjlaaGreatDoor
theorem configSameUpto_holds:Rows.ConfigSameUptoCardSaid:=
 Claim7.holds_tied_plain_at .later [] _ _ _ _
  ConfigSame.row_holds (fun _ h=>by cases h) (by kernel_rfl) (fun _ h=>by cases h) configSameUpto_row_tie rfl ⟨rfl,rfl⟩ (by kernel_rfl) rfl
  (fun f fn hf hfn=>by
   obtain rfl : f = 5 := Option.some.inj ((show Tryz.prog.funcNamed "turnstile/turnstilelaw17.ConfigSame" = some 5 by kernel_rfl).symm.trans hf) |>.symm
   obtain rfl:fn=Tryz.f5:=(Option.some.inj (Tryz.func5.symm.trans hfn)).symm;exact⟨by kernel_rfl,fun j t ht=>by
    rw [Tryz.params5] at ht;have hm:t∈ [26,26,9]:=by simpa using Array.mem_of_getElem? ht
    have hall:([26,26,9].all fun u=>!Tryz.prog.wantsStandIn u)=true:=by kernel_rfl
    exact(show Tryz.prog.wantsStandIn t=false by simpa using List.all_eq_true.1 hall t hm)⟩)
  ConfigSame.noGoes
end Go.Proofs.YtlmefgjhbohjlaaGreatDoor
