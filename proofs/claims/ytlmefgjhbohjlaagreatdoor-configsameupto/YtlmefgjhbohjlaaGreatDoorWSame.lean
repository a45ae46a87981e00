/- errors.As at an error of the project's own kind, and the law package's number of an error: nil is 0, an error is its number; what was in memory stays; where errors.errorType is laid. -/
import Derived.Test.YtlmefgjhbohjlaaGreatDoorLPlain
namespace Go.Proofs.YtlmefgjhbohjlaaGreatDoor
set_option maxRecDepth 20000
set_option maxHeartbeats 64000000
open Go.RowKit Go.Extern.Stop Go.Stop Go.Extern
theorem as_rls_v (v x:Value):ReflectliteValue.set #[v,x]=(do
 let (some (dst,a,fl),some (src,b,_)):=(←ReflectliteValue.parts v,←ReflectliteValue.parts x)
  | unsupported (.noEntry "extern/(internal/reflectlite.Value).Set.zeroValue")
 if fl / ReflectliteValue.flagAddr % 2 == 0 then unsupported (.noEntry "extern/(internal/reflectlite.Value).Set.unaddressable")
 let val ←loadVar src b
 if ←Rtype.directlyAssignable dst src then storeVar dst a val
 else if ←Rtype.implements dst src then
  if (←Rtype.kind src)== 20 then
   match val with
   | .nilIface => unsupported (.noEntry "extern/reflectlite: a nil value of one interface type handed on as a value of another")
   |_=>storeVar dst a val
  else storeVar dst a (.iface src val)
 else panicString ("reflectlite.Set: value of type " ++ (← Rtype.spelt src) ++ " is not assignable to type " ++ (← Rtype.spelt dst))
 pure (.tuple #[])):=rfl
theorem as_set49_v (ta b:Addr) (k:Int) (old:Value) (W:World) (hb:W.cell? b=some (.int .i64 k)) (ht:W.cell? ta=some old) (hf:W.frozen? ta=false):
  (ReflectliteValue.set #[.agg #[.pointer (some ⟨9,63,none⟩),.pointer (some ta),.int .u64 386],.agg #[.pointer (some ⟨9,63,none⟩),.pointer (some b),.int .u64 130]]).run Tryz.prog W
   = .ok (.tuple #[]) (W.setCell ta (.int .i64 k)):=by
 rw [as_rls_v];simp only [Sem.run_bind,as_parts49a,as_parts49,Result.andThen];simp [ReflectliteValue.flagAddr,loadVar,isAgg,underlying,Tryz.underlying63,hb,Result.andThen,as_direct49,storeVar,Value.cells,storeCells,Addr.add];rw [run_store Tryz.prog W ta _ _ (by rfl)];simp [ht,hf]
theorem as_hit_v (k:Int) (t:Addr) (old:Value) (w:World) (hg:w.cell? ⟨0,0,none⟩=some (.iface 221 (.agg #[.pointer (some ⟨9,28,none⟩)]))) (ht0:w.cell? t=some old) (hf0:w.frozen? t=false):
  Calls Tryz.prog 36 #[.iface 63 (.int .i64 k),.iface 98 (.pointer (some t))] w fun ev w'=>ev= .returned (.bool true)∧w'=((((w.alloc (.cells #[.pointer (some t)] 98)).alloc (.cells #[.pointer (some ⟨9,98,none⟩),.pointer (some ⟨w.heap.size,0,none⟩),.int .u64 150] 153)).alloc (.cells #[.pointer (some ⟨9,98,none⟩),.pointer (some ⟨w.heap.size,0,none⟩),.int .u64 150] 153)).alloc (.cells #[.int .i64 k] 63)).setCell t (.int .i64 k):=by
 have h6 := @run_callFunc_extern Tryz.prog 81 _ (fun args => ReflectliteValue.unpack (args.getD 0 (.tuple #[]))) Tryz.func81 (by kernel_rfl) (by kernel_rfl) (by kernel_rfl) (by kernel_rfl);have h7 := @run_callFunc_extern Tryz.prog 82 _ (ReflectliteValue.methodAny (ReflectliteValue.valueError "reflectlite.Value.Type" 0) (fun t _ _ _ => ReflectliteType.toType t)) Tryz.func82 (by kernel_rfl) (by kernel_rfl) (by kernel_rfl) (by kernel_rfl);have h8 := @run_callFunc_extern Tryz.prog 83 _ (ReflectliteValue.method (ReflectliteValue.valueError "reflectlite.Value.IsNil" 0) ReflectliteValue.isNil) Tryz.func83 (by kernel_rfl) (by kernel_rfl) (by kernel_rfl) (by kernel_rfl);have h27 := @run_callFunc_extern Tryz.prog 409 _ (ReflectliteType.abiMethod fun t => do pure (.int .u8 (← Rtype.kind t))) Tryz.func409 (by kernel_rfl) (by kernel_rfl) (by kernel_rfl) (by kernel_rfl);have h37 := @run_callFunc_extern Tryz.prog 419 _ (ReflectliteType.method ReflectliteType.elem) Tryz.func419 (by kernel_rfl) (by kernel_rfl) (by kernel_rfl) (by kernel_rfl);have h38 := @run_callFunc_extern Tryz.prog 420 _ (ReflectliteType.relation "Implements" ReflectliteType.implements_) Tryz.func420 (by kernel_rfl) (by kernel_rfl) (by kernel_rfl) (by kernel_rfl);have h10 := @run_callFunc_extern Tryz.prog 149 _ ReflectliteType.typeOf Tryz.func149 (by kernel_rfl) (by kernel_rfl) (by kernel_rfl) (by kernel_rfl);have h35 := @run_callFunc_extern Tryz.prog 417 _ (ReflectliteType.relation "AssignableTo" ReflectliteType.assignableTo) Tryz.func417 (by kernel_rfl) (by kernel_rfl) (by kernel_rfl) (by kernel_rfl);have h11 := @run_callFunc_extern Tryz.prog 150 _ (ReflectliteValue.method (ReflectliteValue.valueError "reflectlite.Value.Elem" 0) ReflectliteValue.elem) Tryz.func150 (by kernel_rfl) (by kernel_rfl) (by kernel_rfl) (by kernel_rfl);have h12 := @run_callFunc_extern Tryz.prog 151 _ ReflectliteValue.set Tryz.func151 (by kernel_rfl) (by kernel_rfl) (by kernel_rfl) (by kernel_rfl);have tO := as_typeOf49;have mA := as_methodAssignableTo;have a25 := as_assignable49;have v25 := as_valueOf49;have f6 := as_valueOf54;have f7 := as_type54;have mK := as_methodKind;have mE := as_methodElem;have mI := as_methodImplements;have k27 := as_kind54;have k25 := as_kind49;have e27 := as_elem54;have i25 := as_implements49;have n8 := as_isNil54 ⟨w.heap.size, 0, none⟩ t ((w.alloc (.cells #[.pointer (some t)] 98)).alloc (.cells #[.pointer (some ⟨9, 98, none⟩), .pointer (some ⟨w.heap.size, 0, none⟩), .int .u64 150] 153)) (by simp);have hlt : 0 < w.heap.size := by
  rcases Nat.lt_or_ge 0 w.heap.size with h|h
  · exact h
  · simp [World.cell?,Array.getElem?_eq_none h] at hg
 have hg2:((w.alloc (.cells #[.pointer (some t)] 98)).alloc (.cells #[.pointer (some ⟨9,98,none⟩),.pointer (some ⟨w.heap.size,0,none⟩),.int .u64 150] 153)).cell? ⟨0,0,none⟩=some (.iface 221 (.agg #[.pointer (some ⟨9,28,none⟩)])):=by
  rw [World.cell?_alloc_lt _ _ ⟨0,0,none⟩ (by simp),World.cell?_alloc_lt _ _ ⟨0,0,none⟩ hlt];exact hg
 have htl:t.block<w.heap.size:=by
  rcases Nat.lt_or_ge t.block w.heap.size with h|h
  · exact h
  · simp [World.cell?,Array.getElem?_eq_none h] at ht0
 have el:=as_elemV54 ⟨w.heap.size,0,none⟩ t (((w.alloc (.cells #[.pointer (some t)] 98)).alloc (.cells #[.pointer (some ⟨9,98,none⟩),.pointer (some ⟨w.heap.size,0,none⟩),.int .u64 150] 153)).alloc (.cells #[.pointer (some ⟨9,98,none⟩),.pointer (some ⟨w.heap.size,0,none⟩),.int .u64 150] 153)) (by rw [World.cell?_alloc_lt _ _ ⟨w.heap.size,0,none⟩ (by simp;omega)];simp);have st:=as_set49_v t ⟨w.heap.size+1+1+1,0,none⟩ k old ((((w.alloc (.cells #[.pointer (some t)] 98)).alloc (.cells #[.pointer (some ⟨9,98,none⟩),.pointer (some ⟨w.heap.size,0,none⟩),.int .u64 150] 153)).alloc (.cells #[.pointer (some ⟨9,98,none⟩),.pointer (some ⟨w.heap.size,0,none⟩),.int .u64 150] 153)).alloc (.cells #[.int .i64 k] 63))
  (by rw [World.cell?_alloc_at _ _ _ _ (by simp)];rfl)
  (by rw [World.cell?_alloc_lt _ _ t (by simp;omega),World.cell?_alloc_lt _ _ t (by simp;omega),World.cell?_alloc_lt _ _ t (by simp;omega),World.cell?_alloc_lt _ _ t htl];exact ht0)
  (by rw [World.frozen?_alloc_old _ _ t (by simp;omega),World.frozen?_alloc_old _ _ t (by simp;omega),World.frozen?_alloc_old _ _ t (by simp;omega),World.frozen?_alloc_old _ _ t (Nat.ne_of_lt htl)];exact hf0)
 go_enter Tryz.func36,Tryz.ntmps36;go_wp2;refine wp_loop_rounds 1 ?_;rw [rounds_succ];go_wp2;go_ret;exact⟨rfl,rfl⟩
theorem num_nil (w:World):Calls Tryz.prog 11 #[.nilIface] w fun e w'=>e= .returned (.int .i64 0)∧Below w.heap.size w w':=by
 go_enter Tryz.func11,Tryz.ntmps11;go_wp2;go_ret;exact⟨rfl,(Below.refl _ _).alloc (Nat.le_refl _) _⟩
theorem num_err (k:Int) (w:World) (hg:w.cell? ⟨0,0,none⟩=some (.iface 221 (.agg #[.pointer (some ⟨9,28,none⟩)]))):
  Calls Tryz.prog 11 #[.iface 63 (.int .i64 k)] w fun e w'=>e= .returned (.int .i64 k)∧Below w.heap.size w w':=by
 have hlt:0<w.heap.size:=by
  rcases Nat.lt_or_ge 0 w.heap.size with h|h
  · exact h
  · simp [World.cell?,Array.getElem?_eq_none h] at hg
 have hgA:(w.alloc (.cells #[.int .i64 0] 63)).cell? ⟨0,0,none⟩=some (.iface 221 (.agg #[.pointer (some ⟨9,28,none⟩)])):=by
  rw [World.cell?_alloc_lt _ _ ⟨0,0,none⟩ hlt];exact hg
 have htA:(w.alloc (.cells #[.int .i64 0] 63)).cell? ⟨w.heap.size,0,none⟩=some (.int .i64 0):=by simp
 have hfA:(w.alloc (.cells #[.int .i64 0] 63)).frozen? ⟨w.heap.size,0,none⟩=false:=by simp
 go_enter Tryz.func11,Tryz.ntmps11;go_wp2_with (go_at_call 36;refine(as_hit_v k _ (.int .i64 0) _ hgA htA hfA).mono ?_;rintro e w' ⟨rfl,rfl⟩);go_ret;exact⟨rfl,(((((Below.refl _ _).alloc (Nat.le_refl _) _).alloc (by simp) _).alloc (by simp;omega) _).alloc (by simp;omega) _).alloc (by simp;omega) _⟩
open Go.RowKit
theorem lnum_any (k:Nat) (w:World) (hE:EnvC w):Calls Tryz.prog 11 #[errOf k] w fun e w'=>e= .returned (.int .i64 (k:Int))∧Below w.heap.size w w':=by
 by_cases hk:k=0
 · subst hk;exact num_nil w
 · rw [errOf_pos hk];exact num_err (k:Int) w hE.k.typ
theorem sure_keys (s:B):KeyTold (cfgJ askB (sureC s)):=fun h=>by
 have h1:atV (cfgJ askB (sureC s)) n_keys=none:=by
  have e:atV (cfgJ askB (sureC s)) (behindC [] n_keys)=(atV (cfgJ askB (sureC s)) []).bind (child · n_keys):=at_behind _ [] (step_of (by decide));rw [show behindC [] n_keys=n_keys from rfl] at e;rw [e];show child (objJ (cfgMs askB (sureC s))) n_keys=none;rw [child_obj _ (by decide)];rfl
 rw [h1] at h;cases h
theorem sure_zero (s:B) (hv:validN (cfgJ askB (sureC s))=0) (hl:(sureT s).length≤1048576):∃ n,parse (sureT s)=(cfgJ askB (sureC s),n,0)∧cfgM askB (cfgJ askB (sureC s))=(sureC s,none):=by
 have h1:=parse_print hv hl;exact⟨_,h1,cfg_back askB enc_back (sure_back s)⟩
theorem sure_parse1 (W:World) (hE:EnvC W):Calls Tryz.prog 8 #[.string (str (sureT [113]))] W fun e w'=>ToldP_v (sureT [113]) W e w':=by
 obtain⟨n,h1,h2⟩:=sure_zero [113] sure_val1 (by rw [sure_text1];decide);exact pparse_not (sureT [113]) (by rw [sure_text1];decide) W hE (sure_keys _) h1 rfl (by rw [h2]) (by rw [h2];show validC askT (sureC [113])≠ [];rw [sure_not];decide+kernel)
theorem sure_parse2 (W:World) (hE:EnvC W):Calls Tryz.prog 8 #[.string (str (sureT [112]))] W fun e w'=>ToldP_v (sureT [112]) W e w':=by
 obtain⟨n,h1,h2⟩:=sure_zero [112] sure_val2 (by rw [sure_text2];decide);exact pparse_yes (sureT [112]) (by rw [sure_text2];decide) W hE (sure_keys _) h1 rfl (by rw [h2]) (by rw [h2];exact sure_yes)
theorem sure_calls1 (W:World) (hE:EnvC W):Calls Tryz.prog 8 #[.string (str (sureT [113]))] W fun e w'=>∃ (kq:Option Addr) (kn kk:Nat) (pq:Option Addr) (pn pk:Nat) (rq:Option Addr) (rn rk:Nat) (m1 m2 m3 m4 m5:Int),e= .returned (.tuple #[.agg #[.slice kq kn kk,.slice pq pn pk,.slice rq rn rk,.int .i64 m1,.int .i64 m2,.int .i64 m3,.int .i64 m4,.int .i64 m5],.string ⟨#[114,111,117,116,101,115,46,48,46,112,111,111,108]⟩,.iface 63 (.int .i64 70)])∧Below W.heap.size W w':=by
 refine(sure_parse1 W hE).mono ?_;rintro e w' ⟨kq,kn,kk,pq,pn,pk,rq,rn,rk,ks,ps,rs,m1,m2,m3,m4,m5,he,_,_,hb⟩;rw [sure_one] at he;exact⟨kq,kn,kk,pq,pn,pk,rq,rn,rk,m1,m2,m3,m4,m5,he,hb⟩
theorem sure_calls2 (W:World) (hE:EnvC W):Calls Tryz.prog 8 #[.string (str (sureT [112]))] W fun e w'=>∃ (kq:Option Addr) (kn kk:Nat) (pq:Option Addr) (pk:Nat) (rq:Option Addr) (rn rk:Nat) (m2 m3 m4 m5:Int),e= .returned (.tuple #[.agg #[.slice kq kn kk,.slice pq 1 pk,.slice rq rn rk,.int .i64 8192,.int .i64 m2,.int .i64 m3,.int .i64 m4,.int .i64 m5],.string ⟨#[]⟩,.nilIface])∧Below W.heap.size W w':=by
 refine(sure_parse2 W hE).mono ?_;rintro e w' ⟨kq,kn,kk,pq,pn,pk,rq,rn,rk,ks,ps,rs,m1,m2,m3,m4,m5,he,hrw,hc,hb⟩;rw [sure_two] at he hc;have h1:(sureC [112]).pools.length=(ps.map PoolX.c).length:=by rw [show (sureC [112]).pools=ps.map PoolX.c from congrArg CfgC.pools hc]
 have h2:pn=1:=by rw [←hrw.np,←List.length_map (f:=PoolX.c),←h1];rfl
 have h3:m1=8192:=(congrArg CfgC.maxhead hc).symm;subst h2;subst h3;exact⟨kq,kn,kk,pq,pk,rq,rn,rk,m2,m3,m4,m5,he,hb⟩
theorem psure_any (w:World) (hE:EnvC w):Calls Tryz.prog 12 #[] w fun e w'=>e= .returned (.bool true)∧Below w.heap.size w w':=by
 have HP1:=hid (fun (W:World) (hb:Below w.heap.size w W)=>sure_calls1 W (hE.next hb));have HP2:=hid (fun (W:World) (hb:Below w.heap.size w W)=>sure_calls2 W (hE.next hb));rw [sure_text1] at HP1;rw [sure_text2] at HP2;have HN:=hid (fun (W:World) (hb:Below w.heap.size w W)=>(show Calls Tryz.prog 11 #[.iface 63 (.int .i64 70)] W _ from num_err 70 W (hE.next hb).k.typ));clear hE;go_enter Tryz.func12,Tryz.ntmps12;go_wp2_with (first
  |(go_at_call 8;(with_reducible refine(HP1.out _ (Below.refl _ _)).mono ?_);rintro e w1 ⟨kq,kn,kk,pq,pn,pk,rq,rn,rk,m1,m2,m3,m4,m5,rfl,hb⟩;have HB1:=hid hb;clear hb HP1)
  |(go_at_call 8;(with_reducible refine(HP2.out _ (below_out HB1.out (below_new _ _))).mono ?_);rintro e w2 ⟨jq,jn,jk,oq,ok,uq,un,uk,o2,o3,o4,o5,rfl,hb⟩;have HB2:=hid (below_out (below_out (below_out HB1.out (below_new _ _)) hb) (below_new w2 (.cells #[.slice jq jn jk,.slice oq 1 ok,.slice uq un uk,.int .i64 8192,.int .i64 o2,.int .i64 o3,.int .i64 o4,.int .i64 o5] 26 (0,0))));clear hb HP2)
  |(go_at_call 11;(with_reducible refine(HN.out _ HB2.out).mono ?_);rintro e w3 ⟨rfl,hb⟩;have HB3:=hid (below_out HB2.out hb);obtain⟨y0,y1,y2,y3,y4,y5,y6,y7⟩:=cells8 ((hb.block w2.heap.size (by simp)).trans (heap_alloc_new w2 (.cells #[.slice jq jn jk,.slice oq 1 ok,.slice uq un uk,.int .i64 8192,.int .i64 o2,.int .i64 o3,.int .i64 o4,.int .i64 o5] 26 (0,0))));clear hb))
 go_ret;exact⟨rfl,HB3.out⟩
theorem eq_next {α:Type}{l m:List α}{i:Nat}{x:α} (h:l.take i=m.take i) (hx:l[i]?=some x) (hy:m[i]?=some x):l.take (i+1)=m.take (i+1):=by
 rw [List.take_add_one,List.take_add_one,h,hx,hy]
theorem eq_not {α:Type}{l m:List α}{i:Nat}{x y:α} (hx:l[i]?=some x) (hy:m[i]?=some y) (h:¬x=y):¬l=m:=fun e=>by
 rw [e,hy] at hx;exact h (by simpa using hx.symm)
theorem eq_whole {α:Type}{l m:List α}{n:Nat} (hl:l.length=n) (hm:m.length=n) (h:l.take n=m.take n):l=m:=by
 rwa [List.take_of_length_le (by omega),List.take_of_length_le (by omega)] at h
theorem eq_len {α:Type}{l m:List α}{n k:Nat} (hl:l.length=n) (hm:m.length=k) (h:¬n=k):¬l=m:=fun e=>h (by rw [←hl,←hm,e])
theorem str_ne_list {a b:B} (h:¬a=b):((str a).toList== (str b).toList)=false:=ne_list (fun e=>h (str_inj e))
theorem peqk_any (l m:List KeyC) (p q:Option Addr) (n c k d:Nat) (hl:l.length=n) (hm:m.length=k) (hnn:n≤9223372036854775807) (hkk:k≤9223372036854775807) (w:World) (h1:KyAt w p l) (h2:KyAt w q m):Calls Tryz.prog 54 #[.slice p n c,.slice q k d] w fun e w'=>e= .returned (.bool (decide (l=m)))∧Below w.heap.size w w':=by
 have HL:=hid hl;have HM:=hid hm;have H1:=hid h1;have H2:=hid h2;by_cases hnk:n=k
 case neg=>
  rw [decide_eq_false (eq_len hl hm hnk)];have hnk2:¬(n:Int)=(k:Int):=by omega
  clear hl hm h1 h2 H1 H2 HL HM;go_enter Tryz.func54,Tryz.ntmps54;go_wp2;go_ret;exact⟨rfl,Below.refl _ _⟩
 subst hnk;clear hl hm h1 h2 hkk;go_enter Tryz.func54,Tryz.ntmps54;go_wp2;go_loopg [13] (n+1) (fun gk s wr=>∃ i:Nat,i≤n∧gk=n-i+1∧s= .int .i64 (i:Int)∧l.take i=m.take i∧Below w.heap.size w wr)
 case atStart=>exact⟨0,by omega,rfl,rfl,rfl,Below.refl _ _⟩
 case round=>
  obtain⟨i,hi,rfl,rfl,hE,hb⟩:=hrel;have HE:=hid hE;have HB:=hid hb;clear hE hb;by_cases hin:i<n
  case neg=>
   have hiN:i=n:=by omega
   subst hiN;have HR:=hid (decide_eq_true (eq_whole HL.out HM.out HE.out));go_wp2;go_ret;exact⟨by rw [HR.out];rfl,HB.out⟩
  have hi1:i<l.length:=by rw [HL.out];exact hin
  have hi2:i<m.length:=by rw [HM.out];exact hin
  obtain⟨x,hx⟩:∃ x,l[i]?=some x:=⟨_,List.getElem?_eq_getElem hi1⟩;obtain⟨y,hy⟩:∃ y,m[i]?=some y:=⟨_,List.getElem?_eq_getElem hi2⟩;obtain⟨g1,o1,rfl,x0,x1⟩:=(H1.out.next HB.out) i x hx;obtain⟨g2,o2,rfl,y0,y1⟩:=(H2.out.next HB.out) i y hy;by_cases hxy:x=y
  · subst hxy;have HN:=hid (eq_next HE.out hx hy);clear hx hy hi1 hi2;go_wp2;go_quiet (fail);have HB2:=hid (below_drew HB.out nq);go_wp2;go_roundg (n-(i+1)+1)
    case measure=>omega
    case rel=>exact⟨i+1,by omega,by omega,by go_num,HN.out,HB2.out⟩
  · have HR:=hid (decide_eq_false (eq_not hx hy hxy));clear hx hy hi1 hi2;obtain⟨xa,xb⟩:=x;obtain⟨ya,yb⟩:=y;dsimp only at*;by_cases ha:xa=ya
    · subst ha;have hb:¬xb=yb:=fun e=>hxy (by rw [e])
      have hd:=str_ne_list hb;obtain⟨SA,hSA⟩:∃ S,str xa=S:=⟨_,rfl⟩;rw [hSA] at x0 y0;obtain⟨SB,hSB⟩:∃ S,str xb=S:=⟨_,rfl⟩;obtain⟨SD,hSD⟩:∃ S,str yb=S:=⟨_,rfl⟩;rw [hSB] at x1 hd;rw [hSD] at y1 hd;clear hSB hSD;clear hSA hxy hb;go_wp2;go_quiet (fail);have HB2:=hid (below_drew HB.out nq);go_wp2;go_ret;exact⟨by rw [HR.out];rfl,HB2.out⟩
    · have hd:=str_ne_list ha;obtain⟨SA,hSA⟩:∃ S,str xa=S:=⟨_,rfl⟩;obtain⟨SC,hSC⟩:∃ S,str ya=S:=⟨_,rfl⟩;rw [hSA] at x0 hd;rw [hSC] at y0 hd;obtain⟨SB,hSB⟩:∃ S,str xb=S:=⟨_,rfl⟩;obtain⟨SD,hSD⟩:∃ S,str yb=S:=⟨_,rfl⟩;rw [hSB] at x1;rw [hSD] at y1;clear hSB hSD;clear hxy ha hSA hSC;go_wp2;go_quiet (fail);have HB2:=hid (below_drew HB.out nq);go_wp2;go_ret;exact⟨by rw [HR.out];rfl,HB2.out⟩
theorem peqb_any (l m:List BackC) (p q:Option Addr) (n c k d:Nat) (hl:l.length=n) (hm:m.length=k) (hnn:n≤9223372036854775807) (hkk:k≤9223372036854775807) (w:World) (h1:BkAt w p l) (h2:BkAt w q m):Calls Tryz.prog 117 #[.slice p n c,.slice q k d] w fun e w'=>e= .returned (.bool (decide (l=m)))∧Below w.heap.size w w':=by
 have HL:=hid hl;have HM:=hid hm;have H1:=hid h1;have H2:=hid h2;by_cases hnk:n=k
 case neg=>
  rw [decide_eq_false (eq_len hl hm hnk)];have hnk2:¬(n:Int)=(k:Int):=by omega
  clear hl hm h1 h2 H1 H2 HL HM;go_enter Tryz.func117,Tryz.ntmps117;go_wp2;go_ret;exact⟨rfl,Below.refl _ _⟩
 subst hnk;clear hl hm h1 h2 hkk;go_enter Tryz.func117,Tryz.ntmps117;go_wp2;go_loopg [13] (n+1) (fun gk s wr=>∃ i:Nat,i≤n∧gk=n-i+1∧s= .int .i64 (i:Int)∧l.take i=m.take i∧Below w.heap.size w wr)
 case atStart=>exact⟨0,by omega,rfl,rfl,rfl,Below.refl _ _⟩
 case round=>
  obtain⟨i,hi,rfl,rfl,hE,hb⟩:=hrel;have HE:=hid hE;have HB:=hid hb;clear hE hb;by_cases hin:i<n
  case neg=>
   have hiN:i=n:=by omega
   subst hiN;have HR:=hid (decide_eq_true (eq_whole HL.out HM.out HE.out));go_wp2;go_ret;exact⟨by rw [HR.out];rfl,HB.out⟩
  have hi1:i<l.length:=by rw [HL.out];exact hin
  have hi2:i<m.length:=by rw [HM.out];exact hin
  obtain⟨x,hx⟩:∃ x,l[i]?=some x:=⟨_,List.getElem?_eq_getElem hi1⟩;obtain⟨y,hy⟩:∃ y,m[i]?=some y:=⟨_,List.getElem?_eq_getElem hi2⟩;obtain⟨g1,o1,rfl,x0,x1⟩:=(H1.out.next HB.out) i x hx;obtain⟨g2,o2,rfl,y0,y1⟩:=(H2.out.next HB.out) i y hy;by_cases hxy:x=y
  · subst hxy;have HN:=hid (eq_next HE.out hx hy);clear hx hy hi1 hi2;go_wp2;go_quiet (fail);have HB2:=hid (below_drew HB.out nq);go_wp2;go_roundg (n-(i+1)+1)
    case measure=>omega
    case rel=>exact⟨i+1,by omega,by omega,by go_num,HN.out,HB2.out⟩
  · have HR:=hid (decide_eq_false (eq_not hx hy hxy));clear hx hy hi1 hi2;obtain⟨xa,xb⟩:=x;obtain⟨ya,yb⟩:=y;dsimp only at*;by_cases ha:xa=ya
    · subst ha;have hb:¬xb=yb:=fun e=>hxy (by rw [e])
      have hd:(xb== yb)=false:=by simpa using hb
      obtain⟨SA,hSA⟩:∃ S,str xa=S:=⟨_,rfl⟩;rw [hSA] at x0 y0;clear hSA hxy;go_wp2;go_quiet (fail);have HB2:=hid (below_drew HB.out nq);go_wp2;go_ret;exact⟨by rw [HR.out];rfl,HB2.out⟩
    · have hd:=str_ne_list ha;obtain⟨SA,hSA⟩:∃ S,str xa=S:=⟨_,rfl⟩;obtain⟨SC,hSC⟩:∃ S,str ya=S:=⟨_,rfl⟩;rw [hSA] at x0 hd;rw [hSC] at y0 hd;clear hxy ha hSA hSC;go_wp2;go_quiet (fail);have HB2:=hid (below_drew HB.out nq);go_wp2;go_ret;exact⟨by rw [HR.out];rfl,HB2.out⟩
theorem peqt_any (l m:List B) (p q:Option Addr) (n c k d:Nat) (hl:l.length=n) (hm:m.length=k) (hnn:n≤9223372036854775807) (hkk:k≤9223372036854775807) (w:World) (h1:TsAt w p l) (h2:TsAt w q m):Calls Tryz.prog 118 #[.slice p n c,.slice q k d] w fun e w'=>e= .returned (.bool (decide (l=m)))∧Below w.heap.size w w':=by
 have HL:=hid hl;have HM:=hid hm;have H1:=hid h1;have H2:=hid h2;by_cases hnk:n=k
 case neg=>
  rw [decide_eq_false (eq_len hl hm hnk)];have hnk2:¬(n:Int)=(k:Int):=by omega
  clear hl hm h1 h2 H1 H2 HL HM;go_enter Tryz.func118,Tryz.ntmps118;go_wp2;go_ret;exact⟨rfl,Below.refl _ _⟩
 subst hnk;clear hl hm h1 h2 hkk;go_enter Tryz.func118,Tryz.ntmps118;go_wp2;go_loopg [13] (n+1) (fun gk s wr=>∃ i:Nat,i≤n∧gk=n-i+1∧s= .int .i64 (i:Int)∧l.take i=m.take i∧Below w.heap.size w wr)
 case atStart=>exact⟨0,by omega,rfl,rfl,rfl,Below.refl _ _⟩
 case round=>
  obtain⟨i,hi,rfl,rfl,hE,hb⟩:=hrel;have HE:=hid hE;have HB:=hid hb;clear hE hb;by_cases hin:i<n
  case neg=>
   have hiN:i=n:=by omega
   subst hiN;have HR:=hid (decide_eq_true (eq_whole HL.out HM.out HE.out));go_wp2;go_ret;exact⟨by rw [HR.out];rfl,HB.out⟩
  have hi1:i<l.length:=by rw [HL.out];exact hin
  have hi2:i<m.length:=by rw [HM.out];exact hin
  obtain⟨x,hx⟩:∃ x,l[i]?=some x:=⟨_,List.getElem?_eq_getElem hi1⟩;obtain⟨y,hy⟩:∃ y,m[i]?=some y:=⟨_,List.getElem?_eq_getElem hi2⟩;obtain⟨g1,o1,rfl,x0⟩:=(H1.out.next HB.out) i x hx;obtain⟨g2,o2,rfl,y0⟩:=(H2.out.next HB.out) i y hy;by_cases hxy:x=y
  · subst hxy;have HN:=hid (eq_next HE.out hx hy);clear hx hy hi1 hi2;go_wp2;go_quiet (fail);have HB2:=hid (below_drew HB.out nq);go_wp2;go_roundg (n-(i+1)+1)
    case measure=>omega
    case rel=>exact⟨i+1,by omega,by omega,by go_num,HN.out,HB2.out⟩
  · have HR:=hid (decide_eq_false (eq_not hx hy hxy));clear hx hy hi1 hi2;have hd:=str_ne_list hxy;obtain⟨SX,hSX⟩:∃ S,str x=S:=⟨_,rfl⟩;obtain⟨SY,hSY⟩:∃ S,str y=S:=⟨_,rfl⟩;rw [hSX] at x0 hd;rw [hSY] at y0 hd;clear hxy hSX hSY;go_wp2;go_quiet (fail);have HB2:=hid (below_drew HB.out nq);go_wp2;go_ret;exact⟨by rw [HR.out];rfl,HB2.out⟩
theorem psamepool_any (a b:PoolC) (pa pb:Option Addr) (na ca nb cb:Nat) (hna:a.backs.length=na) (hnb:b.backs.length=nb) (hn1:na≤9223372036854775807) (hn2:nb≤9223372036854775807) (w:World) (h1:BkAt w pa a.backs) (h2:BkAt w pb b.backs):Calls Tryz.prog 56 #[poolV a pa na ca,poolV b pb nb cb] w fun e w'=>e= .returned (.bool (decide (a=b)))∧Below w.heap.size w w':=by
 have HC0:=hid (fun (W:World) (hb:Below w.heap.size w W)=>peqb_any a.backs b.backs pa pb na ca nb cb hna hnb hn1 hn2 W (h1.next hb) (h2.next hb));obtain⟨x1,xl,x3,x4,x5,x6,x7,⟨xp,xq,xr,xs,xt⟩⟩:=a;obtain⟨y1,yl,y3,y4,y5,y6,y7,⟨yp,yq,yr,ys,yt⟩⟩:=b;dsimp only [poolV] at*;obtain⟨R,hR⟩:∃ R,decide ((⟨x1,xl,x3,x4,x5,x6,x7,⟨xp,xq,xr,xs,xt⟩⟩:PoolC)=(⟨y1,yl,y3,y4,y5,y6,y7,⟨yp,yq,yr,ys,yt⟩⟩:PoolC))=R:=⟨_,rfl⟩;rw [hR];obtain⟨c0,hc0⟩:∃ c,decide (xl=yl)=c:=⟨_,rfl⟩;rw [hc0] at HC0;have hA:=two_new_v w (.cells #[.string (str x1),.slice pa na ca,.int .i64 x3,.int .i64 x4,.int .i64 x5,.int .i64 x6,.int .i64 x7,.string (str xp),.int .i64 xq,.int .i64 xr,.int .i64 xs,.int .i64 xt] 83 (0,0)) (.cells #[.string (str y1),.slice pb nb cb,.int .i64 y3,.int .i64 y4,.int .i64 y5,.int .i64 y6,.int .i64 y7,.string (str yp),.int .i64 yq,.int .i64 yr,.int .i64 ys,.int .i64 yt] 83 (0,0));have HB0:=hid hA.1;have HXa:=hid hA.2.1;have HXb:=hid hA.2.2;clear hA hna hnb h1 h2;by_cases hx1:x1=y1
 case neg=>
  have HR:=hid (show R=false from hR.symm.trans (decide_eq_false (fun e=>hx1 (congrArg PoolC.name e))));have hd:=str_ne_list hx1;obtain⟨S,hS⟩:∃ S,str x1=S:=⟨_,rfl⟩;obtain⟨S2,hS2⟩:∃ S,str y1=S:=⟨_,rfl⟩;rw [hS] at hd HXa HXb HB0 ⊢;rw [hS2] at hd HXa HXb HB0 ⊢;clear hS hS2 hx1 hc0;clear hR;go_enter Tryz.func56,Tryz.ntmps56;go_wp2;go_ret;exact⟨by rw [HR.out];rfl,HB0.out⟩
 subst hx1;cases c0 with
 |false=>
  have hne:=of_decide_eq_false hc0;have HR:=hid (show R=false from hR.symm.trans (decide_eq_false (fun e=>hne (congrArg PoolC.backs e))));clear hne hc0;clear hR;go_enter Tryz.func56,Tryz.ntmps56;go_wp2_with (first
   |(go_at_call 117;(with_reducible refine(HC0.out _ HB0.out).mono ?_);rintro e w1 ⟨rfl,hb⟩;have HB1:=hid (below_out HB0.out hb);have hxa:=kB hb HXa.out;have hxb:=kB hb HXb.out;have HXa1:=hid hxa;have HXb1:=hid hxb;(try clear u0 u1 u2 u3 u4 u5 u6 u7 u8 u9 u10 u11);(try clear v0 v1 v2 v3 v4 v5 v6 v7 v8 v9 v10 v11);obtain⟨u0,u1,u2,u3,u4,u5,u6,u7,u8,u9,u10,u11⟩:=cells12 hxa;obtain⟨v0,v1,v2,v3,v4,v5,v6,v7,v8,v9,v10,v11⟩:=cells12 hxb;clear hxa hxb hb HC0))
  go_ret;exact⟨by rw [HR.out];rfl,HB1.out⟩
 |true=>
 have he:=of_decide_eq_true hc0;subst he;clear hc0;by_cases hx3:x3=y3
 case neg=>
  have HR:=hid (show R=false from hR.symm.trans (decide_eq_false (fun e=>hx3 (congrArg PoolC.policy e))));have hd:(x3== y3)=false:=by simpa using hx3
  clear hR;go_enter Tryz.func56,Tryz.ntmps56;go_wp2_with (first
   |(go_at_call 117;(with_reducible refine(HC0.out _ HB0.out).mono ?_);rintro e w1 ⟨rfl,hb⟩;have HB1:=hid (below_out HB0.out hb);have hxa:=kB hb HXa.out;have hxb:=kB hb HXb.out;have HXa1:=hid hxa;have HXb1:=hid hxb;(try clear u0 u1 u2 u3 u4 u5 u6 u7 u8 u9 u10 u11);(try clear v0 v1 v2 v3 v4 v5 v6 v7 v8 v9 v10 v11);obtain⟨u0,u1,u2,u3,u4,u5,u6,u7,u8,u9,u10,u11⟩:=cells12 hxa;obtain⟨v0,v1,v2,v3,v4,v5,v6,v7,v8,v9,v10,v11⟩:=cells12 hxb;clear hxa hxb hb HC0))
  go_ret;exact⟨by rw [HR.out];rfl,HB1.out⟩
 subst hx3;by_cases hx4:x4=y4
 case neg=>
  have HR:=hid (show R=false from hR.symm.trans (decide_eq_false (fun e=>hx4 (congrArg PoolC.retries e))));have hd:(x4== y4)=false:=by simpa using hx4
  clear hR;go_enter Tryz.func56,Tryz.ntmps56;go_wp2_with (first
   |(go_at_call 117;(with_reducible refine(HC0.out _ HB0.out).mono ?_);rintro e w1 ⟨rfl,hb⟩;have HB1:=hid (below_out HB0.out hb);have hxa:=kB hb HXa.out;have hxb:=kB hb HXb.out;have HXa1:=hid hxa;have HXb1:=hid hxb;(try clear u0 u1 u2 u3 u4 u5 u6 u7 u8 u9 u10 u11);(try clear v0 v1 v2 v3 v4 v5 v6 v7 v8 v9 v10 v11);obtain⟨u0,u1,u2,u3,u4,u5,u6,u7,u8,u9,u10,u11⟩:=cells12 hxa;obtain⟨v0,v1,v2,v3,v4,v5,v6,v7,v8,v9,v10,v11⟩:=cells12 hxb;clear hxa hxb hb HC0))
  go_ret;exact⟨by rw [HR.out];rfl,HB1.out⟩
 subst hx4;by_cases hx5:x5=y5
 case neg=>
  have HR:=hid (show R=false from hR.symm.trans (decide_eq_false (fun e=>hx5 (congrArg PoolC.timeout e))));have hd:(x5== y5)=false:=by simpa using hx5
  clear hR;go_enter Tryz.func56,Tryz.ntmps56;go_wp2_with (first
   |(go_at_call 117;(with_reducible refine(HC0.out _ HB0.out).mono ?_);rintro e w1 ⟨rfl,hb⟩;have HB1:=hid (below_out HB0.out hb);have hxa:=kB hb HXa.out;have hxb:=kB hb HXb.out;have HXa1:=hid hxa;have HXb1:=hid hxb;(try clear u0 u1 u2 u3 u4 u5 u6 u7 u8 u9 u10 u11);(try clear v0 v1 v2 v3 v4 v5 v6 v7 v8 v9 v10 v11);obtain⟨u0,u1,u2,u3,u4,u5,u6,u7,u8,u9,u10,u11⟩:=cells12 hxa;obtain⟨v0,v1,v2,v3,v4,v5,v6,v7,v8,v9,v10,v11⟩:=cells12 hxb;clear hxa hxb hb HC0))
  go_ret;exact⟨by rw [HR.out];rfl,HB1.out⟩
 subst hx5;by_cases hx6:x6=y6
 case neg=>
  have HR:=hid (show R=false from hR.symm.trans (decide_eq_false (fun e=>hx6 (congrArg PoolC.fails e))));have hd:(x6== y6)=false:=by simpa using hx6
  clear hR;go_enter Tryz.func56,Tryz.ntmps56;go_wp2_with (first
   |(go_at_call 117;(with_reducible refine(HC0.out _ HB0.out).mono ?_);rintro e w1 ⟨rfl,hb⟩;have HB1:=hid (below_out HB0.out hb);have hxa:=kB hb HXa.out;have hxb:=kB hb HXb.out;have HXa1:=hid hxa;have HXb1:=hid hxb;(try clear u0 u1 u2 u3 u4 u5 u6 u7 u8 u9 u10 u11);(try clear v0 v1 v2 v3 v4 v5 v6 v7 v8 v9 v10 v11);obtain⟨u0,u1,u2,u3,u4,u5,u6,u7,u8,u9,u10,u11⟩:=cells12 hxa;obtain⟨v0,v1,v2,v3,v4,v5,v6,v7,v8,v9,v10,v11⟩:=cells12 hxb;clear hxa hxb hb HC0))
  go_ret;exact⟨by rw [HR.out];rfl,HB1.out⟩
 subst hx6;by_cases hx7:x7=y7
 case neg=>
  have HR:=hid (show R=false from hR.symm.trans (decide_eq_false (fun e=>hx7 (congrArg PoolC.opn e))));have hd:(x7== y7)=false:=by simpa using hx7
  clear hR;go_enter Tryz.func56,Tryz.ntmps56;go_wp2_with (first
   |(go_at_call 117;(with_reducible refine(HC0.out _ HB0.out).mono ?_);rintro e w1 ⟨rfl,hb⟩;have HB1:=hid (below_out HB0.out hb);have hxa:=kB hb HXa.out;have hxb:=kB hb HXb.out;have HXa1:=hid hxa;have HXb1:=hid hxb;(try clear u0 u1 u2 u3 u4 u5 u6 u7 u8 u9 u10 u11);(try clear v0 v1 v2 v3 v4 v5 v6 v7 v8 v9 v10 v11);obtain⟨u0,u1,u2,u3,u4,u5,u6,u7,u8,u9,u10,u11⟩:=cells12 hxa;obtain⟨v0,v1,v2,v3,v4,v5,v6,v7,v8,v9,v10,v11⟩:=cells12 hxb;clear hxa hxb hb HC0))
  go_ret;exact⟨by rw [HR.out];rfl,HB1.out⟩
 subst hx7;by_cases hxp:xp=yp
 case neg=>
  have HR:=hid (show R=false from hR.symm.trans (decide_eq_false (fun e=>hxp (congrArg (fun v:PoolC=>v.probe.path) e))));have hd:=str_ne_list hxp;obtain⟨S,hS⟩:∃ S,str xp=S:=⟨_,rfl⟩;obtain⟨S2,hS2⟩:∃ S,str yp=S:=⟨_,rfl⟩;rw [hS] at hd HXa HXb HB0 ⊢;rw [hS2] at hd HXa HXb HB0 ⊢;clear hS hS2 hxp;clear hR;go_enter Tryz.func56,Tryz.ntmps56;go_wp2_with (first
   |(go_at_call 117;(with_reducible refine(HC0.out _ HB0.out).mono ?_);rintro e w1 ⟨rfl,hb⟩;have HB1:=hid (below_out HB0.out hb);have hxa:=kB hb HXa.out;have hxb:=kB hb HXb.out;have HXa1:=hid hxa;have HXb1:=hid hxb;(try clear u0 u1 u2 u3 u4 u5 u6 u7 u8 u9 u10 u11);(try clear v0 v1 v2 v3 v4 v5 v6 v7 v8 v9 v10 v11);obtain⟨u0,u1,u2,u3,u4,u5,u6,u7,u8,u9,u10,u11⟩:=cells12 hxa;obtain⟨v0,v1,v2,v3,v4,v5,v6,v7,v8,v9,v10,v11⟩:=cells12 hxb;clear hxa hxb hb HC0))
  go_ret;exact⟨by rw [HR.out];rfl,HB1.out⟩
 subst hxp;by_cases hxq:xq=yq
 case neg=>
  have HR:=hid (show R=false from hR.symm.trans (decide_eq_false (fun e=>hxq (congrArg (fun v:PoolC=>v.probe.every) e))));have hd:(xq== yq)=false:=by simpa using hxq
  clear hR;go_enter Tryz.func56,Tryz.ntmps56;go_wp2_with (first
   |(go_at_call 117;(with_reducible refine(HC0.out _ HB0.out).mono ?_);rintro e w1 ⟨rfl,hb⟩;have HB1:=hid (below_out HB0.out hb);have hxa:=kB hb HXa.out;have hxb:=kB hb HXb.out;have HXa1:=hid hxa;have HXb1:=hid hxb;(try clear u0 u1 u2 u3 u4 u5 u6 u7 u8 u9 u10 u11);(try clear v0 v1 v2 v3 v4 v5 v6 v7 v8 v9 v10 v11);obtain⟨u0,u1,u2,u3,u4,u5,u6,u7,u8,u9,u10,u11⟩:=cells12 hxa;obtain⟨v0,v1,v2,v3,v4,v5,v6,v7,v8,v9,v10,v11⟩:=cells12 hxb;clear hxa hxb hb HC0))
  go_ret;exact⟨by rw [HR.out];rfl,HB1.out⟩
 subst hxq;by_cases hxr:xr=yr
 case neg=>
  have HR:=hid (show R=false from hR.symm.trans (decide_eq_false (fun e=>hxr (congrArg (fun v:PoolC=>v.probe.timeout) e))));have hd:(xr== yr)=false:=by simpa using hxr
  clear hR;go_enter Tryz.func56,Tryz.ntmps56;go_wp2_with (first
   |(go_at_call 117;(with_reducible refine(HC0.out _ HB0.out).mono ?_);rintro e w1 ⟨rfl,hb⟩;have HB1:=hid (below_out HB0.out hb);have hxa:=kB hb HXa.out;have hxb:=kB hb HXb.out;have HXa1:=hid hxa;have HXb1:=hid hxb;(try clear u0 u1 u2 u3 u4 u5 u6 u7 u8 u9 u10 u11);(try clear v0 v1 v2 v3 v4 v5 v6 v7 v8 v9 v10 v11);obtain⟨u0,u1,u2,u3,u4,u5,u6,u7,u8,u9,u10,u11⟩:=cells12 hxa;obtain⟨v0,v1,v2,v3,v4,v5,v6,v7,v8,v9,v10,v11⟩:=cells12 hxb;clear hxa hxb hb HC0))
  go_ret;exact⟨by rw [HR.out];rfl,HB1.out⟩
 subst hxr;by_cases hxs:xs=ys
 case neg=>
  have HR:=hid (show R=false from hR.symm.trans (decide_eq_false (fun e=>hxs (congrArg (fun v:PoolC=>v.probe.rise) e))));have hd:(xs== ys)=false:=by simpa using hxs
  clear hR;go_enter Tryz.func56,Tryz.ntmps56;go_wp2_with (first
   |(go_at_call 117;(with_reducible refine(HC0.out _ HB0.out).mono ?_);rintro e w1 ⟨rfl,hb⟩;have HB1:=hid (below_out HB0.out hb);have hxa:=kB hb HXa.out;have hxb:=kB hb HXb.out;have HXa1:=hid hxa;have HXb1:=hid hxb;(try clear u0 u1 u2 u3 u4 u5 u6 u7 u8 u9 u10 u11);(try clear v0 v1 v2 v3 v4 v5 v6 v7 v8 v9 v10 v11);obtain⟨u0,u1,u2,u3,u4,u5,u6,u7,u8,u9,u10,u11⟩:=cells12 hxa;obtain⟨v0,v1,v2,v3,v4,v5,v6,v7,v8,v9,v10,v11⟩:=cells12 hxb;clear hxa hxb hb HC0))
  go_ret;exact⟨by rw [HR.out];rfl,HB1.out⟩
 subst hxs;by_cases hxt:xt=yt
 case neg=>
  have HR:=hid (show R=false from hR.symm.trans (decide_eq_false (fun e=>hxt (congrArg (fun v:PoolC=>v.probe.fall) e))));have hd:(xt== yt)=false:=by simpa using hxt
  clear hR;go_enter Tryz.func56,Tryz.ntmps56;go_wp2_with (first
   |(go_at_call 117;(with_reducible refine(HC0.out _ HB0.out).mono ?_);rintro e w1 ⟨rfl,hb⟩;have HB1:=hid (below_out HB0.out hb);have hxa:=kB hb HXa.out;have hxb:=kB hb HXb.out;have HXa1:=hid hxa;have HXb1:=hid hxb;(try clear u0 u1 u2 u3 u4 u5 u6 u7 u8 u9 u10 u11);(try clear v0 v1 v2 v3 v4 v5 v6 v7 v8 v9 v10 v11);obtain⟨u0,u1,u2,u3,u4,u5,u6,u7,u8,u9,u10,u11⟩:=cells12 hxa;obtain⟨v0,v1,v2,v3,v4,v5,v6,v7,v8,v9,v10,v11⟩:=cells12 hxb;clear hxa hxb hb HC0))
  go_ret;exact⟨by rw [HR.out];rfl,HB1.out⟩
 subst hxt;have HR:=hid (show R=true from hR.symm.trans (decide_eq_true rfl));clear hR;go_enter Tryz.func56,Tryz.ntmps56;go_wp2_with (first
  |(go_at_call 117;(with_reducible refine(HC0.out _ HB0.out).mono ?_);rintro e w1 ⟨rfl,hb⟩;have HB1:=hid (below_out HB0.out hb);have hxa:=kB hb HXa.out;have hxb:=kB hb HXb.out;have HXa1:=hid hxa;have HXb1:=hid hxb;(try clear u0 u1 u2 u3 u4 u5 u6 u7 u8 u9 u10 u11);(try clear v0 v1 v2 v3 v4 v5 v6 v7 v8 v9 v10 v11);obtain⟨u0,u1,u2,u3,u4,u5,u6,u7,u8,u9,u10,u11⟩:=cells12 hxa;obtain⟨v0,v1,v2,v3,v4,v5,v6,v7,v8,v9,v10,v11⟩:=cells12 hxb;clear hxa hxb hb HC0))
 go_ret;exact⟨by rw [HR.out];rfl,HB1.out⟩
end Go.Proofs.YtlmefgjhbohjlaaGreatDoor
