/- errors.As at an error of the project's own kind, and the law package's number of an error: nil is 0, an error is its number; what was in memory stays; where errors.errorType is laid. -/
import Derived.Stop.Asserts
import Derived.RowKitTokens
import Derived.Test.YtlmefgjhbohjlaaGreatDoorKRStep
namespace Go.Proofs.YtlmefgjhbohjlaaGreatDoor
set_option maxRecDepth 20000
set_option maxHeartbeats 8000000
open Go.RowKit Go.Extern.Stop Go.Stop Go.Extern
theorem as_valueOf54 (t:Addr) (w:World):(ReflectliteValue.unpack (.iface 98 (.pointer (some t)))).run Tryz.prog w
 = .ok (.agg #[.pointer (some ⟨9,98,none⟩),.pointer (some ⟨w.heap.size,0,none⟩),.int .u64 150]) (w.alloc (.cells #[.pointer (some t)] 98)):=by kernel_rfl
theorem as_type54 (a : Addr) (w : World) : (ReflectliteValue.methodAny (ReflectliteValue.valueError "reflectlite.Value.Type" 0) (fun t _ _ _ => ReflectliteType.toType t) #[.agg #[.pointer (some ⟨9, 98, none⟩), .pointer (some a), .int .u64 150]]).run Tryz.prog w
 = .ok (.iface 221 (.agg #[.pointer (some ⟨9,98,none⟩)])) w:=by kernel_rfl
theorem as_methodKind (h : Value) (w : World) : (Go.method 533 221 (.agg #[h]) "Kind").run Tryz.prog w = .ok (409, h) w := by kernel_rfl
theorem as_kind54 (w:World):((ReflectliteType.abiMethod fun t=>(fun a:Nat=>Value.int IntKind.u8 (a:Int)) <$> Rtype.kind t) #[.pointer (some ⟨9,98,none⟩)]).run Tryz.prog w= .ok (.int .u8 22) w:=by kernel_rfl
theorem as_kind49 (w:World):((ReflectliteType.abiMethod fun t=>(fun a:Nat=>Value.int IntKind.u8 (a:Int)) <$> Rtype.kind t) #[.pointer (some ⟨9,63,none⟩)]).run Tryz.prog w= .ok (.int .u8 2) w:=by kernel_rfl
theorem as_rlm (z:Sem Value) (f:TypeId→Addr→Nat→Nat→Sem Value) (v:Value):
 ReflectliteValue.method z f #[v]=(do match ←ReflectliteValue.parts v with|none=>z|some (t,a,fl)=>f t a fl (fl % 32)):=rfl
theorem as_parts54 (a:Addr) (w:World):(ReflectliteValue.parts (.agg #[.pointer (some ⟨9,98,none⟩),.pointer (some a),.int .u64 150])).run Tryz.prog w= .ok (some (98,a,150)) w:=by kernel_rfl
theorem as_isNil54 (a p:Addr) (W:World) (ha:W.cell? a=some (.pointer (some p))):
 (ReflectliteValue.method (ReflectliteValue.valueError "reflectlite.Value.IsNil" 0) ReflectliteValue.isNil #[.agg #[.pointer (some ⟨9, 98, none⟩), .pointer (some a), .int .u64 150]]).run Tryz.prog W = .ok (.bool false) W := by
 rw [as_rlm];simp only [Sem.run_bind,as_parts54,Result.andThen];simp [ReflectliteValue.isNil,loadVar,isAgg,underlying,Tryz.underlying98,ha,Result.andThen]
theorem as_methodElem (h : Value) (w : World) : (Go.method 533 221 (.agg #[h]) "Elem").run Tryz.prog w = .ok (419, .agg #[h]) w := by kernel_rfl
theorem as_methodImplements (h : Value) (w : World) : (Go.method 533 221 (.agg #[h]) "Implements").run Tryz.prog w = .ok (420, .agg #[h]) w := by kernel_rfl
theorem as_methodAssignableTo (h : Value) (w : World) : (Go.method 533 221 (.agg #[h]) "AssignableTo").run Tryz.prog w = .ok (417, .agg #[h]) w := by kernel_rfl
theorem as_elem54 (w:World):(ReflectliteType.method ReflectliteType.elem #[.agg #[.pointer (some ⟨9,98,none⟩)]]).run Tryz.prog w= .ok (.iface 221 (.agg #[.pointer (some ⟨9,63,none⟩)])) w:=by kernel_rfl
theorem as_implements49 (w : World) : (ReflectliteType.relation "Implements" ReflectliteType.implements_ #[.agg #[.pointer (some ⟨9, 63, none⟩)], .iface 221 (.agg #[.pointer (some ⟨9, 28, none⟩)])]).run Tryz.prog w = .ok (.bool true) w := by kernel_rfl
theorem as_typeOf49 (v:Value) (w:World):(ReflectliteType.typeOf #[.iface 63 v]).run Tryz.prog w= .ok (.iface 221 (.agg #[.pointer (some ⟨9,63,none⟩)])) w:=by kernel_rfl
theorem as_assignable49 (w : World) : (ReflectliteType.relation "AssignableTo" ReflectliteType.assignableTo #[.agg #[.pointer (some ⟨9, 63, none⟩)], .iface 221 (.agg #[.pointer (some ⟨9, 63, none⟩)])]).run Tryz.prog w = .ok (.bool true) w := by kernel_rfl
theorem as_valueOf49 (k:Int) (w:World):(ReflectliteValue.unpack (.iface 63 (.int .i64 k))).run Tryz.prog w
 = .ok (.agg #[.pointer (some ⟨9,63,none⟩),.pointer (some ⟨w.heap.size,0,none⟩),.int .u64 130]) (w.alloc (.cells #[.int .i64 k] 63)):=by kernel_rfl
theorem as_elemOf54 (w:World):(Rtype.elem? 98).run Tryz.prog w= .ok (some 63) w:=by kernel_rfl
theorem as_mk49 (p:Addr) (w:World):(ReflectliteValue.mk 63 p ReflectliteValue.flagAddr).run Tryz.prog w= .ok (.agg #[.pointer (some ⟨9,63,none⟩),.pointer (some p),.int .u64 386]) w:=by kernel_rfl
theorem as_elemV54 (a p:Addr) (W:World) (ha:W.cell? a=some (.pointer (some p))):
 (ReflectliteValue.method (ReflectliteValue.valueError "reflectlite.Value.Elem" 0) ReflectliteValue.elem #[.agg #[.pointer (some ⟨9, 98, none⟩), .pointer (some a), .int .u64 150]]).run Tryz.prog W
  = .ok (.agg #[.pointer (some ⟨9,63,none⟩),.pointer (some p),.int .u64 386]) W:=by
 rw [as_rlm];simp only [Sem.run_bind,as_parts54,Result.andThen];simp [ReflectliteValue.elem,loadVar,isAgg,underlying,Tryz.underlying98,ha,Result.andThen,as_elemOf54,as_mk49]
theorem as_parts49a (a:Addr) (w:World):(ReflectliteValue.parts (.agg #[.pointer (some ⟨9,63,none⟩),.pointer (some a),.int .u64 386])).run Tryz.prog w= .ok (some (63,a,386)) w:=by kernel_rfl
theorem as_parts49 (a:Addr) (w:World):(ReflectliteValue.parts (.agg #[.pointer (some ⟨9,63,none⟩),.pointer (some a),.int .u64 130])).run Tryz.prog w= .ok (some (63,a,130)) w:=by kernel_rfl
theorem as_direct49 (w:World):(Rtype.directlyAssignable 63 63).run Tryz.prog w= .ok true w:=by kernel_rfl
open Go.RowKit
theorem clone_any_k (s:B) (hs:s.length≤1048577) (w:World):Calls Tryz.prog 200 #[.string (str s)] w fun e w'=>e= .returned (.string (str s))∧Below w.heap.size w w':=by
 have hsz:(str s).size≤1048577:=by rw [str_size];exact hs
 obtain⟨S,hS⟩:∃ S,str s=S:=⟨_,rfl⟩;rw [hS] at hsz ⊢;clear hS hs;go_enter Tryz.func200,Tryz.ntmps200;go_wp2_with (go_at_call 251;(with_reducible refine(Tryz.stringslite_Clone S w (by omega)).mono ?_);rintro e w1 ⟨rfl,hb⟩;have HB1:=hid hb;clear hb);go_ret;exact⟨rfl,HB1.out⟩
theorem text_len {t:JV} (h:Fits_k t):t.text.length≤1048576:=by
 cases t;simp only [Fits_k] at h;exact h.1
theorem text_any_k (t:JV) (p:B) (hp:p.length≤1048577) (w:World) (N:Nat) (cs:List Value) (hN:N≤w.heap.size) (hf:Fits_k t) (hE:Env_k w) (hv:ValB_k w N t cs):Calls Tryz.prog 205 #[.agg cs.toArray,.string (str p)] w fun e w'=>e= .returned (.tuple #[.string (str (ofKind 4 (goto t (steps p))).1.text),errOf (ofKind 4 (goto t (steps p))).2])∧Below w.heap.size w w':=by
 obtain⟨k1,k2,k3,k4,k5,k6,k7,k8,k9,k10,k11,rfl⟩:=hv.form;have HFk:=hid (findKind_any 4 t p hp);obtain⟨S,hS⟩:∃ S,str p=S:=⟨_,rfl⟩;have HS:=hid hS;rw [hS];have HF:=hid hf;have HE:=hid hE;have HV:=hid hv;have HN:=hid hN;obtain⟨W1,hW1⟩:∃ W1,W1=((w.alloc (C7 k1 k2 k3 k4 k5 k6 k7 k8 k9 k10 k11)).alloc (.cells #[.int .i64 4] 3 (0,0))):=⟨_,rfl⟩;have HB0:=hid (show Below w.heap.size w W1 from by rw [hW1];exact(two_at_k w _ _).2.2);have HCell:=hid (show W1.cell? ⟨w.heap.size+1,0,none⟩=some (.int .i64 4) from by have:=(two_at_k w (C7 k1 k2 k3 k4 k5 k6 k7 k8 k9 k10 k11) (.cells #[.int .i64 4] 3 (0,0))).2.1;rw [←hW1] at this;simp [World.cell?,this]);have HN1:=hid (show N≤W1.heap.size from Nat.le_trans hN HB0.out.size);have HW1:=hid hW1;obtain⟨G,hG⟩:∃ G,ofKind 4 (goto t (steps p))=G:=⟨_,rfl⟩;have HG:=hid hG;rw [hG];have HTl:=hid (show G.1.text.length≤1048577 from Nat.le_succ_of_le (text_len (show Fits_k G.1 from by rw [←hG];exact fits_kind t (steps p) hf)));clear hf hE hv hp hG hS hW1 hN;obtain⟨⟨xk,xb,xt,xn,xh,xl,xs⟩,cd⟩:=G;simp only [JV.text] at HTl ⊢;have HCl:=hid (clone_any_k xt HTl.out);go_enter Tryz.func205,Tryz.ntmps205;go_wp2_with (first
  |(go_at_call 201;have hcall:=HFk.out W1 N (w.heap.size+1) 0 _ HN1.out HF.out (HE.out.below HB0.out) (HV.out.below (HB0.out.mono HN.out)) HCell.out;rw [HG.out,HS.out] at hcall;rw [←HW1.out];(with_reducible refine hcall.mono ?_);clear hcall;rintro e w1 ⟨cs1,rfl,hv1,hb⟩;have HB1:=hid (below_out HB0.out hb);obtain⟨p1,c1,p2,c2,rfl,_,_⟩:=hv1.open;clear hb hv1)
  |(go_at_call 200;(with_reducible refine(HCl.out (w1.alloc (C7 xk xb xt xn xh p1 xl.length c1 p2 xs.length c2))).mono ?_);rintro e w2 ⟨rfl,hb⟩;have HB2:=hid (HB1.out.trans ((below_out (below_new w1 _) hb).mono HB1.out.size));clear hb))
 go_ret2;exact⟨rfl,HB2.out⟩
structure Sp (U:World) (g:Nat) (o1 o2:Obj) (ag ao bg bo:Nat) (c0 c1 c2 c3 c4 c5 c6 d0 d1 d2 d3 d4 d5 d6:Value):Prop where
 x:U.heap[g]?=some o1
 y:U.heap[g+1]?=some o2
 r:Row7 U ag ao c0 c1 c2 c3 c4 c5 c6
 s:Row7 U bg bo d0 d1 d2 d3 d4 d5 d6
theorem lt_of_block {w:World}{a:Addr}{v:Value} (h:w.cell? a=some v):a.block<w.heap.size:=by
 rcases Nat.lt_or_ge a.block w.heap.size with h2|h2
 · exact h2
 · simp [World.cell?,Array.getElem?_eq_none h2] at h
theorem names_none {w:World}{ns:List B} (h:NamesOn w ns none):ns= []:=by
 cases ns with
 |nil=>rfl
 |cons x xs=>
  obtain⟨g,o,e,_⟩:=h 0 x rfl;cases e
theorem cloneN_any {w:World}{ns:List B}{p:Option Addr}{c:Nat} (h:NamesOn w ns p) (hn:ns.length≤1048576):Calls Tryz.prog 255 #[.slice p ns.length c] w fun e w'=>∃ q d,e= .returned (.slice q ns.length d)∧w'.ownsRow w.heap.size 9 1 (.slice q ns.length d) ns.length (strC ns)∧Below w.heap.size w w':=by
 cases p with
 |none=>
  obtain rfl:=names_none h;refine(Tryz.slices_Clone_string_nil 0 c w).mono ?_;rintro e w' ⟨rfl,rfl⟩;exact⟨none,0,rfl,World.ownsRow_nil _ _ _ _,Below.refl _ _⟩
 |some a=>
  cases ns with
  |nil=>
   refine(Tryz.slices_Clone_string_zero a c w).mono ?_;rintro e w' ⟨v',rfl,ho,_,hb⟩;obtain⟨q,d,rfl⟩:=own_form ho;exact⟨q,d,rfl,ho,hb⟩
  |cons x xs=>
   obtain⟨g,o,e,_⟩:=h 0 x rfl;obtain rfl:=Option.some.inj e;refine(Tryz.slices_Clone_string g o (x::xs).length c ((x::xs).map str) w (by simp) (by omega) (names_list h)).mono ?_;rintro e w' ⟨v',rfl,ho,_,hb⟩;obtain⟨q,d,rfl⟩:=own_form ho;rw [take_map] at ho;rw [List.map_map] at ho;exact⟨q,d,rfl,ho,hb⟩
theorem parts_none {w:World}{N:Nat}{ls:List JV} (h:PartsB_k w N ls none):ls= []:=by
 cases ls with
 |nil=>rfl
 |cons x xs=>
  obtain⟨g,o,cs,e,_⟩:=h 0 x rfl;cases e
theorem part_cell {w:World}{N:Nat}{ls:List JV}{g o j:Nat} (h:PartsB_k w N ls (some ⟨g,o,none⟩)) (hj:j<7*ls.length):∃ c,w.cell? ⟨g,o+j,none⟩=some c∧c.oneCell'=true:=by
 have hi:j / 7<ls.length:=by omega
 obtain⟨g',o',cs,e,_,hv,hc⟩:=h (j / 7) ls[j / 7] (List.getElem?_eq_getElem hi);simp only [Option.some.injEq,Addr.mk.injEq] at e;obtain⟨rfl,rfl,_⟩:=e;obtain⟨k1,k2,k3,k4,k5,k6,k7,k8,k9,k10,k11,rfl⟩:=hv.form;have hr:j % 7<7:=Nat.mod_lt _ (by decide);have e2:o+j / 7*7+j % 7=o+j:=by omega
 obtain⟨r,hr2⟩:∃ r,j % 7=r:=⟨_,rfl⟩;rw [hr2] at hr e2;have key:∀ c,[Value.int .i64 k1,.bool k2,.string (str k3),.int .i64 k4,.bool k5,.slice k6 k7 k8,.slice k9 k10 k11][r]?=some c→c.oneCell'=true→∃ c,w.cell? ⟨g,o+j,none⟩=some c∧c.oneCell'=true:=fun c h1 h2=>⟨c,by rw [←e2];exact hc r c h1,h2⟩
 rcases r with _|_|_|_|_|_|_|r
 · exact key _ rfl rfl
 · exact key _ rfl rfl
 · exact key _ rfl rfl
 · exact key _ rfl rfl
 · exact key _ rfl rfl
 · exact key _ rfl rfl
 · exact key _ rfl rfl
 · omega
def flatC (w:World) (g o n:Nat):List Value:=(List.range (7*n)).map fun j=>(w.cell? ⟨g,o+j,none⟩).getD undef
theorem flat_get {w:World}{g o n j:Nat} (h:j<7*n):(flatC w g o n)[j]?=some ((w.cell? ⟨g,o+j,none⟩).getD undef):=by
 simp [flatC,List.getElem?_range h]
def Laid7 (N:Nat) (w w':World) (ls:List JV) (gl:Nat):Prop:=(∃ cur,w'.heap[gl]?=some (.cells cur 57 (0,0)))∧∀ i x,ls[i]?=some x→∃ cs,ValB_k w N x cs∧∀ j c,cs[j]?=some c→w'.cell? ⟨gl,i*7+j,none⟩=some c
theorem cloneV_any {w:World}{N:Nat}{ls:List JV}{p:Option Addr}{c:Nat} (h:PartsB_k w N ls p) (hn:ls.length≤1048576):Calls Tryz.prog 256 #[.slice p ls.length c] w fun e w'=>∃ q d gl,e= .returned (.slice q ls.length d)∧ls.length≤d∧(0<ls.length→q=some ⟨gl,0,none⟩∧w.heap.size≤gl∧Laid7 N w w' ls gl)∧Below w.heap.size w w':=by
 have qn:∀ (w:World) (a:Option Addr) (n c n' c':Nat),(binOp .eql 55 (.slice a n c) (.slice none n' c')).run Tryz.prog w= .ok (.bool a.isNone) w:=fun w a n c n' c'=>Lib.run_eql_slice_nil w _ _ a n c n' c' Tryz.underlying55
 cases p with
 |none=>
  obtain rfl:=parts_none h;clear h hn;go_enter Tryz.func256,Tryz.ntmps256;go_wp2;go_ret;exact⟨none,0,0,rfl,Nat.le_refl _,fun h=>absurd h (by simp),Below.refl _ _⟩
 |some a=>
  obtain⟨i0,hi0,hz0,hz1,hz2⟩:=info_parts infoV;obtain⟨n,e1⟩:∃ n,ls.length=n:=⟨_,rfl⟩;obtain⟨news,hl,hnews,hone,hcs⟩:∃ news:List Value,news.length=n*7∧(∀ j u,news[j]?=some u→w.cell? (a.add j)=some u)∧(∀ u∈news,u.oneCell'=true)∧(∀ i x,ls[i]?=some x→∃ cs,ValB_k w N x cs∧∀ j c,cs[j]?=some c→news[i*7+j]?=some c):=by
   cases ls with
   |nil=>
    refine⟨[],by simp at e1;simp [←e1],fun j u hj=>by simp at hj,fun u hu=>by simp at hu,fun i x hi=>by simp at hi⟩
   |cons y ys=>
    obtain⟨g,o,_,e,_⟩:=h 0 y rfl;obtain rfl:=Option.some.inj e;have hadd:∀ j,(⟨g,o,none⟩:Addr).add j=⟨g,o+j,none⟩:=fun j=>by unfold Addr.add;split <;> simp_all
    refine⟨flatC w g o n,by simp [flatC];omega,fun j u hj=>?_,fun u hu=>?_,fun i x hi=>?_⟩
    · have hlt:j<7*n:=by
       have:=(List.getElem?_eq_some_iff.1 hj).1;simpa [flatC] using this
      rw [flat_get hlt] at hj;obtain⟨c,hc,_⟩:=part_cell h (by rw [e1];exact hlt);rw [hc] at hj;simp only [Option.getD_some,Option.some.injEq] at hj;rw [hadd,hc,hj]
    · obtain⟨j,hj,rfl⟩:=List.mem_map.1 hu;have hlt:j<7*n:=List.mem_range.1 hj;obtain⟨c,hc,h1⟩:=part_cell h (by rw [e1];exact hlt);rw [hc];exact h1
    · obtain⟨g',o',cs,e,_,hv,hc⟩:=h i x hi;simp only [Option.some.injEq,Addr.mk.injEq] at e;obtain⟨rfl,rfl,_⟩:=e;refine⟨cs,hv,fun j c hj=>?_⟩;have hi2:i<n:=by rw [←e1];exact(List.getElem?_eq_some_iff.1 hi).1
      have hj7:j<7:=by
       obtain⟨k1,k2,k3,k4,k5,k6,k7,k8,k9,k10,k11,rfl⟩:=hv.form;have:=(List.getElem?_eq_some_iff.1 hj).1;simpa using this
      rw [flat_get (by omega),show o+(i*7+j)=o+i*7+j by omega,hc j c hj];rfl
  have HH:=hid (And.intro hl (And.intro hnews (And.intro hone hcs)));have HLs:=hid e1;rw [e1] at hn ⊢;clear h e1 hl hnews hone hcs;go_enter Tryz.func256,Tryz.ntmps256;go_wp2_with (at_builtin;refine wpList_append_own_at (w.alloc (.cells #[] 57 (0,0))) rfl (.tmp 5) (.tmp 6) 55 rfl w.heap.size 57 i0 _ 7 96 Tryz.underlying55 hi0 hz0 hz1 hz2 rfl (by decide) (.slice (some ⟨w.heap.size,0,none⟩) 0 0) 0 [] (by go_simp) (⟨rfl,.inr ⟨w.heap.size,0, #[],rfl,Nat.le_refl _,heap_alloc_new _ _,Nat.le_refl _,Nat.zero_le _,rfl,rfl⟩⟩) a n c news (by go_simp) HH.out.1 (fun j u hj=>by have:=HH.out.2.1 j u hj;rw [(below_new w _).cell (lt_of_block this)];exact this) HH.out.2.2.1 (by unfold maxLen;omega) (by omega) (below_new _ _).size ?_;intro v' w' hown hgr _ _;rw [Nat.zero_add,List.nil_append] at hown;obtain⟨q,d,rfl⟩:=own_form hown;have HOw:=hid hown;have HBw:=hid ((below_new w (.cells #[] 57 (0,0))).trans (show Below w.heap.size (w.alloc (.cells #[] 57 (0,0))) w' from⟨hgr.os,hgr.tape,hgr.output,hgr.size,fun k hk=>hgr.block k (by simp;omega) (by simp [Value.ownBlock];omega)⟩));clear hown hgr);go_ret;rcases HOw.out.2 with ⟨h1,h2⟩|⟨g,cap,cur,h1,h2,h3,h4,_,h6,h7⟩
  · exact⟨q,d,0,rfl,by omega,fun h=>by omega,HBw.out⟩
  · simp only [Value.slice.injEq] at h1;obtain⟨rfl,_,rfl⟩:=h1;refine⟨_,_,g,rfl,h4,fun _=>⟨rfl,h2,⟨cur,h3⟩,fun i x hi=>?_⟩,HBw.out⟩;obtain⟨cs,hv,hc⟩:=HH.out.2.2.2 i x hi;refine⟨cs,hv,fun j c hj=>?_⟩;have e:=hc j c hj;have hlt:i*7+j<n*7:=by
     have:=(List.getElem?_eq_some_iff.1 e).1;rw [HH.out.1] at this;exact this
    rw [←h7,List.getElem?_take,if_pos hlt] at e;simp only [World.cell?,h3];simpa using e
end Go.Proofs.YtlmefgjhbohjlaaGreatDoor
