/- A name is put behind the others of a value. -/
import Derived.Test.YtlmefgjhbohjlaaGreatDoorJNest
namespace Go.Proofs.YtlmefgjhbohjlaaGreatDoor
set_option maxRecDepth 20000
set_option maxHeartbeats 4000000
open Go.RowKit
theorem VObj.same {w w':World}{v base:Nat}{k:Int}{ls:List JV}{ns:List B}{lv nv:Value}{xs:List Value}{F:Nat→Prop} (h:VObj w v base k ls ns lv nv xs F) (hsz:w.heap.size≤w'.heap.size) (e:∀ j,j<w.heap.size→(base≤j∨j=v)→w'.heap[j]?=w.heap[j]?):VObj w' v base k ls ns lv nv xs F:=by
 have key:∀ (u:Value) (n m:Nat) (t:TypeId) (ys:List Value),w.ownsRow base t m u n ys→w'.ownsRow base t m u n ys:=by
  intro u n m t ys hu;refine⟨hu.1,?_⟩;rcases hu.2 with h1|⟨g,cap,cur,h1,h2,h3,h4⟩
  · exact .inl h1
  · exact .inr ⟨g,cap,cur,h1,h2,(e g (lt_of_heap h3) (.inl h2)).trans h3,h4⟩
 refine⟨(e v (Nat.lt_of_lt_of_le h.lt h.le) (.inr rfl)).trans h.row,key _ _ _ _ _ h.list,key _ _ _ _ _ h.names,⟨h.vals.1,fun i t hi=>?_⟩,fun j hj=>?_,h.lt,Nat.le_trans h.le hsz⟩
 · exact ValIs.keep (fun j hj=>e j (h.foot j hj).2.1 (.inl (h.foot j hj).1)) (fun _ x=>x) t _ (h.vals.2 i t hi)
 · obtain⟨a,b,c,d⟩:=h.foot j hj;exact⟨a,Nat.lt_of_lt_of_le b hsz,c,d⟩
theorem Turn2.obj {w w':World}{v base b m:Nat}{k:Int}{ls:List JV}{ns:List B}{lv nv:Value}{xs:List Value}{F:Nat→Prop} (ht:Turn2 b m w w') (h:VObj w v base k ls ns lv nv xs F) (hb:b<base) (hm:m<base) (h1:b≠v) (h2:m≠v):VObj w' v base k ls ns lv nv xs F:=
 h.same ht.size fun j hj hh=>ht.block j hj (by omega) (by omega)
theorem name_err {w0 w w':World}{N b v base bx m mc:Nat}{s:ByteArray}{d:Nat}{kd:Int}{l u:B}{x:St}{ns':List B} (L:Lay N b v base bx (some (m,mc))) (h:SI w0 w N b v base bx s d kd (some (m,mc)) l x) (hn:Nm w w' b m s d u ns'):SE w0 w' N b v base s kd u:=by
 obtain⟨lv,nv,xs,F,hO⟩:=h.obj;obtain⟨m1,m2,m3,m4,m5,m6,m7,m8,m9⟩:=L.lm m mc rfl;have hb:=L.lb;have hv:=L.lv;exact⟨⟨d,hn.rd⟩,⟨_,_,lv,nv,xs,F,hn.turn.obj hO (by omega) m2 (by omega) m3⟩,h.tn.trans (hn.turn.tn (by have:=hO.le;omega) m1)⟩
theorem VObj.name {V U:World}{v base n:Nat}{kd:Int}{ls:List JV}{ns:List B}{lv nv nv':Value}{xs:List Value}{F:Nat→Prop}{nm:B}
 (hO:VObj V v base kd ls ns lv nv xs F) (hn:ns.length=n) (hg:V.grownBy U nv.ownBlock) (hloc:nv'.ownBlock=nv.ownBlock∨nv'.ownBlock=some V.heap.size)
 (hown:U.ownsRow base 9 1 nv' (n+1) (ns.map (fun t=>Value.string (str t))++ [.string (str nm)])):VObj (U.setCell ⟨v,6,none⟩ nv') v base kd ls (ns++ [nm]) lv nv' xs F:=by
 have hlt:=hO.lt;have hle:=hO.le;have set:∀ k,k≠v→(U.setCell ⟨v,6,none⟩ nv').heap[k]?=U.heap[k]?:=fun k hk=>Below.heap_setCell _ _ _ _ hk
 have nge:∀ g,nv.ownBlock=some g→base≤g:=fun g hk=>own_ge_j hO.names hk
 have hvb:some v≠nv.ownBlock:=fun e=>by have:=nge v e.symm;omega
 refine⟨?_,?_,?_,⟨hO.vals.1,fun i t hi=>?_⟩,fun j hj=>?_,hlt,?_⟩
 · have h1:=(hg.block v (by omega) hvb).trans hO.row;simp [World.setCell,Array.getElem?_modify,h1]
 · refine⟨hO.list.1,?_⟩;rcases hO.list.2 with h1|⟨g,cap,cur,h1,h2,h3,h4⟩
   · exact .inl h1
   · right;refine⟨g,cap,cur,h1,h2,?_,h4⟩;rw [set g (by omega),hg.block g (lt_of_heap h3) ?_]
     · exact h3
     · intro e;rcases hO.names.2 with ⟨h7,_⟩|⟨g3,cap3,cur3,h7,_,h8,_⟩
       · rw [h7] at e;simp [Value.ownBlock] at e
       · rw [h7] at e;simp [Value.ownBlock] at e;subst e;rw [h8] at h3;simp at h3
 · rw [List.map_append,List.length_append,hn];refine⟨hown.1,?_⟩;rcases hown.2 with h1|⟨g,cap,cur,h1,h2,h3,h4⟩
   · exact .inl h1
   · exact .inr ⟨g,cap,cur,h1,h2,by rw [set g (by omega)];exact h3,h4⟩
 · refine ValIs.keep (fun j hj=>?_) (fun _ x=>x) t _ (hO.vals.2 i t hi);obtain⟨a,b,c,d⟩:=hO.foot j hj;rw [set j (by omega),hg.block j b (fun e=>d e.symm)]
 · obtain⟨a,b,c,d⟩:=hO.foot j hj;refine⟨a,by rw [size_set_j];exact Nat.lt_of_lt_of_le b hg.size,c,?_⟩;rcases hloc with h|h
   · rw [h];exact d
   · rw [h];simp;omega
 · rw [size_set_j];exact Nat.le_trans hle hg.size
theorem own_slice_j {w:World}{base n m:Nat}{e:TypeId}{u:Value}{ys:List Value} (h:w.ownsRow base e m u n ys):∃ p c,u= .slice p n c:=by
 rcases h.2 with ⟨h1,h2⟩|⟨g,cap,cur,h1,_⟩
 · exact⟨none,0,by rw [h1,h2]⟩
 · exact⟨_,_,h1⟩
theorem SI.named {w0 w w1:World}{N b v base bx m mc:Nat}{s:ByteArray}{d:Nat}{kd:Int}{l u nm:B}{x:St}{lv nv:Value}{xs:List Value}{F:Nat→Prop} (L:Lay N b v base bx (some (m,mc))) (h:SI w0 w N b v base bx s d kd (some (m,mc)) l x)
 (hO:VObj w v base kd x.2 x.1 lv nv xs F) (hn:Nm w w1 b m s d u (x.1++ [nm])):VObj w1 v base kd x.2 x.1 lv nv xs F∧∀ w2,Below w1.heap.size w1 w2→VObj w2 v base kd x.2 x.1 lv nv xs F∧
  ∀ nv' w3,w3.ownsRow base 9 1 nv' (x.1.length+1) (x.1.map (fun t=>Value.string (str t))++ [.string (str nm)])→w2.grownBy w3 nv.ownBlock→(nv'.ownBlock=nv.ownBlock∨nv'.ownBlock=some w2.heap.size)→
  (w3.frozen? ⟨v,6,none⟩=false∧w3.cell? ⟨v,6,none⟩=some nv)∧SI w0 (w3.setCell ⟨v,6,none⟩ nv') N b v base bx s d kd (some (m,mc)) u (x.1++ [nm],x.2):=by
 obtain⟨m1,m2,m3,m4,m5,m6,m7,m8,m9⟩:=L.lm m mc rfl;have lb:=L.lb;have lv':=L.lv;have lx:=L.lx;have nb:=L.nb;have hsz:=hO.le;have hsz1:=hn.turn.size;have hO1:=hn.turn.obj hO (by omega) m2 (by omega) m3;refine⟨hO1,fun w2 hb=>?_⟩;have hO2:VObj w2 v base kd x.2 x.1 lv nv xs F:=hO1.same hb.size fun j hj _=>hb.block j hj
 refine⟨hO2,fun nv' w3 hown hg hloc=>?_⟩;have k2:∀ k,k<base→k≠v→(w3.setCell ⟨v,6,none⟩ nv').heap[k]?=w1.heap[k]?:=fun k hk hv=>by
  rw [Below.heap_setCell _ _ _ _ hv,hg.block k (Nat.lt_of_lt_of_le hk hO2.le) (fun e=>own_ne_j hO2.names hk e.symm),hb.block k (Nat.lt_of_lt_of_le hk hO1.le)]
 have k0:∀ k,k<base→k≠v→k≠b→k≠m→(w3.setCell ⟨v,6,none⟩ nv').heap[k]?=w.heap[k]?:=fun k hk hv h1 h2=>by
  rw [k2 k hk hv,hn.turn.block k (by omega) h1 h2]
 have fz:w3.frozen? ⟨v,6,none⟩=false∧w3.cell? ⟨v,6,none⟩=some nv:=by
  have:=(hg.block v (Nat.lt_of_lt_of_le hO2.lt hO2.le) (fun e=>own_ne_j hO2.names hO2.lt e.symm)).trans hO2.row;simp [World.frozen?,World.cell?,this]
 refine⟨fz,hn.rd.of_heap (k2 b (by omega) (by omega)),⟨lv,nv',xs,F,VObj.name hO2 rfl hg hloc hown⟩,h.env.of_heap fun k hk=>k0 k (by omega) (by omega) (by omega) (by omega),h.tn.trans ⟨?_,?_,?_,?_,fun k hk hkb=>k0 k (by omega) (by omega) hkb (by omega)⟩,?_,fun m' mc' hm=>?_⟩
 · rw [os_set,hg.os,hb.os,hn.turn.os]
 · rw [tape_set,hg.tape,hb.tape,hn.turn.tape]
 · rw [output_set,hg.output,hb.output,hn.turn.output]
 · rw [size_set_j];exact Nat.le_trans hsz1 (Nat.le_trans hb.size hg.size)
 · rw [k0 bx (by omega) (by omega) (by omega) (by omega)];exact h.box
 · simp only [Option.some.injEq,Prod.mk.injEq] at hm;obtain⟨rfl,rfl⟩:=hm;obtain⟨s1,s2⟩:=h.set m mc rfl;refine⟨?_,by rw [k0 mc (by omega) (by omega) (by omega) (by omega)];exact s2⟩;obtain⟨es,clock,q1,q2⟩:=hn.set;exact⟨es,clock,by rw [k2 m m2 m3];exact q1,q2⟩
theorem one_cell_j {w:World}{g:Nat}{c:Value}{T:TypeId} (h:w.heap[g]?=some (.cells #[c] T (0,0))):w.cell? ⟨g,0,none⟩=some c:=by simp [World.cell?,h]
theorem step_list {inner:B→Res JV}{w0:World}{N b v base bx:Nat}{s:ByteArray}{d:Nat}{kd:Int} (L:Lay N b v base bx none) (hv:ValOk inner b s d):
 StepOk 245 #[.pointer (some ⟨bx,0,none⟩),.pointer (some ⟨v,0,none⟩)] w0 N b v base bx s d kd none (listStep inner):=by
 intro w l x _ hx2 h;have k0:=one_cell_j h.box;have H0:=hid h;obtain⟨lv,nv,xs,F,hO⟩:=h.obj;have HP:=hid (part_any hv h.rd h.env (by have:=L.lb;have:=L.lv;omega) (by have:=L.lb;have:=L.lv;omega) hO hx2);clear h hO;cases hi:inner l with
 |err k u=>
  have HI:=hid hi;have HR:Hid (listStep inner x l= .err k u):=by unfold Hid listStep;rw [hi]
  clear hi;go_enter Tryz.func245,Tryz.ntmps245;go_wp2_with (go_at_call 246;(with_reducible refine HP.out.mono ?_);intro e w1 hq;rw [HI.out] at hq;obtain⟨rfl,⟨d',z1⟩,z2,z3⟩:=hq;have R1:=hid (SI.part (y:=x) L H0.out z2 z1 z3 rfl);clear z1 z2 z3);go_ret;rw [HR.out];exact⟨rfl,R1.out.toE⟩
 |ok t u=>
  have HI:=hid hi;have HR:Hid (listStep inner x l= .ok (x.1,x.2++ [t]) u):=by unfold Hid listStep;rw [hi]
  clear hi;go_enter Tryz.func245,Tryz.ntmps245;go_wp2_with (go_at_call 246;(with_reducible refine HP.out.mono ?_);intro e w1 hq;rw [HI.out] at hq;obtain⟨rfl,z1,z2,z3⟩:=hq;have R1:=hid (SI.part (y:=(x.1,x.2++ [t])) L H0.out z2 z1 z3 rfl);clear z1 z2 z3);go_ret;rw [HR.out];exact⟨rfl,R1.out⟩
theorem one_new (w:World) (c:Value) (T:TypeId):∀ j u,([c]:List Value)[j]?=some u→(w.alloc (.cells #[c] T (0,0))).cell? ((⟨w.heap.size,0,none⟩:Addr).add j)=some u:=by
 intro j u hj;cases j with
 |zero=>
  simp only [List.getElem?_cons_zero,Option.some.injEq] at hj;subst hj;have:=one_cell_j (heap_alloc_new w (.cells #[c] T (0,0)));simp [Addr.add,this]
 |succ j=>simp at hj
theorem step_obj {inner:B→Res JV}{w0:World}{N b v base bx m mc:Nat}{s:ByteArray}{d:Nat}{kd:Int} (L:Lay N b v base bx (some (m,mc))) (hsz:s.size≤1048576) (hv:ValOk inner b s d):
 StepOk 247 #[.pointer (some ⟨bx,0,none⟩),.pointer (some ⟨mc,0,none⟩),.pointer (some ⟨v,0,none⟩)] w0 N b v base bx s d kd (some (m,mc)) (objStep inner):=by
 intro w l x hx1 hx2 h;have k0:=one_cell_j h.box;have k1:=one_cell_j (h.set m mc rfl).2;have H0:=hid h;have HV:=hid hv;obtain⟨m1,m2,m3,m4,m5,m6,m7,m8,m9⟩:=L.lm m mc rfl;have HM:=hid (And.intro m1 (And.intro m2 (And.intro m3 (And.intro m4 (And.intro m6 (And.intro m7 m9))))));have HL:=hid (And.intro L.lb (And.intro L.lv L.lx));have HX:=hid (And.intro hx1 hx2);have HN:=hid (name_any h.rd h.env L.nb (h.set m mc rfl).1 (by have:=L.lb;omega) hsz hx1);clear h hv m1 m2 m3 m4 m5 m6 m7 m8 m9 hx1 hx2;cases hn:nameS x.1 l with
 |err k u=>
  have HNS:=hid hn;have HR:Hid (objStep inner x l= .err k u):=by unfold Hid objStep;rw [hn]
  clear hn;go_enter Tryz.func247,Tryz.ntmps247;go_wp2_with (go_at_call 248;(with_reducible refine HN.out.mono ?_);intro e w1 hq;rw [HNS.out] at hq;obtain⟨rfl,ns',z1⟩:=hq;have R1:=hid (name_err L H0.out z1);clear z1);go_ret;rw [HR.out];exact⟨rfl,R1.out⟩
 |ok nm u=>
  have HNS:=hid hn;clear hn;obtain⟨lv,nv,xs,F,hO⟩:=H0.out.obj;obtain⟨n6,hn6⟩:∃ n,x.1.length=n:=⟨_,rfl⟩;obtain⟨p6,c6,rfl⟩:=own_slice_j hO.names;rw [hn6] at hO;have HO:=hid hO;have HN6:=hid hn6;have hn7:n6≤2000000:=by rw [←hn6];exact HX.out.1
  clear hO hn6;obtain⟨i0,hi0,hz0,hz1,hz2⟩:=info_parts infoS;cases hi:inner u with
  |err k t=>
   have HI:=hid hi;have HR:Hid (objStep inner x l= .err k t):=by unfold Hid objStep;rw [HNS.out];simp only [hi]
   clear hi;go_enter Tryz.func247,Tryz.ntmps247;go_wp2_with (first
    |(go_at_call 248;(with_reducible refine HN.out.mono ?_);intro e w1 hq;rw [HNS.out] at hq;obtain⟨rfl,z1⟩:=hq;have NM:=hid (SI.named L H0.out HO.out z1);clear z1;have k6:=(seven_j NM.out.1.row).a6;have NM2:=hid (NM.out.2 _ (below_new w1 (.cells #[.string (str nm)] 9 (0,0)))))
    |(at_builtin;(refine wpList_append_own_at _ rfl (.tmp 16) (.tmp 18) 52 rfl base 9 i0 _ 1 16 Tryz.underlying52 hi0 hz0 hz1 hz2 rfl (by decide) (.slice p6 n6 c6) n6 (x.1.map fun t=>Value.string (str t)) (by go_simp) (by have:=NM2.out.1.names;rw [HN6.out] at this;exact this) ⟨w1.heap.size,0,none⟩ 1 1 [.string (str nm)] (by go_simp) rfl (one_new _ _ _) (by simp [Value.oneCell']) (by unfold maxLen;omega) (by omega) NM2.out.1.le ?_;intro nv' w3 hown hgr _ hloc;obtain⟨p7,c7,rfl⟩:=own_slice_j hown;have R:=hid (NM2.out.2 _ _ (by rw [HN6.out];exact hown) hgr hloc);clear hown hgr hloc;have f6:=R.out.1.1;have k9:=R.out.1.2;have k8:=one_cell_j R.out.2.box))
    |(go_at_call 246;obtain⟨lv2,nv2,xs2,F2,hO2⟩:=R.out.2.obj;have hcall:=part_any HV.out R.out.2.rd R.out.2.env (by have:=HL.out;omega) (by have:=HL.out;omega) hO2 (HX.out.2);(with_reducible refine hcall.mono ?_);clear hcall hO2;intro e w5 hq;rw [HI.out] at hq;obtain⟨rfl,⟨d',z1⟩,z2,z3⟩:=hq;have R1:=hid (SI.part (y:=(x.1++ [nm],x.2)) L R.out.2 z2 z1 z3 rfl);clear z1 z2 z3))
   go_ret;rw [HR.out];exact⟨rfl,R1.out.toE⟩
  |ok t2 t=>
   have HI:=hid hi;have HR:Hid (objStep inner x l= .ok (x.1++ [nm],x.2++ [t2]) t):=by unfold Hid objStep;rw [HNS.out];simp only [hi]
   clear hi;go_enter Tryz.func247,Tryz.ntmps247;go_wp2_with (first
    |(go_at_call 248;(with_reducible refine HN.out.mono ?_);intro e w1 hq;rw [HNS.out] at hq;obtain⟨rfl,z1⟩:=hq;have NM:=hid (SI.named L H0.out HO.out z1);clear z1;have k6:=(seven_j NM.out.1.row).a6;have NM2:=hid (NM.out.2 _ (below_new w1 (.cells #[.string (str nm)] 9 (0,0)))))
    |(at_builtin;(refine wpList_append_own_at _ rfl (.tmp 16) (.tmp 18) 52 rfl base 9 i0 _ 1 16 Tryz.underlying52 hi0 hz0 hz1 hz2 rfl (by decide) (.slice p6 n6 c6) n6 (x.1.map fun t=>Value.string (str t)) (by go_simp) (by have:=NM2.out.1.names;rw [HN6.out] at this;exact this) ⟨w1.heap.size,0,none⟩ 1 1 [.string (str nm)] (by go_simp) rfl (one_new _ _ _) (by simp [Value.oneCell']) (by unfold maxLen;omega) (by omega) NM2.out.1.le ?_;intro nv' w3 hown hgr _ hloc;obtain⟨p7,c7,rfl⟩:=own_slice_j hown;have R:=hid (NM2.out.2 _ _ (by rw [HN6.out];exact hown) hgr hloc);clear hown hgr hloc;have f6:=R.out.1.1;have k9:=R.out.1.2;have k8:=one_cell_j R.out.2.box))
    |(go_at_call 246;obtain⟨lv2,nv2,xs2,F2,hO2⟩:=R.out.2.obj;have hcall:=part_any HV.out R.out.2.rd R.out.2.env (by have:=HL.out;omega) (by have:=HL.out;omega) hO2 (HX.out.2);(with_reducible refine hcall.mono ?_);clear hcall hO2;intro e w5 hq;rw [HI.out] at hq;obtain⟨rfl,z1,z2,z3⟩:=hq;have R1:=hid (SI.part (y:=(x.1++ [nm],x.2++ [t2])) L R.out.2 z2 z1 z3 rfl);clear z1 z2 z3))
   go_ret;rw [HR.out];exact⟨rfl,R1.out⟩
theorem vals_rows {w:World}{F:Nat→Prop}{g:Nat}{xs:List Value} (hc:∀ j c,xs[j]?=some c→w.cell? ⟨g,j,none⟩=some c):∀ (ls:List JV) (o:Nat),(∀ i t,ls[i]?=some t→ValIs w F t ((xs.drop (o+7*i)).take 7))→ValsIs w F ls g o
 | [],_,_=>by simp [ValsIs]
 |x::ls,o,h=>by
  simp only [ValsIs];refine⟨⟨(xs.drop o).take 7,by simpa using h 0 x rfl,fun j c hj=>?_⟩,vals_rows hc ls (o+7) fun i t hi=>?_⟩
  · rw [List.getElem?_take] at hj;split at hj
    · rw [List.getElem?_drop] at hj;exact hc _ _ hj
    · cases hj
  · have:=h (i+1) t (by simpa using hi);rw [show o+7*(i+1)=o+7+7*i by omega] at this;exact this
theorem own_cells {w:World}{base n m:Nat}{e:TypeId}{u:Value}{ys:List Value} (h:w.ownsRow base e m u n ys):SliceIs u n (fun g o=>base≤g∧g<w.heap.size∧u.ownBlock=some g∧o=0∧∀ j c,ys[j]?=some c→w.cell? ⟨g,j,none⟩=some c):=by
 rcases h.2 with ⟨h1,h2⟩|⟨g,cap,cur,h1,h2,h3,h4,h5,h6,h7⟩
 · refine⟨none,0,by rw [h1,h2],by omega,fun hn=>by omega⟩
 · refine⟨_,_,h1,h4,fun _=>⟨g,0,rfl,h2,lt_of_heap h3,by rw [h1];rfl,rfl,fun j c hj=>?_⟩⟩;rw [←h7,List.getElem?_take] at hj;split at hj
   · simp only [World.cell?,h3];simpa using hj
   · cases hj
theorem VObj.val {w:World}{v base:Nat}{k:Int}{ls:List JV}{ns:List B}{lv nv:Value}{xs:List Value}{F F':Nat→Prop} (h:VObj w v base k ls ns lv nv xs F) (hF:∀ j,base≤j→j<w.heap.size→F' j):
 ValIs w F' (.mk k false [] 0 false ls ns) [.int .i64 k,.bool false,.string ⟨#[]⟩,.int .i64 0,.bool false,lv,nv]:=by
 simp only [ValIs];have hv:∀ i t,ls[i]?=some t→ValIs w F' t ((xs.drop (7*i)).take 7):=fun i t hi=>ValIs.keep (fun _ _=>rfl) (fun j hj=>hF j (h.foot j hj).1 (h.foot j hj).2.1) t _ (h.vals.2 i t hi)
 refine⟨lv,nv,rfl,(own_cells h.list).imp fun g o hg=>⟨hF g hg.1 hg.2.1,?_⟩,(own_cells h.names).imp fun g o hg=>⟨hF g hg.1 hg.2.1,?_⟩⟩
 · obtain⟨_,_,_,rfl,hc⟩:=hg;exact vals_rows hc ls 0 (fun i t hi=>by simpa using hv i t hi)
 · obtain⟨_,_,_,rfl,hc⟩:=hg;intro j t hj;simpa using hc j (.string (str t)) (by simp [hj])
theorem word_short:∀ (ws l:B) (x:Unit) (u:B),word ws l= .ok x u→u.length+ws.length=l.length
 | [],l,x,u,h=>by
  simp only [word,Res.ok.injEq] at h;rw [h.2];rfl
 |c::ws,l,x,u,h=>by
  cases l with
  |nil=>simp [word] at h
  |cons y t=>
   simp only [word] at h;split at h
   · have:=word_short ws t x u h;simp only [List.length_cons];omega
   · cases h
theorem chars_short:∀ (f:Nat) (l bs u:B),chars f l= .ok bs u→u.length<l.length
 |0,l,bs,u,h=>by simp [chars] at h
 |f+1,l,bs,u,h=>by
  simp only [chars] at h;split at h
  · rename_i h34
    obtain⟨l1,rfl⟩:=name_head h34;simp only [List.drop_succ_cons,List.drop_zero,Res.ok.injEq] at h;rw [←h.2];simp
  · split at h
    · cases h
    · rename_i bs1 u1 hc
      have h1:=(char_short hc).1;split at h
      · cases h
      · rename_i cs v hcs
        have:=chars_short f u1 cs v hcs;simp only [Res.ok.injEq] at h;rw [←h.2];omega
theorem text_short {l bs u:B} (h:text l= .ok bs u):u.length<l.length:=by
 have:=chars_short _ _ _ _ h;simp only [List.length_drop] at this;omega
theorem digits_short {l u:B}{x:Unit} (h:digits l= .ok x u):u.length<l.length:=by
 unfold digits at h;split at h
 · cases h
 · rename_i t ht
   have h1:=skip_length ht;have h2:=skips_le digitsL t;simp only [Res.ok.injEq] at h;rw [←h.2];omega
theorem skipD_le (S l:B):(skipD S l).length≤l.length:=by
 unfold skipD;cases h:skip S l with
 |none=>exact Nat.le_refl _
 |some t=>
  have:=skip_length h;simp only [Option.getD_some];omega
theorem numExp_short {l u:B}{x:Unit} (h:numExp l= .ok x u):u.length≤l.length:=by
 unfold numExp at h;split at h
 · simp only [Res.ok.injEq] at h;rw [h.2];exact Nat.le_refl _
 · rename_i t ht
   have h1:=skip_length ht;have h2:=digits_short h;have h3:=skipD_le [43,45] t;omega
theorem numFrac_short {l u:B}{x:Unit} (h:numFrac l= .ok x u):u.length≤l.length:=by
 unfold numFrac at h;split at h
 · exact numExp_short h
 · rename_i t ht
   have h1:=skip_length ht;split at h
   · rename_i v hv
     have h2:=digits_short hv;have h3:=numExp_short h;omega
   · cases h
theorem numHead_short {l u:B}{x:Unit} (h:numHead l= .ok x u):u.length<l.length:=by
 unfold numHead at h;split at h
 · split at h
   · rename_i v hv
     have h2:=digits_short hv;have h3:=numFrac_short h;omega
   · cases h
 · rename_i t ht
   have h1:=skip_length ht;have h3:=numFrac_short h;omega
theorem number_short {l u:B}{x:Unit} (h:number l= .ok x u):u.length<l.length:=by
 unfold number at h;split at h
 · cases h
 · have h1:=numHead_short h;have h2:=skipD_le [45] l;omega
def ShortV (f:B→Res JV):Prop:=∀ l v u,f l= .ok v u→u.length<l.length
theorem list_short {f:B→Res JV} (h:ShortV f):Short (listStep f):=by
 intro x l y u e;unfold listStep at e;split at e
 · cases e
 · rename_i v t ht
   have:=h _ _ _ ht;simp only [Res.ok.injEq] at e;rw [←e.1,←e.2];simp;omega
theorem name_short {ns:List B}{l nm u:B} (h:nameS ns l= .ok nm u):u.length<l.length:=by
 unfold nameS at h;split at h
 · cases h
 · split at h
   · cases h
   · rename_i bs v hv
     have h1:=text_short hv;split at h
     · cases h
     · split at h
       · cases h
       · rename_i t ht
         have h2:(skips blanksL v).length=t.length+1:=skip_length ht;have h3:=skips_le blanksL v;have h4:=skips_le blanksL t;simp only [Res.ok.injEq] at h;rw [←h.2];show (skips blanksL t).length<l.length;omega
theorem obj_short {f:B→Res JV} (h:ShortV f):Short (objStep f):=by
 intro x l y u e;unfold objStep at e;split at e
 · cases e
 · rename_i nm t ht
   have h1:=name_short ht;split at e
   · cases e
   · rename_i v t2 ht2
     have:=h _ _ _ ht2;simp only [Res.ok.injEq] at e;rw [←e.1,←e.2];simp;omega
theorem parts_short {step:St→B→Res St} (hs:Short step) (ends:B):∀ (f:Nat) (x:St) (l:B) (y:St) (u:B),partsF step ends f x l= .ok y u→u.length<l.length
 |0,x,l,y,u,h=>by simp [partsF] at h
 |f+1,x,l,y,u,h=>by
  simp only [partsF] at h;split at h
  · cases h
  · rename_i y1 u1 h1
    have a1:=(hs _ _ _ _ h1).1;have a2:=skips_le blanksL u1;split at h
    · rename_i t ht
      have a3:(skips blanksL u1).length=t.length+1:=skip_length ht;simp only [Res.ok.injEq] at h;rw [←h.2];omega
    · split at h
      · cases h
      · rename_i t ht
        have a3:(skips blanksL u1).length=t.length+1:=skip_length ht;have a4:u.length<(skips blanksL t).length:=parts_short hs ends f _ _ _ _ h;have a5:=skips_le blanksL t;omega
theorem nested_short {step:St→B→Res St} (hs:Short step) (ends:B) {x y:St}{l u:B} (h:nestedS step ends x l= .ok y u):u.length<l.length:=by
 unfold nestedS at h;have a2:=skips_le blanksL l;split at h
 · rename_i t ht
   have a3:(skips blanksL l).length=t.length+1:=skip_length ht;simp only [Res.ok.injEq] at h;rw [←h.2];omega
 · have a4:u.length<(skips blanksL l).length:=parts_short hs ends _ _ _ _ _ h;omega
theorem wordS_short {w:B}{v x:JV}{l u:B} (hw:0<w.length) (h:wordS w v l= .ok x u):u.length<l.length:=by
 unfold wordS at h;split at h
 · cases h
 · rename_i y t ht
   have:=word_short _ _ _ _ ht;simp only [Res.ok.injEq] at h;rw [←h.2];omega
theorem valWith_short {inner:Option (B→Res JV)} (hi:∀ f,inner=some f→ShortV f):ShortV (valWith inner):=by
 intro l v u h;unfold valWith at h;split at h
 · exact wordS_short (by decide) h
 split at h
 · exact wordS_short (by decide) h
 split at h
 · exact wordS_short (by decide) h
 split at h
 · split at h
   · cases h
   · rename_i bs t ht
     have:=text_short ht;simp only [Res.ok.injEq] at h;rw [←h.2];omega
 split at h
 · split at h
   · cases h
   · rename_i f
     split at h
     · cases h
     · rename_i x t ht
       have:=nested_short (list_short (hi f rfl)) _ ht;simp only [List.length_drop] at this;simp only [Res.ok.injEq] at h;rw [←h.2];omega
 split at h
 · split at h
   · cases h
   · rename_i f
     split at h
     · cases h
     · rename_i x t ht
       have:=nested_short (obj_short (hi f rfl)) _ ht;simp only [List.length_drop] at this;simp only [Res.ok.injEq] at h;rw [←h.2];omega
 split at h
 · cases h
 · rename_i y t ht
   have:=number_short ht;simp only [Res.ok.injEq] at h;rw [←h.2];omega
theorem val_short:∀ n,ShortV (val n)
 |0=>valWith_short (fun f h=>by cases h)
 |n+1=>valWith_short (fun f h=>by cases h;exact val_short n)
theorem four_err:∀ (k a:Nat) (l:B) (e:Nat) (u:B),four k a l= .err e u→e≠0
 |0,a,l,e,u,h=>by simp [four] at h
 |k+1,a,[],e,u,h=>by
  simp only [four,Res.err.injEq] at h;omega
 |k+1,a,c::t,e,u,h=>by
  simp only [four] at h;split at h
  · simp only [Res.err.injEq] at h;omega
  · exact four_err k _ t e u h
theorem seq_err:∀ (Ss:List B) (l:B) (e:Nat) (u:B),seqSkip Ss l= .err e u→e≠0
 | [],l,e,u,h=>by simp [seqSkip] at h
 |S::T,l,e,u,h=>by
  simp only [seqSkip] at h;split at h
  · simp only [Res.err.injEq] at h;omega
  · exact seq_err T _ e u h
theorem low_err {l u:B}{e:Nat} (h:lowHalf l= .err e u):e≠0:=by
 unfold lowHalf at h;split at h
 · rename_i k v hk
   simp only [Res.err.injEq] at h;rw [←h.1];exact seq_err _ _ _ _ hk
 · exact four_err _ _ _ _ _ h
theorem code_err {l u:B}{e:Nat} (h:code l= .err e u):e≠0:=by
 unfold code at h;split at h
 · rename_i k v hk
   simp only [Res.err.injEq] at h;rw [←h.1];exact four_err _ _ _ _ _ hk
 · split at h
   · simp only [Res.err.injEq] at h;omega
   · split at h
     · split at h
       · rename_i k v hk
         simp only [Res.err.injEq] at h;rw [←h.1];exact low_err hk
       · cases h
     · cases h
theorem escape_err {l u:B}{e:Nat} (h:escape l= .err e u):e≠0:=by
 cases l with
 |nil=>
  simp only [escape,Res.err.injEq] at h;omega
 |cons c t=>
  simp only [escape] at h;iterate 6
   split at h
   · cases h
  split at h
  · exact code_err h
  · simp only [Res.err.injEq] at h;omega
theorem char_err {l u:B}{e:Nat} (h:char l= .err e u):e≠0:=by
 cases l with
 |nil=>
  simp only [char,Res.err.injEq] at h;omega
 |cons c t=>
  simp only [char] at h;split at h
  · simp only [Res.err.injEq] at h;omega
  split at h
  · split at h
    · rename_i k v hk
      simp only [Res.err.injEq] at h;rw [←h.1];exact escape_err hk
    · cases h
  split at h
  · simp only [Res.err.injEq] at h;omega
  · cases h
theorem chars_err:∀ (f:Nat) (l u:B) (e:Nat),l.length<f→chars f l= .err e u→e≠0
 |0,l,u,e,hf,_=>by omega
 |f+1,l,u,e,hf,h=>by
  simp only [chars] at h;split at h
  · cases h
  · split at h
    · rename_i k v hk
      simp only [Res.err.injEq] at h;rw [←h.1];exact char_err hk
    · rename_i bs v hv
      have:=(char_short hv).1;split at h
      · rename_i k v2 hk
        simp only [Res.err.injEq] at h;rw [←h.1];exact chars_err f _ _ _ (by omega) hk
      · cases h
theorem text_err {l u:B}{e:Nat} (hl:nx l=34) (h:text l= .err e u):e≠0:=by
 obtain⟨l1,rfl⟩:=name_head hl;exact chars_err _ _ _ _ (by simp) h
theorem word_err:∀ (ws l:B) (u:B) (e:Nat),word ws l= .err e u→e≠0
 | [],l,u,e,h=>by simp [word] at h
 |c::ws,l,u,e,h=>by
  cases l with
  |nil=>
   simp only [word,Res.err.injEq] at h;omega
  |cons y t=>
   simp only [word] at h;split at h
   · exact word_err ws t u e h
   · simp only [Res.err.injEq] at h;omega
theorem digits_err {l u:B}{e:Nat} (h:digits l= .err e u):e≠0:=by
 unfold digits at h;split at h
 · simp only [Res.err.injEq] at h;omega
 · cases h
theorem numExp_err {l u:B}{e:Nat} (h:numExp l= .err e u):e≠0:=by
 unfold numExp at h;split at h
 · cases h
 · exact digits_err h
theorem numFrac_err {l u:B}{e:Nat} (h:numFrac l= .err e u):e≠0:=by
 unfold numFrac at h;split at h
 · exact numExp_err h
 · split at h
   · exact numExp_err h
   · rename_i k v hk
     simp only [Res.err.injEq] at h;rw [←h.1];exact digits_err hk
theorem number_err {l u:B}{e:Nat} (h:number l= .err e u):e≠0:=by
 unfold number at h;split at h
 · simp only [Res.err.injEq] at h;omega
 · unfold numParts numHead at h;split at h
   · split at h
     · exact numFrac_err h
     · rename_i k v hk
       simp only [Res.err.injEq] at h;rw [←h.1];exact digits_err hk
   · exact numFrac_err h
theorem name_err0 {ns:List B}{l u:B}{e:Nat} (h:nameS ns l= .err e u):e≠0:=by
 unfold nameS at h;split at h
 · simp only [Res.err.injEq] at h;omega
 · rename_i h34
   split at h
   · rename_i k v hk
     simp only [Res.err.injEq] at h;rw [←h.1];exact text_err (by simpa using h34) hk
   · split at h
     · simp only [Res.err.injEq] at h;omega
     · split at h
       · simp only [Res.err.injEq] at h;omega
       · cases h
def ErrS (step:St→B→Res St):Prop:=∀ x l e u,step x l= .err e u→e≠0
def ErrV (f:B→Res JV):Prop:=∀ l e u,f l= .err e u→e≠0
theorem list_err {f:B→Res JV} (h:ErrV f):ErrS (listStep f):=by
 intro x l e u he;unfold listStep at he;split at he
 · rename_i k v hk
   simp only [Res.err.injEq] at he;rw [←he.1];exact h _ _ _ hk
 · cases he
theorem obj_err {f:B→Res JV} (h:ErrV f):ErrS (objStep f):=by
 intro x l e u he;unfold objStep at he;split at he
 · rename_i k v hk
   simp only [Res.err.injEq] at he;rw [←he.1];exact name_err0 hk
 · split at he
   · rename_i k v hk
     simp only [Res.err.injEq] at he;rw [←he.1];exact h _ _ _ hk
   · cases he
theorem parts_err {step:St→B→Res St} (hs:Short step) (he:ErrS step) (ends:B):∀ (f:Nat) (x:St) (l u:B) (e:Nat),l.length<f→partsF step ends f x l= .err e u→e≠0
 |0,x,l,u,e,hf,_=>by omega
 |f+1,x,l,u,e,hf,h=>by
  simp only [partsF] at h;split at h
  · rename_i k v hk
    simp only [Res.err.injEq] at h;rw [←h.1];exact he _ _ _ _ hk
  · rename_i y v hv
    have a1:=(hs _ _ _ _ hv).1;have a2:=skips_le blanksL v;split at h
    · cases h
    · split at h
      · simp only [Res.err.injEq] at h;omega
      · rename_i t ht
        have a3:(skips blanksL v).length=t.length+1:=skip_length ht;have a4:=skips_le blanksL t;exact parts_err hs he ends f _ _ _ _ (show (skips blanksL t).length<f by omega) h
theorem nested_err {step:St→B→Res St} (hs:Short step) (he:ErrS step) (ends:B) {x:St}{l u:B}{e:Nat} (h:nestedS step ends x l= .err e u):e≠0:=by
 unfold nestedS at h;split at h
 · cases h
 · exact parts_err hs he ends _ _ _ _ _ (Nat.lt_succ_self _) h
theorem wordS_err {w:B}{v:JV}{l u:B}{e:Nat} (h:wordS w v l= .err e u):e≠0:=by
 unfold wordS at h;split at h
 · rename_i k t hk
   simp only [Res.err.injEq] at h;rw [←h.1];exact word_err _ _ _ _ hk
 · cases h
theorem valWith_err {inner:Option (B→Res JV)} (hi:∀ f,inner=some f→ShortV f∧ErrV f):ErrV (valWith inner):=by
 intro l e u h;unfold valWith at h;split at h
 · exact wordS_err h
 split at h
 · exact wordS_err h
 split at h
 · exact wordS_err h
 split at h
 · rename_i h34
   split at h
   · rename_i k t hk
     simp only [Res.err.injEq] at h;rw [←h.1];exact text_err h34 hk
   · cases h
 split at h
 · split at h
   · simp only [Res.err.injEq] at h;omega
   · rename_i f
     obtain⟨h1,h2⟩:=hi f rfl;split at h
     · rename_i k t hk
       simp only [Res.err.injEq] at h;rw [←h.1];exact nested_err (list_short h1) (list_err h2) _ hk
     · cases h
 split at h
 · split at h
   · simp only [Res.err.injEq] at h;omega
   · rename_i f
     obtain⟨h1,h2⟩:=hi f rfl;split at h
     · rename_i k t hk
       simp only [Res.err.injEq] at h;rw [←h.1];exact nested_err (obj_short h1) (obj_err h2) _ hk
     · cases h
 split at h
 · rename_i k t hk
   simp only [Res.err.injEq] at h;rw [←h.1];exact number_err hk
 · cases h
theorem val_err:∀ n,ErrV (val n)
 |0=>valWith_err (fun f h=>by cases h)
 |n+1=>valWith_err (fun f h=>by cases h;exact⟨val_short n,val_err n⟩)
end Go.Proofs.YtlmefgjhbohjlaaGreatDoor
