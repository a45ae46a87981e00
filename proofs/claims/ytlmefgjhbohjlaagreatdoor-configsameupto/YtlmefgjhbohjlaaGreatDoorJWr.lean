/- Parse. -/
import Derived.Test.YtlmefgjhbohjlaaGreatDoorJWhole
namespace Go.Proofs.YtlmefgjhbohjlaaGreatDoor
set_option maxRecDepth 20000
set_option maxHeartbeats 4000000
open Go.RowKit
theorem whole_err {l u:B}{k:Nat} (h:whole l= .err k u):k≠0:=by
 unfold whole at h;split at h
 · rename_i k2 v hk
   simp only [Res.err.injEq] at h;rw [←h.1];exact val_err 32 _ _ _ hk
 · split at h
   · cases h
   · simp only [Res.err.injEq] at h;omega
theorem Rd2.other {U Wf:World}{b r:Nat}{s:ByteArray}{p:Nat} (h:Rd2 U b s p) (hb:b≠r) (ho:Out7 U Wf r):Rd2 Wf b s p:=by
 have e:Wf.heap[b]?=U.heap[b]?:=ho.other b hb;exact⟨by rw [World.cell?_of_block (w:=U) (by exact e)];exact h.1,by rw [World.cell?_of_block (w:=U) (by exact e)];exact h.2⟩
theorem start_rd {w W:World}{s:ByteArray}{o1:Obj} (hs:s.size≤1048576) (hW:W=(w.alloc o1).alloc (.cells #[.string s,.int .i64 0,.int .i64 0] 117 (0,0))):Rd W (w.heap.size+1) s s.data.toList 0∧W.heap[w.heap.size]?=some o1∧Below w.heap.size w W∧W.heap.size=w.heap.size+1+1:=by
 obtain⟨a1,a2,a3⟩:=grow w o1;obtain⟨b1,b2,b3⟩:=grow (w.alloc o1) (.cells #[.string s,.int .i64 0,.int .i64 0] 117 (0,0));rw [←hW] at b1 b2 b3;refine⟨⟨⟨0,Nat.zero_le _,rfl,by rw [←a2];exact b3⟩,by omega⟩,by rw [b1.block _ (by omega),a3],a1.trans (b1.mono (by omega)),by omega⟩
theorem parse_long {l:B} (h:1048576<l.length):parse l=(.zero,0,2):=by unfold parse;rw [if_pos h]
theorem parse_ok {l:B} (h:l.length≤1048576) {t:JV}{u:B} (e:whole l= .ok t u):parse l=(t,l.length,0):=by unfold parse;rw [if_neg (by omega),e]
theorem parse_err {l:B} (h:l.length≤1048576) {k:Nat}{u:B} (e:whole l= .err k u):parse l=(.zero,l.length-u.length,k):=by unfold parse;rw [if_neg (by omega),e]
theorem parse_end {w W w2 w3 Wf:World}{b:Nat}{x:JV}{cs:List Value} (hW:Below w.heap.size w W) (hb:b=w.heap.size+1) (hWs:W.heap.size=w.heap.size+1+1) (ht:Turn b W w2) (h3:Below w2.heap.size w2 w3) (hv:ValIs w2 (fun k=>W.heap.size≤k∧k<w2.heap.size) x cs) (ho:Out7 w3 Wf w.heap.size):
 ValIs Wf (fun k=>w.heap.size≤k∧k<Wf.heap.size) x cs∧Below w.heap.size w Wf:=by
 have a:=ht.size;have c:=h3.size;refine⟨ValIs.keep (fun j hj=>(ho.other j (by omega)).trans (h3.block j hj.2)) (fun j hj=>⟨by omega,by rw [ho.size];omega⟩) _ _ hv,?_⟩;have hB:Below w.heap.size w w3:=(hW.trans (ht.below (by omega) (by omega))).trans (h3.mono (by omega));exact⟨ho.os.trans hB.os,ho.tape.trans hB.tape,ho.output.trans hB.output,by rw [ho.size];exact hB.size,fun k hk=>(ho.other k (by omega)).trans (hB.block k hk)⟩
theorem parse_any_j {w:World} (s:ByteArray) (hs:s.size≤9223372036854775807) (hE:Env w):
 Calls Tryz.prog 23 #[.string s] w fun e w'=>ToldPa (parse s.data.toList) w e w':=by
 by_cases hl:1048576<s.size
 · rw [parse_long (show 1048576<s.data.toList.length from hl)];have hdec:decide ((1048576:Int)<(s.size:Int))=true:=by rw [decide_eq_true_eq];omega
   have HZ:=hid (heap_alloc_new w (.cells #[.int .i64 0,.bool false,.string ⟨#[]⟩,.int .i64 0,.bool false,.slice none 0 0,.slice none 0 0] 57 (0,0)));have s2:=seven_j HZ.out;obtain⟨b0,b1,b2,b3,b4,b5,b6,bz⟩:=s2;have bz0:=bz 0;have bz1:=bz 1;have bz2:=bz 2;have bz3:=bz 3;have bz4:=bz 4;have bz5:=bz 5;have bz6:=bz 6;clear bz;go_enter Tryz.func23,Tryz.ntmps23;go_wp2
   (try simp only [Exit.inBlock,Exit.then])
   refine bodyPost_ret (val_size3 rfl _ _ _ 57 _ (0,0) rfl HZ.out rfl) rfl ?_;exact⟨[.int .i64 0,.bool false,.string ⟨#[]⟩,.int .i64 0,.bool false,.slice none 0 0,.slice none 0 0],by rw [errOf_pos_j (by decide)];rfl,flat_val _ _ 0 false [] 0 false,below_new w _⟩
 · have hdec:decide ((1048576:Int)<(s.size:Int))=false:=by rw [decide_eq_false_iff_not];omega
   have HSZ:=hid (show s.size≤1048576 by omega);have HLe:=hid (show s.data.toList.length≤1048576 from HSZ.out);have HE:=hid hE;have HNB:=hid (show 6≤w.heap.size+1 by have:=hE.lt;omega);have HS:=hid (start_rd (w:=w) (o1:=(.cells #[.int .i64 0,.bool false,.string ⟨#[]⟩,.int .i64 0,.bool false,.slice none 0 0,.slice none 0 0] 57 (0,0))) HSZ.out rfl);clear hE hs hl;cases hw:whole s.data.toList with
   |ok t u=>
    have HW:=hid hw;rw [parse_ok HLe.out hw];clear hw;go_enter Tryz.func23,Tryz.ntmps23;go_wp2_with (go_at_call 59;have hcall:=whole_any (w:=((w.alloc (.cells #[.int .i64 0,.bool false,.string ⟨#[]⟩,.int .i64 0,.bool false,.slice none 0 0,.slice none 0 0] 57 (0,0))).alloc (.cells #[.string s,.int .i64 0,.int .i64 0] 117 (0,0)))) HNB.out HSZ.out HS.out.1 (HE.out.below HS.out.2.2.1);(with_reducible refine hcall.mono ?_);clear hcall;intro e w2 hq;have hq2:=ToldV.as hq HW.out;clear hq;obtain⟨cs,rfl,z1,z2,z3⟩:=hq2;obtain⟨q1,q2,q3,q4,q5,q6,q7,q8,q9,q10,q11,rfl⟩:=z1.form;have HRes:=hid ((z3.block w.heap.size (by rw [HS.out.2.2.2];omega) (by omega)).trans HS.out.2.1);have R2:=hid (And.intro z2 z3);have Z1:=hid z1;clear z1 z2 z3;have HR3:=hid (((below_new w2 (C7 q1 q2 q3 q4 q5 q6 q7 q8 q9 q10 q11)).block w.heap.size (lt_of_heap HRes.out)).trans HRes.out);have s2:=seven_j HR3.out;obtain⟨b0,b1,b2,b3,b4,b5,b6,bz⟩:=s2;have bz0:=bz 0;have bz1:=bz 1;have bz2:=bz 2;have bz3:=bz 3;have bz4:=bz 4;have bz5:=bz 5;have bz6:=bz 6;clear bz;have HC:=hid (heap_alloc_new w2 (C7 q1 q2 q3 q4 q5 q6 q7 q8 q9 q10 q11));have s3:=seven_j HC.out;obtain⟨x0,x1,x2,x3,x4,x5,x6,_⟩:=s3)
    (try simp only [Exit.inBlock,Exit.then])
    refine bodyPost_ret (val_size3 rfl _ _ _ 57 _ (0,0) rfl (seven_put (has_seven HR3.out) _ _ _ _ _ _ _) rfl) rfl ?_;obtain⟨e1,e2⟩:=parse_end HS.out.2.2.1 rfl HS.out.2.2.2 R2.out.2 (below_new w2 (C7 q1 q2 q3 q4 q5 q6 q7 q8 q9 q10 q11)) Z1.out (out7 _ _ _ _ _ _ _ _ _);exact⟨_,rfl,e1,e2⟩
   |err k u=>
    have HW:=hid hw;have hk:=whole_err hw;rw [parse_err HLe.out hw];clear hw;go_enter Tryz.func23,Tryz.ntmps23;go_wp2_with (go_at_call 59;have hcall:=whole_any (w:=((w.alloc (.cells #[.int .i64 0,.bool false,.string ⟨#[]⟩,.int .i64 0,.bool false,.slice none 0 0,.slice none 0 0] 57 (0,0))).alloc (.cells #[.string s,.int .i64 0,.int .i64 0] 117 (0,0)))) HNB.out HSZ.out HS.out.1 (HE.out.below HS.out.2.2.1);(with_reducible refine hcall.mono ?_);clear hcall;intro e w2 hq;have hq2:=ToldV.as hq HW.out;clear hq;obtain⟨t,cs,d',rfl,z1,z2,z3⟩:=hq2;obtain⟨q1,q2,q3,q4,q5,q6,q7,q8,q9,q10,q11,rfl⟩:=z1.form;have HRes:=hid ((z3.block w.heap.size (by rw [HS.out.2.2.2];omega) (by omega)).trans HS.out.2.1);have R2:=hid (And.intro z2 z3);have Z1:=hid z1;obtain⟨q,hA⟩:=z2.at;have HA:=hid hA;clear hA z1 z2 z3);have HR3:=hid (((below_new w2 (C7 q1 q2 q3 q4 q5 q6 q7 q8 q9 q10 q11)).block w.heap.size (lt_of_heap HRes.out)).trans HRes.out);have H2:=hid (HA.out.two.below (below_new w2 (C7 q1 q2 q3 q4 q5 q6 q7 q8 q9 q10 q11)));obtain⟨W3,hW3⟩:∃ W3,W3=w2.alloc (C7 q1 q2 q3 q4 q5 q6 q7 q8 q9 q10 q11):=⟨_,rfl⟩;have HW3:=hid (show Below w2.heap.size w2 W3 from by rw [hW3];exact below_new _ _);rw [←hW3] at HR3 H2 ⊢;clear hW3;refine wp_region_noPanic ?_;refine any_begin 7 (by kernel_rfl) (by kernel_rfl) ?_;refine late_begin (fun U=>Rd2 U (w.heap.size+1) s q) (fun _=>false) (H2.out.below (below_drew_j (Below.refl _ _) 1)) (fun hS=>?_);have HR4:=hid (show W3.drew.heap[w.heap.size]?=some (.cells #[.int .i64 0,.bool false,.string ⟨#[]⟩,.int .i64 0,.bool false,.slice none 0 0,.slice none 0 0] 57 (0,0)) from HR3.out);have HW4:=hid (show Below w2.heap.size w2 W3.drew from HW3.out.trans (below_drew_j (Below.refl _ _) 1));clear HR3 H2 HW3;generalize W3.drew=V at hS HR4 HW4 ⊢;have s2:=seven_j HR4.out;obtain⟨b0,b1,b2,b3,b4,b5,b6,bz⟩:=s2;have bz0:=bz 0;have bz1:=bz 1;have bz2:=bz 2;have bz3:=bz 3;have bz4:=bz 4;have bz5:=bz 5;have bz6:=bz 6;clear bz;refine ltk (i:=0) (some 21) rfl rfl (v:= ?v0a) ?hy0a hS ?rest0a
    case hy0a=>intro w0 hSw;obtain⟨k0,k1⟩:=hSw;go_simp;try with_reducible rfl
    simp only [Act.put,sA,sB,sC];refine ltk (i:=1) (some 22) rfl rfl (v:= ?v1a) ?hy1a hS ?rest1a
    case hy1a=>intro w0 hSw;obtain⟨k0,k1⟩:=hSw;go_simp;try with_reducible rfl
    simp only [Act.put,sA,sB,sC];refine ltk (i:=2) (some 23) rfl rfl (v:= ?v2a) ?hy2a hS ?rest2a
    case hy2a=>intro w0 hSw;obtain⟨k0,k1⟩:=hSw;go_simp;try with_reducible rfl
    simp only [Act.put,sA,sB,sC];refine ltk (i:=3) (some 24) rfl rfl (v:= ?v3a) ?hy3a hS ?rest3a
    case hy3a=>intro w0 hSw;obtain⟨k0,k1⟩:=hSw;go_simp;try with_reducible rfl
    simp only [Act.put,sA,sB,sC];refine wpAnyD_one (i:=4) (by kernel_rfl) rfl (fun K hK=>?_);go_simp;have hS2:Rd2 (((((((V.setCell ⟨w.heap.size,0,none⟩ (.int .i64 0)).setCell ⟨w.heap.size,1,none⟩ (.bool false)).setCell ⟨w.heap.size,2,none⟩ (.string ⟨#[]⟩)).setCell ⟨w.heap.size,3,none⟩ (.int .i64 0)).setCell ⟨w.heap.size,4,none⟩ (.bool false)).setCell ⟨w.heap.size,5,none⟩ (.slice none 0 0)).setCell ⟨w.heap.size,6,none⟩ (.slice none 0 0)) (w.heap.size+1) s q:=Rd2.other hS (by omega) (out7 _ _ _ _ _ _ _ _ _);refine hK _ _ ⟨fun _=>hS2,?_⟩;clear hK K;replace hS:=hS2;refine ltk (i:=5) (some 3) rfl rfl (v:= ?v5a) ?hy5a hS ?rest5a
    case hy5a=>intro w0 hSw;obtain⟨k0,k1⟩:=hSw;go_simp;try with_reducible rfl
    simp only [Act.put,sA,sB,sC];refine ltk (i:=6) (some 4) rfl rfl (v:= ?v6a) ?hy6a hS ?rest6a
    case hy6a=>intro w0 hSw;obtain⟨k0,k1⟩:=hSw;go_simp;try with_reducible rfl
    simp only [Act.put,sA,sB,sC];refine late_done (by kernel_rfl) ?_ _;refine NoPanic.normal ?_;clear hS hS2;go_wp2
    (try simp only [Exit.inBlock,Exit.then])
    refine bodyPost_ret (val_size3 rfl _ _ _ 57 _ (0,0) rfl (seven_put (has_seven HR4.out) _ _ _ _ _ _ _) rfl) rfl ?_;obtain⟨_,e2⟩:=parse_end HS.out.2.2.1 rfl HS.out.2.2.2 R2.out.2 HW4.out Z1.out (out7 _ _ _ _ _ _ _ _ _);have hq:((s.data.toList.length-u.length:Nat):Int)=(q:Int):=by
     have a1:=HA.out.len;have a2:=HA.out.le;have a3:s.data.toList.length=s.size:=rfl;omega
    refine⟨[.int .i64 0,.bool false,.string ⟨#[]⟩,.int .i64 0,.bool false,.slice none 0 0,.slice none 0 0],?_,flat_val _ _ 0 false [] 0 false,e2⟩;rw [hq,errOf_pos_j hk];rfl
def NamesOn (w:World) (ns:List B) (p:Option Addr):Prop:=∀ j t,ns[j]?=some t→∃ g o,p=some ⟨g,o,none⟩∧w.cell? ⟨g,o+j,none⟩=some (.string (str t))
theorem NamesOn.below {w w':World}{ns:List B}{p:Option Addr} (h:NamesOn w ns p) (hb:Below w.heap.size w w'):NamesOn w' ns p:=by
 intro j t hj;obtain⟨g,o,h1,h2⟩:=h j t hj;refine⟨g,o,h1,?_⟩;rw [hb.cell (by exact lt_of_cell h2)];exact h2
structure Row7 (w:World) (g o:Nat) (c0 c1 c2 c3 c4 c5 c6:Value):Prop where
 a0:w.cell? ⟨g,o,none⟩=some c0
 a1:w.cell? ⟨g,o+1,none⟩=some c1
 a2:w.cell? ⟨g,o+2,none⟩=some c2
 a3:w.cell? ⟨g,o+3,none⟩=some c3
 a4:w.cell? ⟨g,o+4,none⟩=some c4
 a5:w.cell? ⟨g,o+5,none⟩=some c5
 a6:w.cell? ⟨g,o+6,none⟩=some c6
theorem row7 {w:World}{g o:Nat}{c0 c1 c2 c3 c4 c5 c6:Value} (h:∀ j c,[c0,c1,c2,c3,c4,c5,c6][j]?=some c→w.cell? ⟨g,o+j,none⟩=some c):Row7 w g o c0 c1 c2 c3 c4 c5 c6:=
 ⟨h 0 c0 rfl,h 1 c1 rfl,h 2 c2 rfl,h 3 c3 rfl,h 4 c4 rfl,h 5 c5 rfl,h 6 c6 rfl⟩
theorem Row7.below {w w':World}{g o:Nat}{c0 c1 c2 c3 c4 c5 c6:Value} (h:Row7 w g o c0 c1 c2 c3 c4 c5 c6) (hb:Below w.heap.size w w'):Row7 w' g o c0 c1 c2 c3 c4 c5 c6:=
 have e:∀ j,w'.cell? ⟨g,j,none⟩=w.cell? ⟨g,j,none⟩:=fun _=>hb.cell (by exact lt_of_cell h.a0)
 ⟨(e _).trans h.a0,(e _).trans h.a1,(e _).trans h.a2,(e _).trans h.a3,(e _).trans h.a4,(e _).trans h.a5,(e _).trans h.a6⟩
theorem names_list {w:World}{ns:List B}{g o:Nat} (h:NamesOn w ns (some ⟨g,o,none⟩)):∀ j,j<(ns.map str).length→w.cell? ⟨g,o+j,none⟩=some (.string ((ns.map str).getD j ByteArray.empty)):=by
 intro j hj;have hj2:j<ns.length:=by simpa using hj
 obtain⟨g',o',e,hc⟩:=h j ns[j] (List.getElem?_eq_getElem hj2);simp only [Option.some.injEq,Addr.mk.injEq] at e;obtain⟨rfl,rfl,_⟩:=e;rw [hc];simp [hj2]
theorem take_map (ns:List B):(ns.map str).take ns.length=ns.map str:=by
 rw [List.take_of_length_le (by simp)]
open Go.RowKit Go.Maps
open Go.RowKit
theorem new_drew (w:World) (o:Obj):Below w.heap.size w (w.alloc o).drew:=⟨rfl,rfl,rfl,(below_new w o).size,fun k hk=>(below_new w o).block k hk⟩
def Own_j (w:World) (base:Nat) (v:Value) (acc:B):Prop:=w.ownsRow base 5 1 v acc.length (Lib.byteCells acc)
theorem Own_j.put {w':World}{base k:Nat}{v':Value}{acc bs:B}{news:List Value} (h:w'.ownsRow base 5 1 v' (acc.length+k) (Lib.byteCells acc++news)) (e:Lib.byteCells bs=news) (hk:bs.length=k):Own_j w' base v' (acc++bs):=by
 unfold Own_j;rw [cells_app,e,List.length_append,hk];exact h
theorem Own_j.below {w w':World}{base:Nat}{v:Value}{acc:B} (h:Own_j w base v acc) (hb:base≤w.heap.size) (hg:w.grownBy w' v.ownBlock):Below base w w':=
 ⟨hg.os,hg.tape,hg.output,hg.size,fun k hk=>hg.block k (by omega) (fun e=>own_ne_j h hk e.symm)⟩
theorem Own_j.alloc {w:World}{base:Nat}{v:Value}{acc:B} (h:Own_j w base v acc) (o:Obj):Own_j (w.alloc o) base v acc:=by
 refine⟨h.1,?_⟩;rcases h.2 with h1|⟨g,cap,cur,h1,h2,h3,h4⟩
 · exact .inl h1
 · exact .inr ⟨g,cap,cur,h1,h2,((below_new w o).block g (lt_of_heap h3)).trans h3,h4⟩
abbrev hexC:ByteArray:=⟨#[48,49,50,51,52,53,54,55,56,57,97,98,99,100,101,102,65,66,67,68,69,70]⟩
theorem hex_at (i:Nat) (hi:i<16):∀ (j:Nat) (h:j<hexC.size),j=i→(hexC[j]'h).toNat=(hexD i).toNat:=by
 intro j h e;subst e;have key:∀ K:Fin 16,hexC.data[K.val]?=some (hexD K.val):=by decide
 have h2:hexC.data[j]?=some (hexD j):=key ⟨j,hi⟩;have h3:hexC.data[j]?=some (hexC.data[j]'h):=Array.getElem?_eq_getElem h;have h4:hexC.data[j]'h=hexD j:=Option.some.inj (h3.symm.trans h2);exact congrArg UInt8.toNat h4
theorem mask15 (X:Nat) (h:X<256):bits .and .u8 (X:Int) 15=(X:Int) % 16:=by
 have key:∀ K:Fin 256,bits .and .u8 (K.val:Int) 15=(K.val:Int) % 16:=by decide+kernel
 exact key ⟨X,h⟩
theorem appendByte_any {w:World}{base:Nat}{v:Value}{acc:B} (c:UInt8) (h:Own_j w base v acc) (hb:base≤w.heap.size) (hl:acc.length+6≤140737488355328):
 Calls Tryz.prog 283 #[v,.int .u8 (c.toNat:Int)] w fun e w'=>∃ v',e= .returned v'∧Own_j w' base v' (acc++esc c)∧Below base w w':=by
 obtain⟨p,c0,rfl⟩:=own_slice_j h;obtain⟨i0,hi0,hz0,hz1,hz2⟩:=info_parts infoB;obtain⟨X,hX⟩:∃ X:Nat,c.toNat=X:=⟨_,rfl⟩;have hX256:X<256:=by rw [←hX];exact c.toNat_lt
 obtain⟨n,hn⟩:∃ n,acc.length=n:=⟨_,rfl⟩;have HO:=hid h;have HBs:=hid hb;have HN:=hid hn;rw [hn] at HO hl ⊢;rw [hX];clear h hb hn;by_cases h34:c=34∨c=92
 · have he:esc c= [92,c]:=by unfold esc;rw [if_pos h34]
   have HEsc:=hid (show Lib.byteCells (esc c)= [.int .u8 92,.int .u8 (X:Int)]∧(esc c).length=2 from by rw [he];exact⟨by simp [Lib.byteCells,hX],rfl⟩);have h2:X=34∨X=92:=by rcases h34 with rfl|rfl <;> (rw [←hX];simp)
   clear hX h34 he;rcases h2 with rfl|rfl
   · go_enter Tryz.func283,Tryz.ntmps283;go_wp2_with (at_builtin;refine wpList_append_own_at _ rfl (.tmp 12) (.tmp 14) 106 rfl base 5 i0 _ 1 1 Tryz.underlying106 hi0 hz0 hz1 hz2 rfl (by decide) (.slice p n c0) n (Lib.byteCells acc) (by go_simp) (by have:=HO.out.alloc (.cells #[.int .u8 92,.int .u8 34] 5 (0,0));unfold Own_j at this;rw [HN.out] at this;exact this) ⟨w.heap.size,0,none⟩ 2 2 [.int .u8 92,.int .u8 34] (by go_simp) rfl (cells_new w _ _) (by simp [Value.oneCell']) (by unfold maxLen;omega) (by omega) (Nat.le_trans HBs.out (below_new _ _).size) ?_;intro v' w' hown hgr _ _;obtain⟨p7,c7,rfl⟩:=own_slice_j hown;have HB:=hid (((below_new w _).mono HBs.out).trans (Own_j.below (HO.out.alloc (.cells #[.int .u8 92,.int .u8 34] 5 (0,0))) (Nat.le_trans HBs.out (below_new _ _).size) hgr));have HW:=hid (Own_j.put (bs:=esc c) (by rw [HN.out];exact hown) HEsc.out.1 HEsc.out.2);clear hown hgr);go_ret;exact⟨_,rfl,HW.out,HB.out⟩
   · go_enter Tryz.func283,Tryz.ntmps283;go_wp2_with (at_builtin;refine wpList_append_own_at _ rfl (.tmp 12) (.tmp 14) 106 rfl base 5 i0 _ 1 1 Tryz.underlying106 hi0 hz0 hz1 hz2 rfl (by decide) (.slice p n c0) n (Lib.byteCells acc) (by go_simp) (by have:=HO.out.alloc (.cells #[.int .u8 92,.int .u8 92] 5 (0,0));unfold Own_j at this;rw [HN.out] at this;exact this) ⟨w.heap.size,0,none⟩ 2 2 [.int .u8 92,.int .u8 92] (by go_simp) rfl (cells_new w _ _) (by simp [Value.oneCell']) (by unfold maxLen;omega) (by omega) (Nat.le_trans HBs.out (below_new _ _).size) ?_;intro v' w' hown hgr _ _;obtain⟨p7,c7,rfl⟩:=own_slice_j hown;have HB:=hid (((below_new w _).mono HBs.out).trans (Own_j.below (HO.out.alloc (.cells #[.int .u8 92,.int .u8 92] 5 (0,0))) (Nat.le_trans HBs.out (below_new _ _).size) hgr));have HW:=hid (Own_j.put (bs:=esc c) (by rw [HN.out];exact hown) HEsc.out.1 HEsc.out.2);clear hown hgr);go_ret;exact⟨_,rfl,HW.out,HB.out⟩
 have n34:((X:Int)== 34)=false:=by
  simp only [beq_eq_false_iff_ne,ne_eq];intro e;exact h34 (.inl (UInt8.toNat_inj.1 (by rw [hX];show X=34;omega)))
 have n92:((X:Int)== 92)=false:=by
  simp only [beq_eq_false_iff_ne,ne_eq];intro e;exact h34 (.inr (UInt8.toNat_inj.1 (by rw [hX];show X=92;omega)))
 by_cases h10:c=10
 · have he:esc c= [92,110]:=by unfold esc;rw [if_neg h34,if_pos h10]
   have HEsc:=hid (show Lib.byteCells (esc c)= [.int .u8 92,.int .u8 110]∧(esc c).length=2 from by rw [he];exact⟨by simp [Lib.byteCells],rfl⟩);obtain rfl:X=10:=by rw [←hX,h10];rfl
   clear hX h34 he;go_enter Tryz.func283,Tryz.ntmps283;go_wp2_with (at_builtin;refine wpList_append_own_at _ rfl (.tmp 19) (.tmp 20) 106 rfl base 5 i0 _ 1 1 Tryz.underlying106 hi0 hz0 hz1 hz2 rfl (by decide) (.slice p n c0) n (Lib.byteCells acc) (by go_simp) (by have:=HO.out.alloc (.cells #[.int .u8 92,.int .u8 110] 5 (0,0));unfold Own_j at this;rw [HN.out] at this;exact this) ⟨w.heap.size,0,none⟩ 2 2 [.int .u8 92,.int .u8 110] (by go_simp) rfl (cells_new w _ _) (by simp [Value.oneCell']) (by unfold maxLen;omega) (by omega) (Nat.le_trans HBs.out (below_new _ _).size) ?_;intro v' w' hown hgr _ _;obtain⟨p7,c7,rfl⟩:=own_slice_j hown;have HB:=hid (((below_new w _).mono HBs.out).trans (Own_j.below (HO.out.alloc (.cells #[.int .u8 92,.int .u8 110] 5 (0,0))) (Nat.le_trans HBs.out (below_new _ _).size) hgr));have HW:=hid (Own_j.put (bs:=esc c) (by rw [HN.out];exact hown) HEsc.out.1 HEsc.out.2);clear hown hgr);go_ret;exact⟨_,rfl,HW.out,HB.out⟩
 have n10:((X:Int)== 10)=false:=by
  simp only [beq_eq_false_iff_ne,ne_eq];intro e;exact h10 (UInt8.toNat_inj.1 (by rw [hX];show X=10;omega))
 by_cases h13:c=13
 · have he:esc c= [92,114]:=by unfold esc;rw [if_neg h34,if_neg h10,if_pos h13]
   have HEsc:=hid (show Lib.byteCells (esc c)= [.int .u8 92,.int .u8 114]∧(esc c).length=2 from by rw [he];exact⟨by simp [Lib.byteCells],rfl⟩);obtain rfl:X=13:=by rw [←hX,h13];rfl
   clear hX h34 he;go_enter Tryz.func283,Tryz.ntmps283;go_wp2_with (at_builtin;refine wpList_append_own_at _ rfl (.tmp 25) (.tmp 26) 106 rfl base 5 i0 _ 1 1 Tryz.underlying106 hi0 hz0 hz1 hz2 rfl (by decide) (.slice p n c0) n (Lib.byteCells acc) (by go_simp) (by have:=HO.out.alloc (.cells #[.int .u8 92,.int .u8 114] 5 (0,0));unfold Own_j at this;rw [HN.out] at this;exact this) ⟨w.heap.size,0,none⟩ 2 2 [.int .u8 92,.int .u8 114] (by go_simp) rfl (cells_new w _ _) (by simp [Value.oneCell']) (by unfold maxLen;omega) (by omega) (Nat.le_trans HBs.out (below_new _ _).size) ?_;intro v' w' hown hgr _ _;obtain⟨p7,c7,rfl⟩:=own_slice_j hown;have HB:=hid (((below_new w _).mono HBs.out).trans (Own_j.below (HO.out.alloc (.cells #[.int .u8 92,.int .u8 114] 5 (0,0))) (Nat.le_trans HBs.out (below_new _ _).size) hgr));have HW:=hid (Own_j.put (bs:=esc c) (by rw [HN.out];exact hown) HEsc.out.1 HEsc.out.2);clear hown hgr);go_ret;exact⟨_,rfl,HW.out,HB.out⟩
 have n13:((X:Int)== 13)=false:=by
  simp only [beq_eq_false_iff_ne,ne_eq];intro e;exact h13 (UInt8.toNat_inj.1 (by rw [hX];show X=13;omega))
 by_cases h9:c=9
 · have he:esc c= [92,116]:=by unfold esc;rw [if_neg h34,if_neg h10,if_neg h13,if_pos h9]
   have HEsc:=hid (show Lib.byteCells (esc c)= [.int .u8 92,.int .u8 116]∧(esc c).length=2 from by rw [he];exact⟨by simp [Lib.byteCells],rfl⟩);obtain rfl:X=9:=by rw [←hX,h9];rfl
   clear hX h34 he;go_enter Tryz.func283,Tryz.ntmps283;go_wp2_with (at_builtin;refine wpList_append_own_at _ rfl (.tmp 31) (.tmp 32) 106 rfl base 5 i0 _ 1 1 Tryz.underlying106 hi0 hz0 hz1 hz2 rfl (by decide) (.slice p n c0) n (Lib.byteCells acc) (by go_simp) (by have:=HO.out.alloc (.cells #[.int .u8 92,.int .u8 116] 5 (0,0));unfold Own_j at this;rw [HN.out] at this;exact this) ⟨w.heap.size,0,none⟩ 2 2 [.int .u8 92,.int .u8 116] (by go_simp) rfl (cells_new w _ _) (by simp [Value.oneCell']) (by unfold maxLen;omega) (by omega) (Nat.le_trans HBs.out (below_new _ _).size) ?_;intro v' w' hown hgr _ _;obtain⟨p7,c7,rfl⟩:=own_slice_j hown;have HB:=hid (((below_new w _).mono HBs.out).trans (Own_j.below (HO.out.alloc (.cells #[.int .u8 92,.int .u8 116] 5 (0,0))) (Nat.le_trans HBs.out (below_new _ _).size) hgr));have HW:=hid (Own_j.put (bs:=esc c) (by rw [HN.out];exact hown) HEsc.out.1 HEsc.out.2);clear hown hgr);go_ret;exact⟨_,rfl,HW.out,HB.out⟩
 have n9:((X:Int)== 9)=false:=by
  simp only [beq_eq_false_iff_ne,ne_eq];intro e;exact h9 (UInt8.toNat_inj.1 (by rw [hX];show X=9;omega))
 by_cases h32:X<32
 · have he:esc c= [92,117,48,48,hexD (X / 16),hexD (X % 16)]:=by unfold esc;rw [if_neg h34,if_neg h10,if_neg h13,if_neg h9,if_pos (by rw [hX];exact h32),hX]
   have HEsc:=hid (show Lib.byteCells (esc c)= [.int .u8 92,.int .u8 117,.int .u8 48,.int .u8 48,.int .u8 ((hexD (X / 16)).toNat:Int),.int .u8 ((hexD (X % 16)).toNat:Int)]∧(esc c).length=6 from by rw [he];exact⟨by simp [Lib.byteCells],rfl⟩);have e1:=hex_at (X / 16) (by omega);have e2:=hex_at (X % 16) (by omega);have HE1:=hid e1;have HE2:=hid e2;clear hX he h34 h10 h13 h9 e1 e2;obtain⟨h1,hh1⟩:∃ h1,hexD (X / 16)=h1:=⟨_,rfl⟩;obtain⟨h2,hh2⟩:∃ h2,hexD (X % 16)=h2:=⟨_,rfl⟩;rw [hh1] at HE1;rw [hh2] at HE2;rw [hh1,hh2] at HEsc;clear hh1 hh2;go_enter Tryz.func283,Tryz.ntmps283;go_wp2;refine wp_region_noPanic ?_;refine any_begin 10 (by kernel_rfl) (by kernel_rfl) ?_;refine atk (i:=0) (some 37) rfl rfl (v:= ?v0a) ?hy0a ?rest0a
   case hy0a=>intro w0;go_simp;try with_reducible rfl
   simp only [Act.put,sA,sB,sC];refine atk (i:=1) (some 38) rfl rfl (v:= ?v1a) ?hy1a ?rest1a
   case hy1a=>intro w0;go_simp;try with_reducible rfl
   simp only [Act.put,sA,sB,sC];refine atk (i:=2) (some 39) rfl rfl (v:=.int .u8 ((X / 16:Nat):Int)) ?hy2a ?rest2a
   case hy2a=>intro w0;go_simp
   simp only [Act.put,sA,sB,sC];refine atk (i:=3) (some 40) rfl rfl (v:=.int .u8 (h1.toNat:Int)) ?hy3a ?rest3a
   case hy3a=>intro w0;go_simp;rw [dif_pos ⟨by omega,by omega⟩];simp only [Result.andThen];congr 4;exact HE1.out _ _ (by omega)
   simp only [Act.put,sA,sB,sC];refine atk (i:=4) (some 41) rfl rfl (v:= ?v4a) ?hy4a ?rest4a
   case hy4a=>intro w0;go_simp;try with_reducible rfl
   simp only [Act.put,sA,sB,sC];refine atk (i:=5) (some 42) rfl rfl (v:=.int .u8 ((X % 16:Nat):Int)) ?hy5a ?rest5a
   case hy5a=>intro w0;go_simp;exact mask15 X hX256
   simp only [Act.put,sA,sB,sC];refine atk (i:=6) (some 43) rfl rfl (v:=.int .u8 (h2.toNat:Int)) ?hy6a ?rest6a
   case hy6a=>intro w0;go_simp;rw [dif_pos ⟨by omega,by omega⟩];simp only [Result.andThen];congr 4;exact HE2.out _ _ (by omega)
   simp only [Act.put,sA,sB,sC];refine any_one (i:=7) (by kernel_rfl) rfl (fun K hK=>?_);go_simp;refine hK _ _ ?_;clear hK K;refine any_one (i:=8) (by kernel_rfl) rfl (fun K hK=>?_);rw [if_pos (by rfl)];refine wp_append_own_at (.tmp 37) (.tmp 44) 106 rfl base 5 i0 _ 1 1 Tryz.underlying106 hi0 hz0 hz1 hz2 rfl (by decide) (.slice p n c0) n (Lib.byteCells acc) (by go_simp) (by have:=HO.out.alloc (.cells #[.int .u8 92,.int .u8 117,.int .u8 48,.int .u8 48,.int .u8 (h1.toNat:Int),.int .u8 (h2.toNat:Int)] 5 (0,0));unfold Own_j at this;rw [HN.out] at this;exact this) ⟨w.heap.size,0,none⟩ 6 6 [.int .u8 92,.int .u8 117,.int .u8 48,.int .u8 48,.int .u8 (h1.toNat:Int),.int .u8 (h2.toNat:Int)] (by go_simp) rfl (cells_new w _ _) (by simp [Value.oneCell']) (by unfold maxLen;omega) (by omega) (Nat.le_trans HBs.out (below_new _ _).size) ?_;intro v' w' hown hgr _;obtain⟨p7,c7,rfl⟩:=own_slice_j hown;have HB:=hid (((new_drew w _).mono HBs.out).trans (Own_j.below (show Own_j (w.alloc (.cells #[.int .u8 92,.int .u8 117,.int .u8 48,.int .u8 48,.int .u8 (h1.toNat:Int),.int .u8 (h2.toNat:Int)] 5 (0,0))).drew base _ acc from HO.out.alloc (.cells #[.int .u8 92,.int .u8 117,.int .u8 48,.int .u8 48,.int .u8 (h1.toNat:Int),.int .u8 (h2.toNat:Int)] 5 (0,0))) (Nat.le_trans HBs.out (below_new _ _).size) hgr));have HW:=hid (Own_j.put (bs:=esc c) (by rw [HN.out];exact hown) HEsc.out.1 HEsc.out.2);clear hown hgr;show K (Act.put _ (some 45) (.slice p7 (n+6) c7)) w';refine hK _ _ ?_;clear hK K;simp only [Act.put,sA,sB,sC];refine atk (i:=9) (some 4) rfl rfl (v:= ?v9a) ?hy9a ?rest9a
   case hy9a=>intro w0;go_simp;try with_reducible rfl
   simp only [Act.put,sA,sB,sC];refine any_done (by kernel_rfl) ?_ _;refine NoPanic.normal ?_;go_wp2;go_ret;exact⟨_,rfl,HW.out,HB.out⟩
 · have he:esc c= [c]:=by unfold esc;rw [if_neg h34,if_neg h10,if_neg h13,if_neg h9,if_neg (by rw [hX];exact h32)]
   have HEsc:=hid (show Lib.byteCells (esc c)= [.int .u8 (X:Int)]∧(esc c).length=1 from by rw [he];exact⟨by simp [Lib.byteCells,hX],rfl⟩);clear hX he h34 h10 h13 h9;go_enter Tryz.func283,Tryz.ntmps283;go_wp2_with (at_builtin;refine wpList_append_own_at _ rfl (.tmp 46) (.tmp 48) 106 rfl base 5 i0 _ 1 1 Tryz.underlying106 hi0 hz0 hz1 hz2 rfl (by decide) (.slice p n c0) n (Lib.byteCells acc) (by go_simp) (by have:=HO.out.alloc (.cells #[.int .u8 (X:Int)] 5 (0,0));unfold Own_j at this;rw [HN.out] at this;exact this) ⟨w.heap.size,0,none⟩ 1 1 [.int .u8 (X:Int)] (by go_simp) rfl (cells_new w _ _) (by simp [Value.oneCell']) (by unfold maxLen;omega) (by omega) (Nat.le_trans HBs.out (below_new _ _).size) ?_;intro v' w' hown hgr _ _;obtain⟨p7,c7,rfl⟩:=own_slice_j hown;have HB:=hid (((below_new w _).mono HBs.out).trans (Own_j.below (HO.out.alloc (.cells #[.int .u8 (X:Int)] 5 (0,0))) (Nat.le_trans HBs.out (below_new _ _).size) hgr));have HW:=hid (Own_j.put (bs:=esc c) (by rw [HN.out];exact hown) HEsc.out.1 HEsc.out.2);clear hown hgr);go_ret;exact⟨_,rfl,HW.out,HB.out⟩
theorem own_slice3_j {w:World}{base n m:Nat}{e:TypeId}{u:Value}{ys:List Value} (h:w.ownsRow base e m u n ys):∃ p L c,u= .slice p L c:=by
 obtain⟨p,c,e⟩:=own_slice_j h;exact⟨p,n,c,e⟩
theorem escs_app (a b:B):escs (a++b)=escs a++escs b:=by
 induction a with
 |nil=>rfl
 |cons c a ih=>simp only [List.cons_append,escs,ih,List.append_assoc]
theorem esc_most (c:UInt8):(esc c).length≤6:=by
 unfold esc
 (repeat' split) <;> simp
theorem escs_most:∀ s:B,(escs s).length≤6*s.length
 | []=>Nat.le_refl _
 |c::t=>by
  have:=escs_most t;have:=esc_most c;simp only [escs,List.length_append,List.length_cons];omega
theorem Own_j.start (w:World) (c:UInt8):Own_j (w.alloc (.cells #[.int .u8 (c.toNat:Int)] 5 (0,0))) w.heap.size (.slice (some ⟨w.heap.size,0,none⟩) 1 1) [c]:=by
 refine⟨rfl,.inr ⟨w.heap.size,1,_,rfl,Nat.le_refl _,heap_alloc_new _ _,Nat.le_refl _,by unfold maxLen;omega,rfl,?_⟩⟩;simp [Lib.byteCells]
theorem quote_any (s:B) (hs:6*s.length+10≤140737488355328) (w:World):
 Calls Tryz.prog 237 #[.string (str s)] w fun e w'=>e= .returned (.string (str (quoteB s)))∧Below w.heap.size w w':=by
 obtain⟨i0,hi0,hz0,hz1,hz2⟩:=info_parts infoB;obtain⟨S,hS⟩:∃ S,str s=S:=⟨_,rfl⟩;obtain⟨n,hn⟩:∃ n,S.size=n:=⟨_,rfl⟩;have hsl:s.length=n:=by rw [←hn,←hS];show s.length=s.toArray.size;simp
 have HD:=hid (show S.data.toList=s from by rw [←hS]);have HN:=hid hsl;have HSz:=hid hn;rw [hS];rw [hsl] at hs;clear hS hsl;have HO0:=hid (Own_j.start w 34);have HB0:=hid (below_new w (.cells #[.int .u8 34] 5 (0,0)));go_enter Tryz.func237,Tryz.ntmps237;go_wp2;go_loopg [3,8] (n+1) (fun gk s3 s8 wr=>∃ i:Nat,i≤n∧gk=n-i+1∧s8= .int .i64 (i:Int)∧Own_j wr w.heap.size s3 (34::escs (s.take i))∧w.heap.size≤wr.heap.size∧Below w.heap.size w wr)
 case atStart=>exact⟨0,by omega,rfl,rfl,HO0.out,HB0.out.size,HB0.out⟩
 case round=>
  obtain⟨i,hi,rfl,rfl,ho,hsz,hb⟩:=hrel;have HO:=hid ho;have HB:=hid hb;have HZ:=hid hsz;obtain⟨p,c0,rfl⟩:=own_slice_j ho;clear ho hb hsz;have HLn:=hid (show (34::escs (s.take i):B).length≤6*i+1 from by
   have:=escs_most (s.take i);rw [List.length_take,HN.out] at this;simp only [List.length_cons];omega)
  by_cases hin:i<n
  · have hi1:i<s.length:=by rw [HN.out];exact hin
    obtain⟨c,hc⟩:∃ c,s[i]=c:=⟨_,rfl⟩;have hix:S.size=n:=HSz.out;have HIx:=hid (show ∀ h:i<S.size,(S[i]'h)=c from fun h=>by
     rw [←hc];have e:S.data.toList[i]?=s[i]?:=by rw [HD.out]
     rw [List.getElem?_eq_getElem hi1] at e;have e2:S.data[i]?=some (S.data[i]'h):=Array.getElem?_eq_getElem h;have e3:S.data.toList[i]?=S.data[i]?:=by simp
     exact Option.some.inj (e2.symm.trans (e3.symm.trans e)))
    have HTk:=hid (show 34::escs (s.take (i+1))=(34::escs (s.take i))++esc c from by rw [List.take_add_one,List.getElem?_eq_getElem hi1,hc,escs_app];simp [escs]);obtain⟨X,hXc⟩:∃ X:Nat,c.toNat=X:=⟨_,rfl⟩;have HXc:=hid hXc;have hbyte:∀ h:i<S.size,(S[i]'h).toNat=X:=fun h=>by rw [HIx.out h,hXc]
    generalize hln:(34::escs (s.take i):B).length=ln at HLn;have hln2:=HLn.out;clear hc hi1 hXc hix;go_wp2_with (go_at_call 283;have hcall:=appendByte_any c HO.out HZ.out (by rw [hln];omega);rw [HXc.out,hln] at hcall;refine hcall.mono ?_;clear hcall;rintro e w1 ⟨v',rfl,ho1,hb1⟩;obtain⟨p7,L7,c7,rfl⟩:=own_slice3_j ho1;have HO1:=hid (show Own_j w1 w.heap.size (.slice p7 L7 c7) (34::escs (s.take (i+1))) from by(rw [HTk.out];exact ho1));have HB1:=hid (HB.out.trans hb1);clear ho1 hb1);go_roundg (n-(i+1)+1)
    case measure=>omega
    case rel=>exact⟨i+1,by omega,rfl,by push_cast;rfl,HO1.out,HB1.out.size,HB1.out⟩
  · obtain rfl:i=n:=by omega
    have HTk:=hid (show s.take i=s from List.take_of_length_le (by rw [HN.out];exact Nat.le_refl _));rw [HTk.out] at HO HLn ⊢;generalize hln:(34::escs s:B).length=ln at HO HLn ⊢;have hln2:=HLn.out;have HQ:=hid (show (34::escs s)++ [34]=quoteB s from by simp [quoteB]);have HLe:=hid hln;clear hln;go_wp2_with (at_builtin;refine wpList_append_own_at _ rfl (.tmp 17) (.tmp 18) 106 rfl w.heap.size 5 i0 _ 1 1 Tryz.underlying106 hi0 hz0 hz1 hz2 rfl (by decide) (.slice p ln c0) ln (Lib.byteCells (34::escs s)) (by go_simp) (by have:=HO.out.alloc (.cells #[.int .u8 34] 5 (0,0));unfold Own_j at this;rw [HLe.out] at this;exact this) ⟨wr.heap.size,0,none⟩ 1 1 [.int .u8 34] (by go_simp) rfl (cells_new wr _ _) (by simp [Value.oneCell']) (by unfold maxLen;omega) (by omega) (Nat.le_trans HZ.out (below_new _ _).size) ?_;intro v' w' hown hgr _ _;obtain⟨p7,L7,c7,rfl⟩:=own_slice3_j hown;have HB2:=hid (HB.out.trans (((below_new wr _).mono HZ.out).trans (Own_j.below (HO.out.alloc (.cells #[.int .u8 34] 5 (0,0))) (Nat.le_trans HZ.out (below_new _ _).size) hgr)));have HW:=hid (Own_j.put (acc:=34::escs s) (bs:=[34]) (by rw [HLe.out];exact hown) rfl rfl);have hconv:=conv_own_j (World.ownsRowF_of HW.out);rw [HQ.out] at hconv;clear hown hgr);go_ret;exact⟨rfl,HB2.out⟩
structure Two_j (w:World) (b:Nat) (c0 c1:Value):Prop where
 a0:w.cell? ⟨b,0,none⟩=some c0
 a1:w.cell? ⟨b,1,none⟩=some c1
 fz:∀ j,w.frozen? ⟨b,j,none⟩=false
theorem two {w:World}{b:Nat}{c0 c1:Value}{T:TypeId} (h:w.heap[b]?=some (.cells #[c0,c1] T (0,0))):Two_j w b c0 c1:=by
 refine⟨?_,?_,fun j=>by simp [World.frozen?,h]⟩ <;> simp [World.cell?,h]
theorem str_size_j (s:B):(str s).size=s.length:=by
 show s.toArray.size=s.length;simp
end Go.Proofs.YtlmefgjhbohjlaaGreatDoor
