/- New, Len, Add, Find of tables, by the program. -/
import Derived.Test.YtlmlljlappjjjaaGreatDoorSTabP
namespace Go.Proofs.YtlmlljlappjjjaaGreatDoor
set_option maxRecDepth 20000
set_option maxHeartbeats 16000000
open Go.RowKit Go.Maps
theorem Tab.new (w:World):Tab (w.alloc (.cells #[.map none,.slice none 0 0,.slice none 0 0] 125 (0,0))) w.heap.size [] none (.slice none 0 0) (.slice none 0 0) []:=
 ⟨Tab0.new w,fun p hp=>(by simp at hp),fun p hp=>(by simp at hp),Nat.zero_le _⟩
theorem ft_new {t i:Nat} (h:Ft t none (.slice none 0 0) (.slice none 0 0) i):i=t:=by
 rcases h with h|h|h|h
 · exact h
 · cases h
 · cases h
 · cases h
theorem new_any (w:World):Calls Tryz.prog 25 #[] w fun e w'=>e= .returned (.pointer (some ⟨w.heap.size,0,none⟩))∧Tab w' w.heap.size [] none (.slice none 0 0) (.slice none 0 0) []∧Below w.heap.size w w':=by
 go_enter Tryz.func25,Tryz.ntmps25;go_wp2;go_ret;exact⟨rfl,Tab.new w,below_new w _⟩
theorem len_any {w:World}{t:Nat}{P:List (B×Int)}{m:Option Nat}{v1 v2:Value}{L:List B} (h:Tab w t P m v1 v2 L):Calls Tryz.prog 101 #[.pointer (some ⟨t,0,none⟩)] w fun e w'=>e= .returned (.int .i64 (P.length:Int))∧w'=w:=by
 obtain⟨_,_,hc,_⟩:=h.tab.cells;obtain⟨p,n,c,rfl⟩:=own_slice3 h.tab.al;obtain rfl:n=(P.map (·.1)).length:=row_lenH h.tab.al;rw [List.length_map] at hc;clear h;go_enter Tryz.func101,Tryz.ntmps101;go_wp2;go_ret;exact⟨rfl,rfl⟩
theorem exec_look {o:Oper}{a:Act}{P:Program}{w:World}{t:TypeId}{m x:Operand}{mv xv v:Value} (hop:o.op=Op.lookup t m x true) (hm:a.eval m=mv) (hx:a.eval x=xv) (hrun:(Instr.lookup t mv xv true).run P w= .ok v w):(execOp a.eval o).run P w= .ok (.value v) w:=by
 simp [execOp,hop,hm,hx,hrun,Result.andThen]
structure LkS (U:World) (t b:Nat) (m:Option Nat) (SA SB:ByteArray) (V:Value):Prop where
 a0:U.cell? ⟨t,0,none⟩=some (.map m)
 a1:U.cell? ⟨b,0,none⟩=some (.string SA)
 a2:U.cell? ⟨b,1,none⟩=some (.string SB)
 look:(Instr.lookup 123 (.map m) (.agg #[.string SA,.string SB]) true).run Tryz.prog U= .ok V U
theorem Tab.lks {w:World}{t:Nat}{P:List (B×Int)}{m:Option Nat}{v1 v2:Value}{L:List B} (h:Tab w t P m v1 v2 L) {a b:B} (hs:shK a b) {g:Nat} (hb:KBox w g (str a) (str b)):∃ c:Int,LkS w t g m (str a) (str b) (.tuple #[.int .i64 c,.bool (idsF P (a,b)).isSome])∧∀ i,idsF P (a,b)=some i→c=i:=by
 obtain⟨hc0,_,_,_⟩:=h.tab.cells;cases m with
 |none=>
  have:=h.tab.no rfl;subst this;exact⟨0,⟨hc0,hb.cells.1,hb.cells.2,look_none w hs⟩,fun i hi=>by cases hi⟩
 |some k=>
  obtain⟨c,hr,hi⟩:=(h.tab.mp k rfl).look hs;exact⟨c,⟨hc0,hb.cells.1,hb.cells.2,hr⟩,hi⟩
theorem pat_short {p:B}{x:List B} (h:patH p=some x):p.length≤253:=by
 rcases patH_some h with ⟨h1,_⟩|⟨_,h1,_⟩
 · rw [h1];exact Nat.zero_le _
 · exact(labs_cut h1).2.1
def AddAns (w:World) (t:Nat) (P:List (B×Int)) (m:Option Nat) (v1 v2:Value) (p:B) (id:Int) (e:Ending) (w':World):Prop:=e= .returned (errOf (addE P p))∧∃ m' v1' v2' L',Tab w' t (addP P p id) m' v1' v2' L'∧GrowF w w' (Ft t m v1 v2) (Ft t m' v1' v2')
theorem add_any {w:World}{t:Nat}{P:List (B×Int)}{m:Option Nat}{v1 v2:Value}{L:List B} (h:Tab w t P m v1 v2 L) (hmx:MxAt w) (p:B) (hp:p.length≤9223372036854775807) (id:Int) (hw:(Lit.int .i64 id).wf=true):
  Calls Tryz.prog 102 #[.pointer (some ⟨t,0,none⟩),.string (str p),.int .i64 id] w fun e w'=>AddAns w t P m v1 v2 p id e w':=by
 obtain⟨j0,hj0,hy0,hy1,hy2⟩:=info_parts infoS;have HP:=hid (parse_any p hp w hmx);obtain⟨S,hS⟩:∃ S,str p=S:=⟨_,rfl⟩;rw [hS] at HP ⊢;cases hx:patH p with
 |none=>
  have e1:addE P p=3:=by unfold addE;rw [hx];rfl
  have HFin:=hid (show ∀ W,Below w.heap.size w W→AddAns w t P m v1 v2 p id (.returned err3) W from fun W hb=>⟨by rw [e1];rfl,m,v1,v2,L,by rw [show addP P p id=P from by unfold addP;rw [e1];rfl];exact h.next hb,GrowF.below _ hb⟩);rw [hx] at HP;unfold parV keyV at HP;dsimp only at HP;clear hS hx e1 h hmx;go_enter Tryz.func102,Tryz.ntmps102;go_wp2_with (go_at_call 96;(with_reducible refine HP.out.mono ?_);rintro e w1 ⟨rfl,hb⟩;have HB:=hid hb;clear hb HP);go_ret;exact HFin.out _ (HB.out.trans ((below_new w1 _).mono HB.out.size))
 |some x=>
  rw [hx] at HP;unfold parV keyV at HP;dsimp only at HP;obtain⟨hk1,hk2⟩:=key_len hx;have hsk:shK (keyS x).1 (keyS x).2:=⟨by omega,hk2⟩;have HLk:=hid (fun (W:World) (g:Nat) (hT:Tab W t P m v1 v2 L) (hb:KBox W g (str (keyS x).1) (str (keyS x).2))=>hT.lks hsk hb);have HKe:=hid (fun (W:World) (hT:Tab W t P m v1 v2 L) (hno:idsF P ((keyS x).1,(keyS x).2)=none)=>keep_any hT.tab hT.len (lowH p,id) (a:=(keyS x).1) (b:=(keyS x).2) (by rw [show patL (lowH p,id).1=x from patL_some (by rw [pat_low];exact hx)]) hk1 hk2 hno hw);unfold keyV at HKe;obtain⟨SA,hSA⟩:∃ S,str (keyS x).1=S:=⟨_,rfl⟩;obtain⟨SB,hSB⟩:∃ S,str (keyS x).2=S:=⟨_,rfl⟩;rw [hSA,hSB] at HP HLk HKe;have HH:=hid h;have HMx:=hid hmx;have HX:=hid hx;have HFin:=hid (show ∀ W k,addE P p=k→k≠0→Below w.heap.size w W→AddAns w t P m v1 v2 p id (.returned (errOf k)) W from fun W k e1 h0 hb=>⟨by rw [e1],m,v1,v2,L,by rw [show addP P p id=P from by unfold addP;rw [e1,if_neg h0]];exact h.next hb,GrowF.below _ hb⟩);cases hi:idsF P ((keyS x).1,(keyS x).2) with
  |some i0=>
   have e1:addE P p=6:=by unfold addE;rw [hx,any_ids h hx,show keyS x=((keyS x).1,(keyS x).2) from rfl,hi];rfl
   rw [hi] at HLk;have HFe:=hid (fun W hb=>HFin.out W 6 e1 (by decide) hb);rw [show errOf 6= .iface 74 (.int .i64 6) from rfl] at HFe;clear hS hx h hmx hSA hSB e1 hi HKe;go_enter Tryz.func102,Tryz.ntmps102;go_wp2_with (go_at_call 96;(with_reducible refine HP.out.mono ?_);rintro e w1 ⟨rfl,hb⟩;have HB1:=hid (below_out hb (below_new w1 (.cells #[.string SA,.string SB] 155 (0,0))));have HK1:=hid (KBox.new w1 SA SB);clear hb HP);have hbD:Below w.heap.size w (w1.alloc (.cells #[.string SA,.string SB] 155 (0,0))).drew:=below_out HB1.out (below_drewH _ 1);obtain⟨cc,hS0a,_⟩:=HLk.out (w1.alloc (.cells #[.string SA,.string SB] 155 (0,0))).drew w1.heap.size (HH.out.next hbD) (HK1.out.next (below_drewH _ 1));obtain⟨b0,hb0⟩:∃ b0,w1.heap.size=b0:=⟨_,rfl⟩;rw [hb0] at hS0a ⊢;refine wp_region_noPanic ?_;refine any_begin 11 (by kernel_rfl) (by kernel_rfl) ?_;refine late_begin (fun U=>LkS U t b0 m SA SB (.tuple #[.int .i64 cc,.bool (some i0).isSome])) (fun _=>false) hS0a (fun hS=>?_);refine ltk (i:=0) (some 23) rfl rfl (v:= ?v0a) ?hy0a hS ?rest0a
   case hy0a=>intro w0 hSw;obtain⟨a0,a1,a2,a3⟩:=hSw;go_simp;try with_reducible rfl
   simp only [Act.put,sA,sB,sC];refine ltk (i:=1) (some 24) rfl rfl (v:= ?v1a) ?hy1a hS ?rest1a
   case hy1a=>intro w0 hSw;obtain⟨a0,a1,a2,a3⟩:=hSw;go_simp;try with_reducible rfl
   simp only [Act.put,sA,sB,sC];refine ltk (i:=2) (some 25) rfl rfl (v:= ?v2a) ?hy2a hS ?rest2a
   case hy2a=>intro w0 hSw;obtain⟨a0,a1,a2,a3⟩:=hSw;go_simp;try with_reducible rfl
   simp only [Act.put,sA,sB,sC];refine ltk (i:=3) (some 26) rfl rfl (v:= ?v3a) ?hy3a hS ?rest3a
   case hy3a=>intro w0 hSw;obtain⟨a0,a1,a2,a3⟩:=hSw;go_simp;try with_reducible rfl
   simp only [Act.put,sA,sB,sC];refine ltk (i:=4) (some 27) rfl rfl (v:= ?v4a) ?hy4a hS ?rest4a
   case hy4a=>intro w0 hSw;obtain⟨a0,a1,a2,a3⟩:=hSw;go_simp;try with_reducible rfl
   simp only [Act.put,sA,sB,sC];refine late_take (i:=5) (some 28) rfl rfl (by kernel_rfl) (by kernel_rfl) (by kernel_rfl) (by kernel_rfl) (by kernel_rfl) (fun _ _ _ h=>h) (by rfl) (v:=.tuple #[.int .i64 cc,.bool (some i0).isSome]) ?hy5a hS ?rest5a
   case hy5a=>intro w0 hSw;exact exec_look rfl rfl rfl hSw.look
   simp only [Act.put,sA,sB,sC];refine ltk (i:=6) (some 22) rfl rfl (v:= ?v6a) ?hy6a hS ?rest6a
   case hy6a=>intro w0 hSw;obtain⟨a0,a1,a2,a3⟩:=hSw;go_simp;try with_reducible rfl
   simp only [Act.put,sA,sB,sC];refine ltk (i:=7) (some 29) rfl rfl (v:= ?v7a) ?hy7a hS ?rest7a
   case hy7a=>intro w0 hSw;obtain⟨a0,a1,a2,a3⟩:=hSw;go_simp;try with_reducible rfl
   simp only [Act.put,sA,sB,sC];refine ltk (i:=8) (some 30) rfl rfl (v:= ?v8a) ?hy8a hS ?rest8a
   case hy8a=>intro w0 hSw;obtain⟨a0,a1,a2,a3⟩:=hSw;go_simp;try with_reducible rfl
   simp only [Act.put,sA,sB,sC];refine ltk (i:=9) (some 9) rfl rfl (v:= ?v9a) ?hy9a hS ?rest9a
   case hy9a=>intro w0 hSw;obtain⟨a0,a1,a2,a3⟩:=hSw;go_simp;try with_reducible rfl
   simp only [Act.put,sA,sB,sC];refine ltk (i:=10) (some 10) rfl rfl (v:= ?v10a) ?hy10a hS ?rest10a
   case hy10a=>intro w0 hSw;obtain⟨a0,a1,a2,a3⟩:=hSw;go_simp;try with_reducible rfl
   simp only [Act.put,sA,sB,sC];refine late_done (by kernel_rfl) ?_ _;refine NoPanic.normal ?_;go_wp2;go_ret;exact HFe.out _ hbD
  |none=>
   have e6:P.any (fun q=>decide (q.1=lowH p))=false:=by rw [any_ids h hx,show keyS x=((keyS x).1,(keyS x).2) from rfl,hi];rfl
   rw [hi] at HLk;have HI:=hid hi;obtain⟨_,_,hc2,_⟩:=h.tab.cells;obtain⟨p2,n,c2,rfl⟩:=own_slice3 h.tab.al;have hn:P.length=n:=by have h9:=row_lenH h.tab.al;rw [List.length_map] at h9;exact h9.symm
   by_cases h64:64≤n
   · have e1:addE P p=9:=by unfold addE;rw [hx,e6];simp;rw [hn];exact h64
     have HFe:=hid (fun W hb=>HFin.out W 9 e1 (by decide) hb);rw [show errOf 9= .iface 74 (.int .i64 9) from rfl] at HFe;have h64':(64:Int)≤(n:Int):=by omega
     have HC2:=hid hc2;clear hS hx h hmx hSA hSB e1 e6 hi HKe hn hc2;go_enter Tryz.func102,Tryz.ntmps102;go_wp2_with (go_at_call 96;(with_reducible refine HP.out.mono ?_);rintro e w1 ⟨rfl,hb⟩;have HB1:=hid (below_out hb (below_new w1 (.cells #[.string SA,.string SB] 155 (0,0))));have HK1:=hid (KBox.new w1 SA SB);clear hb HP);have hbD:Below w.heap.size w (w1.alloc (.cells #[.string SA,.string SB] 155 (0,0))).drew:=below_out HB1.out (below_drewH _ 1);obtain⟨cc,hS0b,_⟩:=HLk.out (w1.alloc (.cells #[.string SA,.string SB] 155 (0,0))).drew w1.heap.size (HH.out.next hbD) (HK1.out.next (below_drewH _ 1));obtain⟨b0,hb0⟩:∃ b0,w1.heap.size=b0:=⟨_,rfl⟩;rw [hb0] at hS0b ⊢;refine wp_region_noPanic ?_;refine any_begin 11 (by kernel_rfl) (by kernel_rfl) ?_;refine late_begin (fun U=>LkS U t b0 m SA SB (.tuple #[.int .i64 cc,.bool (none:Option Int).isSome])) (fun _=>false) hS0b (fun hS=>?_);refine ltk (i:=0) (some 23) rfl rfl (v:= ?v0b) ?hy0b hS ?rest0b
     case hy0b=>intro w0 hSw;obtain⟨a0,a1,a2,a3⟩:=hSw;go_simp;try with_reducible rfl
     simp only [Act.put,sA,sB,sC];refine ltk (i:=1) (some 24) rfl rfl (v:= ?v1b) ?hy1b hS ?rest1b
     case hy1b=>intro w0 hSw;obtain⟨a0,a1,a2,a3⟩:=hSw;go_simp;try with_reducible rfl
     simp only [Act.put,sA,sB,sC];refine ltk (i:=2) (some 25) rfl rfl (v:= ?v2b) ?hy2b hS ?rest2b
     case hy2b=>intro w0 hSw;obtain⟨a0,a1,a2,a3⟩:=hSw;go_simp;try with_reducible rfl
     simp only [Act.put,sA,sB,sC];refine ltk (i:=3) (some 26) rfl rfl (v:= ?v3b) ?hy3b hS ?rest3b
     case hy3b=>intro w0 hSw;obtain⟨a0,a1,a2,a3⟩:=hSw;go_simp;try with_reducible rfl
     simp only [Act.put,sA,sB,sC];refine ltk (i:=4) (some 27) rfl rfl (v:= ?v4b) ?hy4b hS ?rest4b
     case hy4b=>intro w0 hSw;obtain⟨a0,a1,a2,a3⟩:=hSw;go_simp;try with_reducible rfl
     simp only [Act.put,sA,sB,sC];refine late_take (i:=5) (some 28) rfl rfl (by kernel_rfl) (by kernel_rfl) (by kernel_rfl) (by kernel_rfl) (by kernel_rfl) (fun _ _ _ h=>h) (by rfl) (v:=.tuple #[.int .i64 cc,.bool (none:Option Int).isSome]) ?hy5b hS ?rest5b
     case hy5b=>intro w0 hSw;exact exec_look rfl rfl rfl hSw.look
     simp only [Act.put,sA,sB,sC];refine ltk (i:=6) (some 22) rfl rfl (v:= ?v6b) ?hy6b hS ?rest6b
     case hy6b=>intro w0 hSw;obtain⟨a0,a1,a2,a3⟩:=hSw;go_simp;try with_reducible rfl
     simp only [Act.put,sA,sB,sC];refine ltk (i:=7) (some 29) rfl rfl (v:= ?v7b) ?hy7b hS ?rest7b
     case hy7b=>intro w0 hSw;obtain⟨a0,a1,a2,a3⟩:=hSw;go_simp;try with_reducible rfl
     simp only [Act.put,sA,sB,sC];refine ltk (i:=8) (some 30) rfl rfl (v:= ?v8b) ?hy8b hS ?rest8b
     case hy8b=>intro w0 hSw;obtain⟨a0,a1,a2,a3⟩:=hSw;go_simp;try with_reducible rfl
     simp only [Act.put,sA,sB,sC];refine ltk (i:=9) (some 9) rfl rfl (v:= ?v9b) ?hy9b hS ?rest9b
     case hy9b=>intro w0 hSw;obtain⟨a0,a1,a2,a3⟩:=hSw;go_simp;try with_reducible rfl
     simp only [Act.put,sA,sB,sC];refine ltk (i:=10) (some 10) rfl rfl (v:= ?v10b) ?hy10b hS ?rest10b
     case hy10b=>intro w0 hSw;obtain⟨a0,a1,a2,a3⟩:=hSw;go_simp;try with_reducible rfl
     simp only [Act.put,sA,sB,sC];refine late_done (by kernel_rfl) ?_ _;refine NoPanic.normal ?_;have hc3:=cell_keep hbD HC2.out;go_wp2;go_ret;exact HFe.out _ hbD
   · have e1:addE P p=0:=by unfold addE;rw [hx,e6];simp;rw [hn];omega
     have h64':¬(64:Int)≤(n:Int):=by omega
     have HC2:=hid hc2;have HN:=hid hn;have HE:=hid e1;have HLo:=hid (fun W:World=>below_low p W (pat_short hx));rw [hS] at HLo;have HNo:=hid hi;obtain⟨SL,hSL⟩:∃ S,str (lowH p)=S:=⟨_,rfl⟩;have HSL:=hid hSL;rw [hSL] at HLo;clear hS hx h hmx hSA hSB e1 e6 hi hn hc2 hSL;go_enter Tryz.func102,Tryz.ntmps102;go_wp2_with (go_at_call 96;(with_reducible refine HP.out.mono ?_);rintro e w1 ⟨rfl,hb⟩;have HB1:=hid (below_out hb (below_new w1 (.cells #[.string SA,.string SB] 155 (0,0))));have HK1:=hid (KBox.new w1 SA SB);clear hb HP);have hbD:Below w.heap.size w (w1.alloc (.cells #[.string SA,.string SB] 155 (0,0))).drew:=below_out HB1.out (below_drewH _ 1);obtain⟨cc,hS0c,_⟩:=HLk.out (w1.alloc (.cells #[.string SA,.string SB] 155 (0,0))).drew w1.heap.size (HH.out.next hbD) (HK1.out.next (below_drewH _ 1));obtain⟨b0,hb0⟩:∃ b0,w1.heap.size=b0:=⟨_,rfl⟩;have HKD:=hid (show KBox (w1.alloc (.cells #[.string SA,.string SB] 155 (0,0))).drew w1.heap.size SA SB from HK1.out.next (below_drewH _ 1));rw [hb0] at hS0c HKD ⊢;refine wp_region_noPanic ?_;refine any_begin 11 (by kernel_rfl) (by kernel_rfl) ?_;refine late_begin (fun U=>LkS U t b0 m SA SB (.tuple #[.int .i64 cc,.bool (none:Option Int).isSome])) (fun _=>false) hS0c (fun hS=>?_);refine ltk (i:=0) (some 23) rfl rfl (v:= ?v0c) ?hy0c hS ?rest0c
     case hy0c=>intro w0 hSw;obtain⟨a0,a1,a2,a3⟩:=hSw;go_simp;try with_reducible rfl
     simp only [Act.put,sA,sB,sC];refine ltk (i:=1) (some 24) rfl rfl (v:= ?v1c) ?hy1c hS ?rest1c
     case hy1c=>intro w0 hSw;obtain⟨a0,a1,a2,a3⟩:=hSw;go_simp;try with_reducible rfl
     simp only [Act.put,sA,sB,sC];refine ltk (i:=2) (some 25) rfl rfl (v:= ?v2c) ?hy2c hS ?rest2c
     case hy2c=>intro w0 hSw;obtain⟨a0,a1,a2,a3⟩:=hSw;go_simp;try with_reducible rfl
     simp only [Act.put,sA,sB,sC];refine ltk (i:=3) (some 26) rfl rfl (v:= ?v3c) ?hy3c hS ?rest3c
     case hy3c=>intro w0 hSw;obtain⟨a0,a1,a2,a3⟩:=hSw;go_simp;try with_reducible rfl
     simp only [Act.put,sA,sB,sC];refine ltk (i:=4) (some 27) rfl rfl (v:= ?v4c) ?hy4c hS ?rest4c
     case hy4c=>intro w0 hSw;obtain⟨a0,a1,a2,a3⟩:=hSw;go_simp;try with_reducible rfl
     simp only [Act.put,sA,sB,sC];refine late_take (i:=5) (some 28) rfl rfl (by kernel_rfl) (by kernel_rfl) (by kernel_rfl) (by kernel_rfl) (by kernel_rfl) (fun _ _ _ h=>h) (by rfl) (v:=.tuple #[.int .i64 cc,.bool (none:Option Int).isSome]) ?hy5c hS ?rest5c
     case hy5c=>intro w0 hSw;exact exec_look rfl rfl rfl hSw.look
     simp only [Act.put,sA,sB,sC];refine ltk (i:=6) (some 22) rfl rfl (v:= ?v6c) ?hy6c hS ?rest6c
     case hy6c=>intro w0 hSw;obtain⟨a0,a1,a2,a3⟩:=hSw;go_simp;try with_reducible rfl
     simp only [Act.put,sA,sB,sC];refine ltk (i:=7) (some 29) rfl rfl (v:= ?v7c) ?hy7c hS ?rest7c
     case hy7c=>intro w0 hSw;obtain⟨a0,a1,a2,a3⟩:=hSw;go_simp;try with_reducible rfl
     simp only [Act.put,sA,sB,sC];refine ltk (i:=8) (some 30) rfl rfl (v:= ?v8c) ?hy8c hS ?rest8c
     case hy8c=>intro w0 hSw;obtain⟨a0,a1,a2,a3⟩:=hSw;go_simp;try with_reducible rfl
     simp only [Act.put,sA,sB,sC];refine ltk (i:=9) (some 9) rfl rfl (v:= ?v9c) ?hy9c hS ?rest9c
     case hy9c=>intro w0 hSw;obtain⟨a0,a1,a2,a3⟩:=hSw;go_simp;try with_reducible rfl
     simp only [Act.put,sA,sB,sC];refine ltk (i:=10) (some 10) rfl rfl (v:= ?v10c) ?hy10c hS ?rest10c
     case hy10c=>intro w0 hSw;obtain⟨a0,a1,a2,a3⟩:=hSw;go_simp;try with_reducible rfl
     simp only [Act.put,sA,sB,sC];refine late_done (by kernel_rfl) ?_ _;refine NoPanic.normal ?_;have hc3:=cell_keep hbD HC2.out;have HTD:=hid (HH.out.next hbD);have HBD:=hid hbD;obtain⟨D,hD⟩:∃ D,(w1.alloc (.cells #[.string SA,.string SB] 155 (0,0))).drew=D:=⟨_,rfl⟩;rw [hD] at HTD hc3 HBD HKD ⊢;have HKe2:=hid (HKe.out D HTD.out HNo.out);obtain⟨he0,he1⟩:=HKD.out.cells;clear hbD hb0 hD HKe HLk HK1 HB1;go_wp2_with (go_at_call 136;(with_reducible refine HKe2.out.mono ?_);rintro e w5 ⟨rfl,m5,v5,L5,hT5,hG5⟩;have HT5:=hid hT5;have HG5:=hid hG5;clear hT5 hG5 HKe2);have HTX:=hid (HT5.out.next (below_drewH w5 1));have HGX:=hid (HG5.out.trans (GrowF.below _ (below_drewH w5 1)));obtain⟨X,hX⟩:∃ X,w5.drewN 1=X:=⟨_,rfl⟩;have hX2:w5.drew=X:=hX;rw [hX] at HTX HGX;have hS0d:X.cell? ⟨t,2,none⟩=some (.slice p2 n c2):=HTX.out.cells.2.2.1;refine wp_region_noPanic ?_;refine any_begin 12 (by kernel_rfl) (by kernel_rfl) ?_;rw [hX2];refine late_begin (fun U=>U.cell? ⟨t,2,none⟩=some (.slice p2 n c2)) (fun i=>i== 11) hS0d (fun hS=>?_);refine ltk (i:=0) (some 44) rfl rfl (v:= ?v0d) ?hy0d hS ?rest0d
     case hy0d=>intro w0 hSw;go_simp;try with_reducible rfl
     simp only [Act.put,sA,sB,sC];refine ltk (i:=1) (some 45) rfl rfl (v:= ?v1d) ?hy1d hS ?rest1d
     case hy1d=>intro w0 hSw;go_simp;try with_reducible rfl
     simp only [Act.put,sA,sB,sC];refine ltk (i:=2) (some 46) rfl rfl (v:= ?v2d) ?hy2d hS ?rest2d
     case hy2d=>intro w0 hSw;go_simp;try with_reducible rfl
     simp only [Act.put,sA,sB,sC];refine ltk (i:=3) (some 47) rfl rfl (v:= ?v3d) ?hy3d hS ?rest3d
     case hy3d=>intro w0 hSw;go_simp;try with_reducible rfl
     simp only [Act.put,sA,sB,sC];refine ltk (i:=4) (some 48) rfl rfl (v:= ?v4d) ?hy4d hS ?rest4d
     case hy4d=>intro w0 hSw;go_simp;try with_reducible rfl
     simp only [Act.put,sA,sB,sC];refine ltk (i:=5) (some 49) rfl rfl (v:= ?v5d) ?hy5d hS ?rest5d
     case hy5d=>intro w0 hSw;go_simp;try with_reducible rfl
     simp only [Act.put,sA,sB,sC];refine wpAnyD_one (i:=6) (by kernel_rfl) rfl (fun K hK=>?_);go_simp;go_at_call 100
     (with_reducible refine(HLo.out _).mono ?_)
     rintro e w6 ⟨rfl,hb6⟩;have hnv:=below_out hb6 (below_new w6 (.cells #[.string SL] 9 (0,0)));have HTY:=hid (HTX.out.next hnv);have HGY:=hid (HGX.out.trans (GrowF.below _ hnv));have hS1d:w6.cell? ⟨t,2,none⟩=some (.slice p2 n c2):=cell_keep hb6 hS0d;have hS2d:(w6.alloc (.cells #[.string SL] 9 (0,0))).cell? ⟨t,2,none⟩=some (.slice p2 n c2):=HTY.out.cells.2.2.1;clear hb6 hnv;refine hK _ _ ⟨fun _=>hS1d,?_⟩;clear hK K;try simp only [Act.put,sA,sB,sC]
     refine wpAnyD_one (i:=7) (by kernel_rfl) rfl (fun K hK=>?_);go_simp;refine hK _ _ ⟨fun _=>hS2d,?_⟩;clear hK K;try simp only [Act.put,sA,sB,sC]
     refine wpAnyD_one (i:=8) (by kernel_rfl) rfl (fun K hK=>?_);rw [if_pos (by rfl)];refine wp_append_own_at (.tmp 48) (.tmp 51) 36 rfl 0 9 j0 _ 1 16 Tryz.underlying36 hj0 hy0 hy1 hy2 rfl (by decide) (.slice p2 n c2) n (strC (P.map (·.1))) (by go_simp) (by have h8:=HTY.out.al;unfold OwnS at h8;rw [List.length_map,HN.out] at h8;exact h8) ⟨w6.heap.size,0,none⟩ 1 1 [.string SL] (by go_simp) rfl (cells_new w6 _ _) (by simp [Value.oneCell']) (by unfold maxLen;omega) (by omega) (Nat.zero_le _) ?_;intro v7 w7 hown hgr hvv;obtain⟨p7,L7,c7,rfl⟩:=own_slice3 hown;have HO7:=hid (show OwnS w7 0 (.slice p7 L7 c7) (P.map (·.1)++ [lowH p]) from OwnS.put (by rw [List.length_map,HN.out,HSL.out];exact hown));have HG7:=hid hgr;have HV7:=hid hvv;have hbt:=(hgr.block t (lt_of_heap HTY.out.bx) (fun e=>HTY.out.ne2 e.symm)).trans HTY.out.bx;have hS3d:w7.cell? ⟨t,2,none⟩=some (.slice p2 n c2):=(box3 hbt).2.2.1;have hfz7:=(box3 hbt).2.2.2 2;clear hown hgr hvv hbt;refine hK _ _ ⟨fun _=>hS3d,?_⟩;clear hK K;simp only [Act.put,sA];refine wpAnyD_one (i:=9) (by kernel_rfl) rfl (fun K hK=>?_);go_simp;refine hK _ _ ⟨fun _=>hS3d,?_⟩;clear hK K;try simp only [Act.put,sA,sB,sC]
     refine wpAnyD_one (i:=10) (by kernel_rfl) rfl (fun K hK=>?_);go_simp;refine hK _ _ ⟨fun _=>hS3d,?_⟩;clear hK K;try simp only [Act.put,sA,sB,sC]
     refine wpAnyD_one (i:=11) (by kernel_rfl) rfl (fun K hK=>?_);rw [if_pos (by rfl)];go_simp;refine hK _ _ ⟨fun h=>(by cases h),?_⟩;clear hK K;try simp only [Act.put,sA,sB,sC]
     refine late_done (by kernel_rfl) ?_ _;refine NoPanic.normal ?_;go_wp2;go_ret;obtain⟨Y,hY⟩:∃ Y,w6.alloc (.cells #[.string SL] 9 (0,0))=Y:=⟨_,rfl⟩;rw [hY] at HTY HGY HG7 HV7;have hvv:(Value.slice p7 L7 c7).ownBlock=(Value.slice p2 n c2).ownBlock∨∃ g,(Value.slice p7 L7 c7).ownBlock=some g∧Y.heap.size≤g:=HV7.out.imp (fun e=>e) (fun e=>⟨_,e,Nat.le_refl _⟩);have hfin:=HTY.out.text HO7.out (kept_grown HG7.out) hvv;refine⟨by rw [HE.out];rfl,m5,v5,.slice p7 L7 c7,L5,?_,?_⟩
     · rw [show addP P p id=P++ [(lowH p,id)] from by unfold addP;rw [HE.out,if_pos rfl]];exact HH.out.more HX.out HNo.out (by rw [HN.out];omega) hfin
     · refine(GrowF.below _ HBD.out).trans (HGY.out.trans ⟨((kept_grown HG7.out).mono (fun i _ e=>.inr (.inr (.inr e)))).trans (kept_set w7 t 2 _) (fun i _ e=>.inl e),fun i hi=>?_⟩);rcases hi with e|e|e|e
       · exact .inl (.inl e)
       · exact .inl (.inr (.inl e))
       · exact .inl (.inr (.inr (.inl e)))
       · rcases HV7.out with e1|e1
         · rw [e1] at e;exact .inl (.inr (.inr (.inr e)))
         · rw [e1] at e;injection e with e;exact .inr (by omega)
end Go.Proofs.YtlmlljlappjjjaaGreatDoor
