/- Lists of texts, plain: read one by one. -/
import Derived.Test.YtlmefgjhbohjlaaGreatDoorWWord
namespace Go.Proofs.YtlmefgjhbohjlaaGreatDoor
set_option maxRecDepth 20000
set_option maxHeartbeats 16000000
theorem at_part {t:JV}{p:B}{b:Bool}{tx:B}{n:Int}{hh:Bool}{ls:List JV}{ns:List B} (h:atV t p=some (.mk 5 b tx n hh ls ns)) (hl:ls.length≤1099511627776) {i:Nat} (hi:i<ls.length):atV t (behindC p (numC i))=some ls[i]:=by
 rw [at_behind t p (step_num i),h];show child (.mk 5 b tx n hh ls ns) (numC i)=_;unfold child;rw [place_list (step_num i).1];unfold numC;rw [numAt_of hi hl];show ls[i]?=_;rw [List.getElem?_eq_getElem hi]
theorem textM_kind {t y:JV}{q:B} (h:atV t q=some y):textM t q none=if y.kind=4 then (y.text,none) else ((textM t q none).1,some q):=by
 unfold textM textE;rw [h];unfold ofKind;dsimp only;by_cases hk:y.kind=4
 · simp [hk]
 · simp [hk,failM]
theorem texts_loop {t:JV}{p:B}{b:Bool}{tx:B}{n:Int}{hh:Bool}{ls:List JV}{ns:List B} (h:atV t p=some (.mk 5 b tx n hh ls ns)) (hl:ls.length≤1099511627776):∀ (k i:Nat) (acc:List B),k+i=ls.length→
  match (ls.drop i).findIdx? (fun x=>decide (x.kind≠4)) with
  |none=>loopM (textM t) p k i acc none=(acc++(ls.drop i).map JV.text,none)
  |some j=>(loopM (textM t) p k i acc none).2=some (behindC p (numC (i+j)))
 |0,i,acc,hk=>by
  rw [show ls.drop i= [] from List.drop_eq_nil_iff.2 (by omega)];simp [loopM]
 |k+1,i,acc,hk=>by
  have hi:i<ls.length:=by omega
  have hs:loopM (textM t) p (k+1) i acc none=loopM (textM t) p k (i+1) (acc++ [(textM t (behindC p (numC i)) none).1]) (textM t (behindC p (numC i)) none).2:=by
   show (if (none:Option B)=none then _ else _)=_;rw [if_pos rfl]
  rw [hs,List.drop_eq_getElem_cons hi,List.findIdx?_cons];have ht:=textM_kind (at_part h hl hi);by_cases hk4:ls[i].kind=4
  · rw [if_pos hk4] at ht;rw [ht];have ih:=texts_loop h hl k (i+1) (acc++ [ls[i].text]) (by omega);simp only [hk4,ne_eq,not_true_eq_false,decide_false,Bool.false_eq_true,if_false];cases hf:List.findIdx? (fun x=>decide (x.kind≠4)) (ls.drop (i+1)) with
    |none=>
     rw [hf] at ih;dsimp only at ih;simp only [Option.map_none];rw [ih,List.map_cons,List.append_assoc];rfl
    |some j=>
     rw [hf] at ih;dsimp only at ih;simp only [Option.map_some];rw [ih,show i+1+j=i+(j+1) by omega]
  · rw [if_neg hk4] at ht;simp only [ne_eq,hk4,not_false_eq_true,decide_true,if_true];rw [show (textM t (behindC p (numC i)) none).2=some (behindC p (numC i)) from by rw [ht],loopM_some];rfl
theorem texts_list {t:JV}{p:B}{z:Option B} (hf:Fits_k t):(listD (textM t) t p z).2=(textsM t p z).2∧((textsM t p z).2=none→(listD (textM t) t p z).1=(textsM t p z).1):=by
 unfold listD textsM;cases ha:atV t p with
 |none=>simp
 |some x=>
  rw [if_neg (by simp)];obtain⟨k,b,tx,n,hh,ls,ns⟩:=x;have hx:=fits_goto _ _ _ hf (show goto t (steps p)=some _ from ha);have hl:ls.length≤1099511627776:=by unfold Fits_k at hx;have h2:=hx.2.1;unfold maxI_k at h2;omega
  unfold listM manyM;rw [ha];dsimp only;by_cases h5:k=5
  · subst h5;rw [if_pos (show (JV.mk 5 b tx n hh ls ns).kind=5 from rfl),if_neg (show ¬(JV.mk 5 b tx n hh ls ns).kind≠5 from by simp [JV.kind])];show (loopM (textM t) p ls.length 0 [] z).2=_∧_;cases z with
    |some q=>
     rw [loopM_some];unfold oddN;split <;> simp [failM]
    |none=>
     have h1:=texts_loop ha hl ls.length 0 [] (by omega);rw [List.drop_zero] at h1;unfold oddN;show _=(match List.findIdx? (fun x=>decide (x.kind≠4)) ls with|none=>_|some i=>_:List B×Option B).2∧((match List.findIdx? (fun x=>decide (x.kind≠4)) ls with|none=>_|some i=>_:List B×Option B).2=none→_=(match List.findIdx? (fun x=>decide (x.kind≠4)) ls with|none=>_|some i=>_:List B×Option B).1);cases hf2:List.findIdx? (fun x=>decide (x.kind≠4)) ls with
     |none=>
      rw [hf2] at h1;dsimp only at h1 ⊢;show (loopM (textM t) p ls.length 0 [] none).2=none∧(_→(loopM (textM t) p ls.length 0 [] none).1=ls.map JV.text);rw [h1];simp
     |some j=>
      rw [hf2] at h1;dsimp only at h1 ⊢;show (loopM (textM t) p ls.length 0 [] none).2=some (behindC p (numC j))∧_;rw [h1,Nat.zero_add];simp [failM]
  · rw [if_neg (show ¬(JV.mk k b tx n hh ls ns).kind=5 from h5),if_pos (show (JV.mk k b tx n hh ls ns).kind≠5 from h5)];simp [loopM]
open Go.RowKit
structure Cells5b (w:World) (g:Nat) (a b c d e:Value):Prop where
 c0:w.cell? ⟨g,0,none⟩=some a
 c1:w.cell? ⟨g,1,none⟩=some b
 c2:w.cell? ⟨g,2,none⟩=some c
 c3:w.cell? ⟨g,3,none⟩=some d
 c4:w.cell? ⟨g,4,none⟩=some e
theorem cells5b {w:World}{g:Nat}{a b c d e:Value}{T:TypeId} (H:w.heap[g]?=some (.cells #[a,b,c,d,e] T (0,0))):Cells5b w g a b c d e:=by
 refine⟨?_,?_,?_,?_,?_⟩ <;> simp [World.cell?,H]
theorem pback_of (g:Nat) (t:JV) (cs:List Value) (z:Option B) (p:B) (X:ByteArray) (hX:X=str p) (hp0:p≠ []) (hp:p.length≤1000) (w:World) (h:RdS_v w g t cs z):Calls Tryz.prog 129 #[.pointer (some ⟨g,0,none⟩),.string X] w fun e w'=>e= .returned (.agg #[.string (str (backM t p z).1.addr),.int .i64 (backM t p z).1.wt])∧RdS_v w' g t cs (backM t p z).2∧Tg g w w':=by
 obtain⟨A0,hA0⟩:∃ A,A=((w.alloc (.cells #[.string ⟨#[]⟩,.int .i64 0] 145 (0,0))).alloc (.cells #[.string ⟨#[97,100,100,114]⟩,.string ⟨#[119,101,105,103,104,116]⟩] 9 (0,0))):=⟨_,rfl⟩;have hA:=two_new_v w (.cells #[.string ⟨#[]⟩,.int .i64 0] 145 (0,0)) (.cells #[.string ⟨#[97,100,100,114]⟩,.string ⟨#[119,101,105,103,104,116]⟩] 9 (0,0));rw [←hA0] at hA;have HA0:=hid hA0;have HB0:=hid hA.1;have HZ0:=hid hA.2.1;have HLg:=hid h.lt;have hb0:=hA.1;have HOb:=hid (show Calls Tryz.prog 60 #[.pointer (some ⟨g,0,none⟩),.string X,.slice (some ⟨w.heap.size+1,0,none⟩) 2 2] A0 _ from pobject_of g t cs z p X hX (by omega) [n_addr,n_weight] (by decide) (by decide) (some ⟨w.heap.size+1,0,none⟩) 2 A0 (h.next hb0) (names_row (ns:=[n_addr,n_weight]) hA.2.2));unfold backM;obtain⟨z0,e0⟩:∃ r,objM t p [n_addr,n_weight] z=r:=⟨_,rfl⟩;rw [e0] at HOb;obtain⟨⟨v1,z1⟩,e1⟩:∃ r,textM t (behindC p n_addr) z0=r:=⟨_,rfl⟩;have HC1:=hid (fun (X1:ByteArray) (hX1:X1=str (behindC p n_addr)) (W:World) (hr:RdS_v W g t cs z0)=>ptext_of g t cs z0 (behindC p n_addr) X1 hX1 (by have:=(path_len n_addr hp0 1000 hp (by decide));omega) W hr);rw [e1] at HC1;have HP1:=hid (path_str (S:=X) n_addr hp0 hX.symm);rw [show str (46::n_addr)=(⟨#[46,97,100,100,114]⟩:ByteArray) from rfl] at HP1;obtain⟨⟨v2,z2⟩,e2⟩:∃ r,intD t (behindC p n_weight) 1 z1=r:=⟨_,rfl⟩;have HC2:=hid (fun (X2:ByteArray) (hX2:X2=str (behindC p n_weight)) (W:World) (hr:RdS_v W g t cs z1)=>pnumberOr_of g t cs z1 (behindC p n_weight) X2 hX2 (by have:=(path_len n_weight hp0 1000 hp (by decide));omega) (1) W hr);rw [e2] at HC2;have HP2:=hid (path_str (S:=X) n_weight hp0 hX.symm);rw [show str (46::n_weight)=(⟨#[46,119,101,105,103,104,116]⟩:ByteArray) from rfl] at HP2;dsimp only at HC1 HC2;simp only [e0,e1,e2];have g1:X.size≤1024:=by rw [hX,str_size];omega
 clear h hX hA hA0 hb0 hp hp0 e0 e1 e2;go_enter Tryz.func129,Tryz.ntmps129;go_wp2_with (first
  |(go_at_call 60;rw [←HA0.out];(with_reducible refine HOb.out.mono ?_);rintro e w1 ⟨rfl,hr1,ht1⟩;have HS1:=hid (RW.new (o4:=.cells #[.string ⟨#[]⟩,.int .i64 0] 145 (0,0)) hr1 ((tg_of HB0.out).on ht1) ((ht1.block w.heap.size (lt_of_heap HZ0.out) (Nat.ne_of_gt HLg.out)).trans HZ0.out) (Nat.le_refl _) HLg.out (.cells #[.string ⟨#[]⟩,.int .i64 0] 145 (0,0)));have hlt:w.heap.size<w1.heap.size:=HS1.out.ne;clear hr1 ht1)
  |(go_at_call 126;(with_reducible refine(HC1.out _ HP1.out _ HS1.out.rd).mono ?_);rintro e w2 ⟨rfl,hr,ht⟩;have hq:=HS1.out.call hr ht;(try clear y0 y1 yf);obtain⟨y0,y1⟩:=cells2 hq.h5;have yf:=frozen_of_row w2 w1.heap.size 0 _ _ hq.h5;have HS2:=hid (show RW w (w2.setCell ⟨w1.heap.size,0,none⟩ (.string (str v1))) g t cs z1 w.heap.size w1.heap.size (.cells #[.string ⟨#[]⟩,.int .i64 0] 145 (0,0)) (.cells #[.string (str v1),.int .i64 0] 145 (0,0)) from hq.put5 0 [.string (str v1)]);clear HS1 hr ht hq)
  |(go_at_call 68;(with_reducible refine(HC2.out _ HP2.out _ HS2.out.rd).mono ?_);rintro e w3 ⟨rfl,hr,ht⟩;have hq:=HS2.out.call hr ht;(try clear y0 y1 yf);obtain⟨y0,y1⟩:=cells2 hq.h5;have yf:=frozen_of_row w3 w1.heap.size 1 _ _ hq.h5;obtain⟨x0,x1⟩:=cells2 hq.h4;have xf0:=frozen_of_row w3 w.heap.size 0 _ _ hq.h4;have xf1:=frozen_of_row w3 w.heap.size 1 _ _ hq.h4;have HF:=hid ((hq.put5 1 [.int .i64 v2]).put4 0 [.string (str v1),.int .i64 v2]);clear HS2 hr ht hq))
 refine bodyPost_ret (results_cell_row rfl _ _ w.heap.size 145 _ (0,0) _ rfl HF.out.h4 Tryz.underlying145 rfl rfl) rfl ?_;exact⟨rfl,HF.out.rd,HF.out.tg⟩
def breakB (v:JV) (p:B) (z:Option B):(Int×Int)×Option B:=
 let a:=intM v (behindC p n_fails) (objM v p [n_fails,n_open] z)
 let b:=intM v (behindC p n_open) a.2
 ((a.1,b.1),b.2)
theorem breakM_eq (v:JV) (p:B) (z:Option B):breakM v p z=if atV v p=none then ((0,0),z) else breakB v p z:=rfl
def probeB (v:JV) (p:B) (z:Option B):ProbeC×Option B:=
 let a:=textM v (behindC p n_path) (objM v p [n_path,n_every,n_timeout,n_rise,n_fall] z)
 let b:=intM v (behindC p n_every) a.2
 let c:=intM v (behindC p n_timeout) b.2
 let d:=intM v (behindC p n_rise) c.2
 let e:=intM v (behindC p n_fall) d.2
 (⟨a.1,b.1,c.1,d.1,e.1⟩,e.2)
theorem probeM_eq (v:JV) (p:B) (z:Option B):probeM v p z=if atV v p=none then (⟨[],0,0,0,0⟩,z) else probeB v p z:=rfl
theorem pbreaker_of (g:Nat) (t:JV) (cs:List Value) (z:Option B) (p:B) (X:ByteArray) (hX:X=str p) (hp0:p≠ []) (hp:p.length≤1000) (w:World) (h:RdS_v w g t cs z):Calls Tryz.prog 132 #[.pointer (some ⟨g,0,none⟩),.string X] w fun e w'=>e= .returned (.agg #[.int .i64 (breakB t p z).1.1,.int .i64 (breakB t p z).1.2])∧RdS_v w' g t cs (breakB t p z).2∧Tg g w w':=by
 obtain⟨A0,hA0⟩:∃ A,A=((w.alloc (.cells #[.int .i64 0,.int .i64 0] 79 (0,0))).alloc (.cells #[.string ⟨#[102,97,105,108,115]⟩,.string ⟨#[111,112,101,110]⟩] 9 (0,0))):=⟨_,rfl⟩;have hA:=two_new_v w (.cells #[.int .i64 0,.int .i64 0] 79 (0,0)) (.cells #[.string ⟨#[102,97,105,108,115]⟩,.string ⟨#[111,112,101,110]⟩] 9 (0,0));rw [←hA0] at hA;have HA0:=hid hA0;have HB0:=hid hA.1;have HZ0:=hid hA.2.1;have HLg:=hid h.lt;have hb0:=hA.1;have HOb:=hid (show Calls Tryz.prog 60 #[.pointer (some ⟨g,0,none⟩),.string X,.slice (some ⟨w.heap.size+1,0,none⟩) 2 2] A0 _ from pobject_of g t cs z p X hX (by omega) [n_fails,n_open] (by decide) (by decide) (some ⟨w.heap.size+1,0,none⟩) 2 A0 (h.next hb0) (names_row (ns:=[n_fails,n_open]) hA.2.2));unfold breakB;obtain⟨z0,e0⟩:∃ r,objM t p [n_fails,n_open] z=r:=⟨_,rfl⟩;rw [e0] at HOb;obtain⟨⟨v1,z1⟩,e1⟩:∃ r,intM t (behindC p n_fails) z0=r:=⟨_,rfl⟩;have HC1:=hid (fun (X1:ByteArray) (hX1:X1=str (behindC p n_fails)) (W:World) (hr:RdS_v W g t cs z0)=>pnumber_of g t cs z0 (behindC p n_fails) X1 hX1 (by have:=(path_len n_fails hp0 1000 hp (by decide));omega) W hr);rw [e1] at HC1;have HP1:=hid (path_str (S:=X) n_fails hp0 hX.symm);rw [show str (46::n_fails)=(⟨#[46,102,97,105,108,115]⟩:ByteArray) from rfl] at HP1;obtain⟨⟨v2,z2⟩,e2⟩:∃ r,intM t (behindC p n_open) z1=r:=⟨_,rfl⟩;have HC2:=hid (fun (X2:ByteArray) (hX2:X2=str (behindC p n_open)) (W:World) (hr:RdS_v W g t cs z1)=>pnumber_of g t cs z1 (behindC p n_open) X2 hX2 (by have:=(path_len n_open hp0 1000 hp (by decide));omega) W hr);rw [e2] at HC2;have HP2:=hid (path_str (S:=X) n_open hp0 hX.symm);rw [show str (46::n_open)=(⟨#[46,111,112,101,110]⟩:ByteArray) from rfl] at HP2;dsimp only at HC1 HC2;simp only [e0,e1,e2];have g1:X.size≤1024:=by rw [hX,str_size];omega
 clear h hX hA hA0 hb0 hp hp0 e0 e1 e2;go_enter Tryz.func132,Tryz.ntmps132;go_wp2_with (first
  |(go_at_call 60;rw [←HA0.out];(with_reducible refine HOb.out.mono ?_);rintro e w1 ⟨rfl,hr1,ht1⟩;have HS1:=hid (RW.new (o4:=.cells #[.int .i64 0,.int .i64 0] 79 (0,0)) hr1 ((tg_of HB0.out).on ht1) ((ht1.block w.heap.size (lt_of_heap HZ0.out) (Nat.ne_of_gt HLg.out)).trans HZ0.out) (Nat.le_refl _) HLg.out (.cells #[.int .i64 0,.int .i64 0] 79 (0,0)));have hlt:w.heap.size<w1.heap.size:=HS1.out.ne;clear hr1 ht1)
  |(go_at_call 137;(with_reducible refine(HC1.out _ HP1.out _ HS1.out.rd).mono ?_);rintro e w2 ⟨rfl,hr,ht⟩;have hq:=HS1.out.call hr ht;(try clear y0 y1 yf);obtain⟨y0,y1⟩:=cells2 hq.h5;have yf:=frozen_of_row w2 w1.heap.size 0 _ _ hq.h5;have HS2:=hid (show RW w (w2.setCell ⟨w1.heap.size,0,none⟩ (.int .i64 v1)) g t cs z1 w.heap.size w1.heap.size (.cells #[.int .i64 0,.int .i64 0] 79 (0,0)) (.cells #[.int .i64 v1,.int .i64 0] 79 (0,0)) from hq.put5 0 [.int .i64 v1]);clear HS1 hr ht hq)
  |(go_at_call 137;(with_reducible refine(HC2.out _ HP2.out _ HS2.out.rd).mono ?_);rintro e w3 ⟨rfl,hr,ht⟩;have hq:=HS2.out.call hr ht;(try clear y0 y1 yf);obtain⟨y0,y1⟩:=cells2 hq.h5;have yf:=frozen_of_row w3 w1.heap.size 1 _ _ hq.h5;obtain⟨x0,x1⟩:=cells2 hq.h4;have xf0:=frozen_of_row w3 w.heap.size 0 _ _ hq.h4;have xf1:=frozen_of_row w3 w.heap.size 1 _ _ hq.h4;have HF:=hid ((hq.put5 1 [.int .i64 v2]).put4 0 [.int .i64 v1,.int .i64 v2]);clear HS2 hr ht hq))
 refine bodyPost_ret (results_cell_row rfl _ _ w.heap.size 79 _ (0,0) _ rfl HF.out.h4 Tryz.underlying79 rfl rfl) rfl ?_;exact⟨rfl,HF.out.rd,HF.out.tg⟩
theorem pprobe_of (g:Nat) (t:JV) (cs:List Value) (z:Option B) (p:B) (X:ByteArray) (hX:X=str p) (hp0:p≠ []) (hp:p.length≤1000) (w:World) (h:RdS_v w g t cs z):Calls Tryz.prog 133 #[.pointer (some ⟨g,0,none⟩),.string X] w fun e w'=>e= .returned (.agg #[.string (str (probeB t p z).1.path),.int .i64 (probeB t p z).1.every,.int .i64 (probeB t p z).1.timeout,.int .i64 (probeB t p z).1.rise,.int .i64 (probeB t p z).1.fall])∧RdS_v w' g t cs (probeB t p z).2∧Tg g w w':=by
 obtain⟨A0,hA0⟩:∃ A,A=((w.alloc (.cells #[.string ⟨#[]⟩,.int .i64 0,.int .i64 0,.int .i64 0,.int .i64 0] 81 (0,0))).alloc (.cells #[.string ⟨#[112,97,116,104]⟩,.string ⟨#[101,118,101,114,121]⟩,.string ⟨#[116,105,109,101,111,117,116]⟩,.string ⟨#[114,105,115,101]⟩,.string ⟨#[102,97,108,108]⟩] 9 (0,0))):=⟨_,rfl⟩;have hA:=two_new_v w (.cells #[.string ⟨#[]⟩,.int .i64 0,.int .i64 0,.int .i64 0,.int .i64 0] 81 (0,0)) (.cells #[.string ⟨#[112,97,116,104]⟩,.string ⟨#[101,118,101,114,121]⟩,.string ⟨#[116,105,109,101,111,117,116]⟩,.string ⟨#[114,105,115,101]⟩,.string ⟨#[102,97,108,108]⟩] 9 (0,0));rw [←hA0] at hA;have HA0:=hid hA0;have HB0:=hid hA.1;have HZ0:=hid hA.2.1;have HLg:=hid h.lt;have hb0:=hA.1;have HOb:=hid (show Calls Tryz.prog 60 #[.pointer (some ⟨g,0,none⟩),.string X,.slice (some ⟨w.heap.size+1,0,none⟩) 5 5] A0 _ from pobject_of g t cs z p X hX (by omega) [n_path,n_every,n_timeout,n_rise,n_fall] (by decide) (by decide) (some ⟨w.heap.size+1,0,none⟩) 5 A0 (h.next hb0) (names_row (ns:=[n_path,n_every,n_timeout,n_rise,n_fall]) hA.2.2));unfold probeB;obtain⟨z0,e0⟩:∃ r,objM t p [n_path,n_every,n_timeout,n_rise,n_fall] z=r:=⟨_,rfl⟩;rw [e0] at HOb;obtain⟨⟨v1,z1⟩,e1⟩:∃ r,textM t (behindC p n_path) z0=r:=⟨_,rfl⟩;have HC1:=hid (fun (X1:ByteArray) (hX1:X1=str (behindC p n_path)) (W:World) (hr:RdS_v W g t cs z0)=>ptext_of g t cs z0 (behindC p n_path) X1 hX1 (by have:=(path_len n_path hp0 1000 hp (by decide));omega) W hr);rw [e1] at HC1;have HP1:=hid (path_str (S:=X) n_path hp0 hX.symm);rw [show str (46::n_path)=(⟨#[46,112,97,116,104]⟩:ByteArray) from rfl] at HP1;obtain⟨⟨v2,z2⟩,e2⟩:∃ r,intM t (behindC p n_every) z1=r:=⟨_,rfl⟩;have HC2:=hid (fun (X2:ByteArray) (hX2:X2=str (behindC p n_every)) (W:World) (hr:RdS_v W g t cs z1)=>pnumber_of g t cs z1 (behindC p n_every) X2 hX2 (by have:=(path_len n_every hp0 1000 hp (by decide));omega) W hr);rw [e2] at HC2;have HP2:=hid (path_str (S:=X) n_every hp0 hX.symm);rw [show str (46::n_every)=(⟨#[46,101,118,101,114,121]⟩:ByteArray) from rfl] at HP2;obtain⟨⟨v3,z3⟩,e3⟩:∃ r,intM t (behindC p n_timeout) z2=r:=⟨_,rfl⟩;have HC3:=hid (fun (X3:ByteArray) (hX3:X3=str (behindC p n_timeout)) (W:World) (hr:RdS_v W g t cs z2)=>pnumber_of g t cs z2 (behindC p n_timeout) X3 hX3 (by have:=(path_len n_timeout hp0 1000 hp (by decide));omega) W hr);rw [e3] at HC3;have HP3:=hid (path_str (S:=X) n_timeout hp0 hX.symm);rw [show str (46::n_timeout)=(⟨#[46,116,105,109,101,111,117,116]⟩:ByteArray) from rfl] at HP3;obtain⟨⟨v4,z4⟩,e4⟩:∃ r,intM t (behindC p n_rise) z3=r:=⟨_,rfl⟩;have HC4:=hid (fun (X4:ByteArray) (hX4:X4=str (behindC p n_rise)) (W:World) (hr:RdS_v W g t cs z3)=>pnumber_of g t cs z3 (behindC p n_rise) X4 hX4 (by have:=(path_len n_rise hp0 1000 hp (by decide));omega) W hr);rw [e4] at HC4;have HP4:=hid (path_str (S:=X) n_rise hp0 hX.symm);rw [show str (46::n_rise)=(⟨#[46,114,105,115,101]⟩:ByteArray) from rfl] at HP4;obtain⟨⟨v5,z5⟩,e5⟩:∃ r,intM t (behindC p n_fall) z4=r:=⟨_,rfl⟩;have HC5:=hid (fun (X5:ByteArray) (hX5:X5=str (behindC p n_fall)) (W:World) (hr:RdS_v W g t cs z4)=>pnumber_of g t cs z4 (behindC p n_fall) X5 hX5 (by have:=(path_len n_fall hp0 1000 hp (by decide));omega) W hr);rw [e5] at HC5;have HP5:=hid (path_str (S:=X) n_fall hp0 hX.symm);rw [show str (46::n_fall)=(⟨#[46,102,97,108,108]⟩:ByteArray) from rfl] at HP5;dsimp only at HC1 HC2 HC3 HC4 HC5;simp only [e0,e1,e2,e3,e4,e5];have g1:X.size≤1024:=by rw [hX,str_size];omega
 clear h hX hA hA0 hb0 hp hp0 e0 e1 e2 e3 e4 e5;go_enter Tryz.func133,Tryz.ntmps133;go_wp2_with (first
  |(go_at_call 60;rw [←HA0.out];(with_reducible refine HOb.out.mono ?_);rintro e w1 ⟨rfl,hr1,ht1⟩;have HS1:=hid (RW.new (o4:=.cells #[.string ⟨#[]⟩,.int .i64 0,.int .i64 0,.int .i64 0,.int .i64 0] 81 (0,0)) hr1 ((tg_of HB0.out).on ht1) ((ht1.block w.heap.size (lt_of_heap HZ0.out) (Nat.ne_of_gt HLg.out)).trans HZ0.out) (Nat.le_refl _) HLg.out (.cells #[.string ⟨#[]⟩,.int .i64 0,.int .i64 0,.int .i64 0,.int .i64 0] 81 (0,0)));have hlt:w.heap.size<w1.heap.size:=HS1.out.ne;clear hr1 ht1)
  |(go_at_call 126;(with_reducible refine(HC1.out _ HP1.out _ HS1.out.rd).mono ?_);rintro e w2 ⟨rfl,hr,ht⟩;have hq:=HS1.out.call hr ht;(try clear y0 y1 y2 y3 y4 yf);obtain⟨y0,y1,y2,y3,y4⟩:=cells5b hq.h5;have yf:=frozen_of_row w2 w1.heap.size 0 _ _ hq.h5;have HS2:=hid (show RW w (w2.setCell ⟨w1.heap.size,0,none⟩ (.string (str v1))) g t cs z1 w.heap.size w1.heap.size (.cells #[.string ⟨#[]⟩,.int .i64 0,.int .i64 0,.int .i64 0,.int .i64 0] 81 (0,0)) (.cells #[.string (str v1),.int .i64 0,.int .i64 0,.int .i64 0,.int .i64 0] 81 (0,0)) from hq.put5 0 [.string (str v1)]);clear HS1 hr ht hq)
  |(go_at_call 137;(with_reducible refine(HC2.out _ HP2.out _ HS2.out.rd).mono ?_);rintro e w3 ⟨rfl,hr,ht⟩;have hq:=HS2.out.call hr ht;(try clear y0 y1 y2 y3 y4 yf);obtain⟨y0,y1,y2,y3,y4⟩:=cells5b hq.h5;have yf:=frozen_of_row w3 w1.heap.size 1 _ _ hq.h5;have HS3:=hid (show RW w (w3.setCell ⟨w1.heap.size,1,none⟩ (.int .i64 v2)) g t cs z2 w.heap.size w1.heap.size (.cells #[.string ⟨#[]⟩,.int .i64 0,.int .i64 0,.int .i64 0,.int .i64 0] 81 (0,0)) (.cells #[.string (str v1),.int .i64 v2,.int .i64 0,.int .i64 0,.int .i64 0] 81 (0,0)) from hq.put5 1 [.int .i64 v2]);clear HS2 hr ht hq)
  |(go_at_call 137;(with_reducible refine(HC3.out _ HP3.out _ HS3.out.rd).mono ?_);rintro e w4 ⟨rfl,hr,ht⟩;have hq:=HS3.out.call hr ht;(try clear y0 y1 y2 y3 y4 yf);obtain⟨y0,y1,y2,y3,y4⟩:=cells5b hq.h5;have yf:=frozen_of_row w4 w1.heap.size 2 _ _ hq.h5;have HS4:=hid (show RW w (w4.setCell ⟨w1.heap.size,2,none⟩ (.int .i64 v3)) g t cs z3 w.heap.size w1.heap.size (.cells #[.string ⟨#[]⟩,.int .i64 0,.int .i64 0,.int .i64 0,.int .i64 0] 81 (0,0)) (.cells #[.string (str v1),.int .i64 v2,.int .i64 v3,.int .i64 0,.int .i64 0] 81 (0,0)) from hq.put5 2 [.int .i64 v3]);clear HS3 hr ht hq)
  |(go_at_call 137;(with_reducible refine(HC4.out _ HP4.out _ HS4.out.rd).mono ?_);rintro e w5 ⟨rfl,hr,ht⟩;have hq:=HS4.out.call hr ht;(try clear y0 y1 y2 y3 y4 yf);obtain⟨y0,y1,y2,y3,y4⟩:=cells5b hq.h5;have yf:=frozen_of_row w5 w1.heap.size 3 _ _ hq.h5;have HS5:=hid (show RW w (w5.setCell ⟨w1.heap.size,3,none⟩ (.int .i64 v4)) g t cs z4 w.heap.size w1.heap.size (.cells #[.string ⟨#[]⟩,.int .i64 0,.int .i64 0,.int .i64 0,.int .i64 0] 81 (0,0)) (.cells #[.string (str v1),.int .i64 v2,.int .i64 v3,.int .i64 v4,.int .i64 0] 81 (0,0)) from hq.put5 3 [.int .i64 v4]);clear HS4 hr ht hq)
  |(go_at_call 137;(with_reducible refine(HC5.out _ HP5.out _ HS5.out.rd).mono ?_);rintro e w6 ⟨rfl,hr,ht⟩;have hq:=HS5.out.call hr ht;(try clear y0 y1 y2 y3 y4 yf);obtain⟨y0,y1,y2,y3,y4⟩:=cells5b hq.h5;have yf:=frozen_of_row w6 w1.heap.size 4 _ _ hq.h5;obtain⟨x0,x1,x2,x3,x4⟩:=cells5b hq.h4;have xf0:=frozen_of_row w6 w.heap.size 0 _ _ hq.h4;have xf1:=frozen_of_row w6 w.heap.size 1 _ _ hq.h4;have xf2:=frozen_of_row w6 w.heap.size 2 _ _ hq.h4;have xf3:=frozen_of_row w6 w.heap.size 3 _ _ hq.h4;have xf4:=frozen_of_row w6 w.heap.size 4 _ _ hq.h4;have HF:=hid ((hq.put5 4 [.int .i64 v5]).put4 0 [.string (str v1),.int .i64 v2,.int .i64 v3,.int .i64 v4,.int .i64 v5]);clear HS5 hr ht hq))
 refine bodyPost_ret (results_cell_row rfl _ _ w.heap.size 81 _ (0,0) _ rfl HF.out.h4 Tryz.underlying81 rfl rfl) rfl ?_;exact⟨rfl,HF.out.rd,HF.out.tg⟩
def Stab (g b4 b5:Nat) (Q:World→Prop):Prop:=∀ U V:World,(∀ k,k<U.heap.size→k≠g→k≠b4→k≠b5→V.heap[k]?=U.heap[k]?)→Q U→Q V
theorem stab_true (g b4 b5:Nat):Stab g b4 b5 (fun _=>True):=fun _ _ _ _=>trivial
theorem stab_own {α:Type}{T:TypeId}{sz:Nat}{f:α→List Value}{g b4 b5 base:Nat}{v:Value}{l:List α} (h1:g<base) (h2:b4<base) (h3:b5<base):Stab g b4 b5 (fun W=>OwnR T sz f W base v l):=fun U V hb h=>
 h.keepB fun k e=>hb k (h.lt e) (fun e2=>by have:=own_ge h e;omega) (fun e2=>by have:=own_ge h e;omega) (fun e2=>by have:=own_ge h e;omega)
theorem Stab.and {g b4 b5:Nat}{P Q:World→Prop} (h:Stab g b4 b5 P) (k:Stab g b4 b5 Q):Stab g b4 b5 (fun W=>P W∧Q W):=fun U V hb hu=>⟨h U V hb hu.1,k U V hb hu.2⟩
structure RQ (w0 W:World) (g:Nat) (t:JV) (cs:List Value) (z:Option B) (b4 b5:Nat) (o4 o5:Obj) (Q:World→Prop):Prop where
 rw:RW w0 W g t cs z b4 b5 o4 o5
 q:Q W
 st:Stab g b4 b5 Q
section
variable {w0 W W' : World} {g b4 b5 : Nat} {t : JV} {cs : List Value} {z z' : Option B} {o4 o5 : Obj} {ar : Array Value} {T : TypeId} {Q : World → Prop}
theorem RQ.call (h:RQ w0 W g t cs z b4 b5 o4 o5 Q) (hr:RdS_v W' g t cs z') (ht:Tg g W W'):RQ w0 W' g t cs z' b4 b5 o4 o5 Q:=
 ⟨h.rw.call hr ht,h.st W W' (fun k hk h1 _ _=>ht.block k hk h1) h.q,h.st⟩
theorem RQ.set5 (h:RQ w0 W g t cs z b4 b5 o4 (.cells ar T (0,0)) Q) (k:Nat) (v:Value):RQ w0 (W.setCell ⟨b5,k,none⟩ v) g t cs z b4 b5 o4 (.cells (ar.setIfInBounds k v) T (0,0)) Q:=
 ⟨h.rw.put5 k [v],h.st W _ (fun i hi _ _ h5=>(tg_set W b5 k v).block i hi h5) h.q,h.st⟩
theorem RQ.put4 (h:RQ w0 W g t cs z b4 b5 (.cells ar T (0,0)) o5 Q) (k:Nat) (vs:List Value):RQ w0 (putL W b4 k vs) g t cs z b4 b5 (.cells (setFrom ar k vs) T (0,0)) o5 Q:=
 ⟨h.rw.put4 k vs,h.st W _ (fun i hi _ h4 _=>(putL_tg vs k W).block i hi h4) h.q,h.st⟩
theorem RQ.next (h:RQ w0 W g t cs z b4 b5 o4 o5 Q) (hb:Below W.heap.size W W'):RQ w0 W' g t cs z b4 b5 o4 o5 Q:=
 ⟨h.rw.next hb,h.st W W' (fun k hk _ _ _=>hb.block k hk) h.q,h.st⟩
theorem RQ.add {P:World→Prop} (h:RQ w0 W g t cs z b4 b5 o4 o5 Q) (hp:P W) (hs:Stab g b4 b5 P):RQ w0 W g t cs z b4 b5 o4 o5 (fun U=>Q U∧P U):=⟨h.rw,⟨h.q,hp⟩,h.st.and hs⟩
theorem RQ.base (h:RW w0 W g t cs z b4 b5 o4 o5):RQ w0 W g t cs z b4 b5 o4 o5 (fun _=>True):=⟨h,trivial,stab_true _ _ _⟩
theorem RQ.lt5 (h:RQ w0 W g t cs z b4 b5 o4 o5 Q):b5<W.heap.size:=lt_of_heap h.rw.h5
theorem RQ.lt4 (h:RQ w0 W g t cs z b4 b5 o4 o5 Q):b4<W.heap.size:=lt_of_heap h.rw.h4
end
abbrev strF:B→List Value:=fun x=>[.string (str x)]
abbrev backXF:BackC→List Value:=fun x=>[.string (str x.addr),.int .i64 x.wt]
structure AuthX where
 c:AuthC
 q:Option Addr
 n:Nat
 k:Nat
abbrev authXV (x:AuthX):Value:=.agg #[.bool x.c.on,.string (str x.c.iss),.string (str x.c.aud),.slice x.q x.n x.k,.int .i64 x.c.leeway]
def AuthXM (m:Nat) (W:World) (x:AuthX):Prop:=x.c.scopes.length=x.n∧OwnR 9 1 strF W m (.slice x.q x.n x.k) x.c.scopes
structure PoolX where
 c:PoolC
 q:Option Addr
 n:Nat
 k:Nat
abbrev poolXF (x:PoolX):List Value:=[.string (str x.c.name),.slice x.q x.n x.k,.int .i64 x.c.policy,.int .i64 x.c.retries,.int .i64 x.c.timeout,.int .i64 x.c.fails,.int .i64 x.c.opn,.string (str x.c.probe.path),.int .i64 x.c.probe.every,.int .i64 x.c.probe.timeout,.int .i64 x.c.probe.rise,.int .i64 x.c.probe.fall]
abbrev poolXV (x:PoolX):Value:=.agg #[.string (str x.c.name),.slice x.q x.n x.k,.int .i64 x.c.policy,.int .i64 x.c.retries,.int .i64 x.c.timeout,.int .i64 x.c.fails,.int .i64 x.c.opn,.string (str x.c.probe.path),.int .i64 x.c.probe.every,.int .i64 x.c.probe.timeout,.int .i64 x.c.probe.rise,.int .i64 x.c.probe.fall]
def PoolXM (m:Nat) (W:World) (x:PoolX):Prop:=x.c.backs.length=x.n∧OwnR 145 2 backXF W m (.slice x.q x.n x.k) x.c.backs
structure RouteX where
 c:RouteC
 q:Option Addr
 n:Nat
 k:Nat
 q2:Option Addr
 n2:Nat
 k2:Nat
abbrev routeXF (x:RouteX):List Value:=[.string (str x.c.host),.string (str x.c.path),.slice x.q x.n x.k,.string (str x.c.pool),.bool x.c.auth.on,.string (str x.c.auth.iss),.string (str x.c.auth.aud),.slice x.q2 x.n2 x.k2,.int .i64 x.c.auth.leeway,.int .i64 x.c.lim.by_,.int .i64 x.c.lim.rate,.int .i64 x.c.lim.per,.int .i64 x.c.lim.burst]
abbrev routeXV (x:RouteX):Value:=.agg #[.string (str x.c.host),.string (str x.c.path),.slice x.q x.n x.k,.string (str x.c.pool),.bool x.c.auth.on,.string (str x.c.auth.iss),.string (str x.c.auth.aud),.slice x.q2 x.n2 x.k2,.int .i64 x.c.auth.leeway,.int .i64 x.c.lim.by_,.int .i64 x.c.lim.rate,.int .i64 x.c.lim.per,.int .i64 x.c.lim.burst]
def RouteXM (m:Nat) (W:World) (x:RouteX):Prop:=(x.c.methods.length=x.n∧OwnR 9 1 strF W m (.slice x.q x.n x.k) x.c.methods)∧x.c.auth.scopes.length=x.n2∧OwnR 9 1 strF W m (.slice x.q2 x.n2 x.k2) x.c.auth.scopes
section
variable {m g : Nat} {W W' : World} {o : Obj} {base : Nat} {v : Value}
theorem PoolXM.keep {x:PoolX} (h:PoolXM m W x) (hb:Below W.heap.size W W'):PoolXM m W' x:=⟨h.1,h.2.keep hb⟩
theorem PoolXM.tg {x:PoolX} (h:PoolXM m W x) (hg:g<m) (ht:Tg g W W'):PoolXM m W' x:=⟨h.1,h.2.tg hg ht⟩
theorem PoolXM.grow {x:PoolX}{acc:List PoolX} (h:PoolXM m W x) (hO:OwnR 83 12 poolXF (W.alloc o) base v acc) (hg:(W.alloc o).grownBy W' v.ownBlock):PoolXM m W' x:=⟨h.1,(h.2.alloc o).aside hO (by decide) hg⟩
theorem RouteXM.keep {x:RouteX} (h:RouteXM m W x) (hb:Below W.heap.size W W'):RouteXM m W' x:=⟨⟨h.1.1,h.1.2.keep hb⟩,h.2.1,h.2.2.keep hb⟩
theorem RouteXM.tg {x:RouteX} (h:RouteXM m W x) (hg:g<m) (ht:Tg g W W'):RouteXM m W' x:=⟨⟨h.1.1,h.1.2.tg hg ht⟩,h.2.1,h.2.2.tg hg ht⟩
theorem RouteXM.grow {x:RouteX}{acc:List RouteX} (h:RouteXM m W x) (hO:OwnR 91 13 routeXF (W.alloc o) base v acc) (hg:(W.alloc o).grownBy W' v.ownBlock):RouteXM m W' x:=⟨⟨h.1.1,(h.1.2.alloc o).aside hO (by decide) hg⟩,h.2.1,(h.2.2.alloc o).aside hO (by decide) hg⟩
end
theorem pbyWords_of (w:World):Calls Tryz.prog 210 #[] w fun e w'=>e= .returned (.slice (some ⟨w.heap.size,0,none⟩) 3 3)∧WsAt w' w.heap.size n_client n_subject∧Below w.heap.size w w':=by
 have HB:=hid (below_new w (.cells #[.string ⟨#[]⟩,.string ⟨#[99,108,105,101,110,116]⟩,.string ⟨#[115,117,98,106,101,99,116]⟩] 9 (0,0)));have HN:=hid (WsAt.mk (x:=n_client) (y:=n_subject) (heap_alloc_new w (.cells #[.string ⟨#[]⟩,.string ⟨#[99,108,105,101,110,116]⟩,.string ⟨#[115,117,98,106,101,99,116]⟩] 9 (0,0))));go_enter Tryz.func210,Tryz.ntmps210;go_wp2;go_ret;exact⟨rfl,HN.out,HB.out⟩
theorem ppolicyWords_of (w:World):Calls Tryz.prog 131 #[] w fun e w'=>e= .returned (.slice (some ⟨w.heap.size,0,none⟩) 3 3)∧WsAt w' w.heap.size n_turns n_hash∧Below w.heap.size w w':=by
 have HB:=hid (below_new w (.cells #[.string ⟨#[]⟩,.string ⟨#[116,117,114,110,115]⟩,.string ⟨#[104,97,115,104]⟩] 9 (0,0)));have HN:=hid (WsAt.mk (x:=n_turns) (y:=n_hash) (heap_alloc_new w (.cells #[.string ⟨#[]⟩,.string ⟨#[116,117,114,110,115]⟩,.string ⟨#[104,97,115,104]⟩] 9 (0,0))));go_enter Tryz.func131,Tryz.ntmps131;go_wp2;go_ret;exact⟨rfl,HN.out,HB.out⟩
def limB (v:JV) (p:B) (z:Option B):LimC×Option B:=
 let a:=wordM [(n_client,1),(n_subject,2)] (textM v (behindC p n_by) (objM v p [n_by,n_rate,n_per,n_burst] z)) (behindC p n_by)
 let b:=intM v (behindC p n_rate) a.2
 let c:=intM v (behindC p n_per) b.2
 let d:=intM v (behindC p n_burst) c.2
 (⟨a.1,b.1,c.1,d.1⟩,d.2)
theorem limM_eq (v:JV) (p:B) (z:Option B):limM v p z=if atV v p=none then (⟨0,0,0,0⟩,z) else limB v p z:=rfl
def authB (v:JV) (p:B) (z:Option B):AuthC×Option B:=
 let a:=textD v (behindC p n_issuer) [] (objM v p [n_issuer,n_audience,n_scopes,n_leeway] z)
 let b:=textD v (behindC p n_audience) [] a.2
 let c:=textsM v (behindC p n_scopes) b.2
 let d:=intD v (behindC p n_leeway) 0 c.2
 (⟨true,a.1,b.1,c.1,d.1⟩,d.2)
theorem authM_eq (v:JV) (p:B) (z:Option B):authM v p z=if atV v p=none then (⟨false,[],[],[],0⟩,z) else authB v p z:=rfl
theorem told_texts {t:JV}{p:B}{z:Option B}{g:Nat}{cs:List Value}{w w':World}{e:Ending} (hf:Fits_k t) (h:ToldL 9 1 (fun x:B=>[.string (str x)]) (fun _ _=>True) id g t cs (listD (textM t) t p z) w e w'):ToldL 9 1 strF (fun _ _=>True) id g t cs (textsM t p z) w e w':=by
 obtain⟨q,n,c,acc,h1,h2,h3,h4,h5,h6,h7⟩:=h;have hx:=texts_list (p:=p) (z:=z) hf;exact⟨q,n,c,acc,h1,h2,h3,h4,fun h0=>(h5 (hx.1.trans h0)).trans (hx.2 h0),hx.1 ▸ h6,h7⟩
end Go.Proofs.YtlmefgjhbohjlaaGreatDoor
