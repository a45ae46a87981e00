/- A value is read. -/
import Derived.Test.YtlmefgjhbohjlaaGreatDoorJList
namespace Go.Proofs.YtlmefgjhbohjlaaGreatDoor
set_option maxRecDepth 20000
set_option maxHeartbeats 4000000
open Go.RowKit
structure Vl (w wr:World) (b:Nat) (s:ByteArray) (d:Nat) (t:B):Prop where
 rd:Rd wr b s t d
 env:Env wr
 turn:Turn b w wr
 res:wr.heap[w.heap.size]?=some (.cells #[.int .i64 0,.bool false,.string ⟨#[]⟩,.int .i64 0,.bool false,.slice none 0 0,.slice none 0 0] 57 (0,0))
theorem Vl.start {w:World}{b:Nat}{s:ByteArray}{d:Nat}{l:B} (h:Rd w b s l d) (hE:Env w):Vl w (w.alloc (.cells #[.int .i64 0,.bool false,.string ⟨#[]⟩,.int .i64 0,.bool false,.slice none 0 0,.slice none 0 0] 57 (0,0))) b s d l:=
 ⟨h.below (below_new _ _),hE.below (below_new _ _),(Turn.refl _ _).alloc _,heap_alloc_new _ _⟩
theorem Vl.next {w wr w':World}{b:Nat}{s:ByteArray}{d d':Nat}{t u:B} (h:Vl w wr b s d t) (hb:b<w.heap.size) (hnb:6≤b) (ht:Turn b wr w') (hr:Rd w' b s u d'):Vl w w' b s d' u:=
 ⟨hr,h.env.turn ht hnb,h.turn.trans ht,(ht.block _ (lt_of_heap h.res) (by omega)).trans h.res⟩
theorem Vl.out {w wr Wf:World}{b:Nat}{s:ByteArray}{d:Nat}{u:B} (h:Vl w wr b s d u) (hb:b<w.heap.size) (ho:Out7 wr Wf w.heap.size):Rd Wf b s u d∧Turn b w Wf:=
 ⟨h.rd.of_heap (ho.other b (by omega)),ho.turn h.turn (Nat.le_refl _)⟩
theorem Vl.val {w w1 wr Wf:World}{b:Nat}{s:ByteArray}{d d':Nat}{t u:B}{x:JV}{cs:List Value} (h1:Vl w w1 b s d t) (_h:Vl w wr b s d' u) (ho:Out7 wr Wf w.heap.size) (hv:ValIs wr (fun k=>w1.heap.size≤k∧k<wr.heap.size) x cs):ValIs Wf (fun k=>w.heap.size≤k∧k<Wf.heap.size) x cs:=by
 have:=lt_of_heap h1.res;exact ValIs.keep (fun j hj=>ho.other j (by omega)) (fun j hj=>⟨by omega,by rw [ho.size];exact hj.2⟩) _ _ hv
theorem flat_val (w:World) (F:Nat→Prop) (k:Int) (b:Bool) (t:B) (n:Int) (h:Bool):ValIs w F (.mk k b t n h [] []) [.int .i64 k,.bool b,.string (str t),.int .i64 n,.bool h,.slice none 0 0,.slice none 0 0]:=by
 simp only [ValIs];exact⟨_,_,rfl,⟨none,0,rfl,Nat.le_refl _,fun h=>absurd h (by simp)⟩,⟨none,0,rfl,Nat.le_refl _,fun h=>absurd h (by simp)⟩⟩
theorem num_parts (t:B):numV t= .mk 3 false t (numI t) (numH t) [] []:=by
 obtain⟨n,h,e⟩:=num_form t;simp only [numI,numH,e]
theorem ext_take {s:ByteArray}{l u:B}{w1 w2:World}{b d p q:Nat} (h1:At w1 b s l d p) (h2:At w2 b s u d q):s.extract p q=str (l.take (l.length-u.length)):=by
 have e:(s.extract p q).data.toList=l.take (l.length-u.length):=by
  rw [ext_list_j,h1.drop,h1.len,h2.len];congr 1;have:=h1.le;have:=h2.le;omega
 apply ByteArray.ext;apply Array.toList_inj.1;rw [e]
theorem Rd2.out {w U Wf:World}{b:Nat}{s:ByteArray}{p:Nat} (h:Rd2 U b s p) (hb:b<w.heap.size) (ho:Out7 U Wf w.heap.size):Rd2 Wf b s p:=by
 have e:Wf.heap[b]?=U.heap[b]?:=ho.other b (by omega);exact⟨by rw [World.cell?_of_block (w:=U) (by exact e)];exact h.1,by rw [World.cell?_of_block (w:=U) (by exact e)];exact h.2⟩
theorem ToldV.as {r r':Res JV}{b:Nat}{s:ByteArray}{d:Nat}{w w':World}{e:Ending} (h:ToldV r b s d w e w') (k:r=r'):ToldV r' b s d w e w':=k ▸ h
theorem clone_any_j (t:B) (ht:t.length≤1048576) (w:World):Calls Tryz.prog 200 #[.string (str t)] w fun e w'=>e= .returned (.string (str t))∧Below w.heap.size w w':=by
 have hs:(str t).size≤1048576:=by simpa [ByteArray.size] using ht
 obtain⟨S,hS⟩:∃ S,str t=S:=⟨_,rfl⟩;rw [hS] at hs ⊢;clear hS ht;go_enter Tryz.func200,Tryz.ntmps200;go_wp2_with (go_at_call 251;refine(Tryz.stringslite_Clone S _ (by omega)).mono ?_;rintro e w1 ⟨rfl,hb⟩;have HB:=hid hb;clear hb);go_ret;exact⟨rfl,HB.out⟩
theorem value_any {inner:Option (B→Res JV)}{b:Nat}{s:ByteArray}{d:Nat} (hnb:6≤b) (hsz:s.size≤1048576) (hd:d≤32) (hin:(d=32∧inner=none)∨(d≠32∧∃ f,inner=some f∧ShortV f∧ValOk f b s (d+1))):ValOk (valWith inner) b s d:=by
 intro w l h hE;have HB:=hid h.lt;have HNB:=hid hnb;have HSZ:=hid hsz;have HD:=hid hd;obtain⟨X,hX⟩:∃ X:Nat,(nx l).toNat=X:=⟨_,rfl⟩;have HX:=hid hX;have R0:=hid (Vl.start h hE);have HIn:=hid hin;clear hnb hsz hd h hE hin;by_cases h110:nx l=110
 · obtain rfl:X=110:=by rw [←hX,h110];rfl
   have HN:=hid h110;clear hX h110;cases ht:word [110,117,108,108] l with
   |ok y u=>
    have HWd:=hid ht;have HVal:Hid (valWith inner l= .ok (.mk 1 false [] 0 false [] []) u):=by unfold Hid valWith;simp only [HN.out];simp [wordS,ht]
    clear ht;go_enter Tryz.func121,Tryz.ntmps121;go_wp2_with (first|(go_at_call 193;refine(next_any R0.out.rd).mono ?_;rintro e w1 ⟨rfl,n,hw⟩;rw [HX.out];have R1:=hid (show Vl w w1 b s d l from by rw [hw];exact R0.out.next HB.out HNB.out ((Turn.refl _ _).drewN n) (R0.out.rd.drewN n));clear hw R0)|(go_at_call 194;(with_reducible refine(word_any ⟨#[110,117,108,108]⟩ (by decide) (by decide) R1.out.rd).mono ?_);intro e w2 hq;obtain⟨rfl,hz⟩:=Told.yes hq HWd.out;have R2:=hid (R1.out.next HB.out HNB.out hz.2 hz.1);clear hz hq R1;have s2:=seven_j R2.out.res;obtain⟨b0,b1,b2,b3,b4,b5,b6,bz⟩:=s2;have bz0:=bz 0;have bz1:=bz 1;have bz2:=bz 2;have bz3:=bz 3;have bz4:=bz 4;have bz5:=bz 5;have bz6:=bz 6;clear bz))
    (try simp only [Exit.inBlock,Exit.then])
    refine bodyPost_ret (results_val2 rfl _ _ _ 57 _ (0,0) rfl (seven_put (has_seven R2.out.res) _ _ _ _ _ _ _) rfl) rfl ?_;rw [HVal.out];obtain⟨e2,e3⟩:=R2.out.out HB.out (out7 _ _ _ _ _ _ _ _ _);exact⟨_,rfl,flat_val _ _ _ _ [] _ _,e2,e3⟩
   |err k u=>
    have HWd:=hid ht;have HVal:Hid (valWith inner l= .err k u):=by unfold Hid valWith;simp only [HN.out];simp [wordS,ht]
    clear ht;go_enter Tryz.func121,Tryz.ntmps121;go_wp2_with (first|(go_at_call 193;refine(next_any R0.out.rd).mono ?_;rintro e w1 ⟨rfl,n,hw⟩;rw [HX.out];have R1:=hid (show Vl w w1 b s d l from by rw [hw];exact R0.out.next HB.out HNB.out ((Turn.refl _ _).drewN n) (R0.out.rd.drewN n));clear hw R0)|(go_at_call 194;(with_reducible refine(word_any ⟨#[110,117,108,108]⟩ (by decide) (by decide) R1.out.rd).mono ?_);intro e w2 hq;obtain⟨rfl,hz⟩:=Told.no hq HWd.out;have R2:=hid (R1.out.next HB.out HNB.out hz.2 hz.1);clear hz hq R1;have s2:=seven_j R2.out.res;obtain⟨b0,b1,b2,b3,b4,b5,b6,bz⟩:=s2;have bz0:=bz 0;have bz1:=bz 1;have bz2:=bz 2;have bz3:=bz 3;have bz4:=bz 4;have bz5:=bz 5;have bz6:=bz 6;clear bz))
    (try simp only [Exit.inBlock,Exit.then])
    refine bodyPost_ret (results_val2 rfl _ _ _ 57 _ (0,0) rfl (seven_put (has_seven R2.out.res) _ _ _ _ _ _ _) rfl) rfl ?_;rw [HVal.out];obtain⟨e2,e3⟩:=R2.out.out HB.out (out7 _ _ _ _ _ _ _ _ _);exact⟨_,_,_,rfl,flat_val _ _ _ _ [] _ _,e2,e3⟩
 by_cases h116:nx l=116
 · obtain rfl:X=116:=by rw [←hX,h116];rfl
   have HN:=hid h116;clear hX h116;cases ht:word [116,114,117,101] l with
   |ok y u=>
    have HWd:=hid ht;have HVal:Hid (valWith inner l= .ok (.mk 2 true [] 0 false [] []) u):=by unfold Hid valWith;simp only [HN.out];simp [wordS,ht]
    clear ht;go_enter Tryz.func121,Tryz.ntmps121;go_wp2_with (first|(go_at_call 193;refine(next_any R0.out.rd).mono ?_;rintro e w1 ⟨rfl,n,hw⟩;rw [HX.out];have R1:=hid (show Vl w w1 b s d l from by rw [hw];exact R0.out.next HB.out HNB.out ((Turn.refl _ _).drewN n) (R0.out.rd.drewN n));clear hw R0)|(go_at_call 194;(with_reducible refine(word_any ⟨#[116,114,117,101]⟩ (by decide) (by decide) R1.out.rd).mono ?_);intro e w2 hq;obtain⟨rfl,hz⟩:=Told.yes hq HWd.out;have R2:=hid (R1.out.next HB.out HNB.out hz.2 hz.1);clear hz hq R1;have s2:=seven_j R2.out.res;obtain⟨b0,b1,b2,b3,b4,b5,b6,bz⟩:=s2;have bz0:=bz 0;have bz1:=bz 1;have bz2:=bz 2;have bz3:=bz 3;have bz4:=bz 4;have bz5:=bz 5;have bz6:=bz 6;clear bz))
    (try simp only [Exit.inBlock,Exit.then])
    refine bodyPost_ret (results_val2 rfl _ _ _ 57 _ (0,0) rfl (seven_put (has_seven R2.out.res) _ _ _ _ _ _ _) rfl) rfl ?_;rw [HVal.out];obtain⟨e2,e3⟩:=R2.out.out HB.out (out7 _ _ _ _ _ _ _ _ _);exact⟨_,rfl,flat_val _ _ _ _ [] _ _,e2,e3⟩
   |err k u=>
    have HWd:=hid ht;have HVal:Hid (valWith inner l= .err k u):=by unfold Hid valWith;simp only [HN.out];simp [wordS,ht]
    clear ht;go_enter Tryz.func121,Tryz.ntmps121;go_wp2_with (first|(go_at_call 193;refine(next_any R0.out.rd).mono ?_;rintro e w1 ⟨rfl,n,hw⟩;rw [HX.out];have R1:=hid (show Vl w w1 b s d l from by rw [hw];exact R0.out.next HB.out HNB.out ((Turn.refl _ _).drewN n) (R0.out.rd.drewN n));clear hw R0)|(go_at_call 194;(with_reducible refine(word_any ⟨#[116,114,117,101]⟩ (by decide) (by decide) R1.out.rd).mono ?_);intro e w2 hq;obtain⟨rfl,hz⟩:=Told.no hq HWd.out;have R2:=hid (R1.out.next HB.out HNB.out hz.2 hz.1);clear hz hq R1;have s2:=seven_j R2.out.res;obtain⟨b0,b1,b2,b3,b4,b5,b6,bz⟩:=s2;have bz0:=bz 0;have bz1:=bz 1;have bz2:=bz 2;have bz3:=bz 3;have bz4:=bz 4;have bz5:=bz 5;have bz6:=bz 6;clear bz))
    (try simp only [Exit.inBlock,Exit.then])
    refine bodyPost_ret (results_val2 rfl _ _ _ 57 _ (0,0) rfl (seven_put (has_seven R2.out.res) _ _ _ _ _ _ _) rfl) rfl ?_;rw [HVal.out];obtain⟨e2,e3⟩:=R2.out.out HB.out (out7 _ _ _ _ _ _ _ _ _);exact⟨_,_,_,rfl,flat_val _ _ _ _ [] _ _,e2,e3⟩
 by_cases h102:nx l=102
 · obtain rfl:X=102:=by rw [←hX,h102];rfl
   have HN:=hid h102;clear hX h102;cases ht:word [102,97,108,115,101] l with
   |ok y u=>
    have HWd:=hid ht;have HVal:Hid (valWith inner l= .ok (.mk 2 false [] 0 false [] []) u):=by unfold Hid valWith;simp only [HN.out];simp [wordS,ht]
    clear ht;go_enter Tryz.func121,Tryz.ntmps121;go_wp2_with (first|(go_at_call 193;refine(next_any R0.out.rd).mono ?_;rintro e w1 ⟨rfl,n,hw⟩;rw [HX.out];have R1:=hid (show Vl w w1 b s d l from by rw [hw];exact R0.out.next HB.out HNB.out ((Turn.refl _ _).drewN n) (R0.out.rd.drewN n));clear hw R0)|(go_at_call 194;(with_reducible refine(word_any ⟨#[102,97,108,115,101]⟩ (by decide) (by decide) R1.out.rd).mono ?_);intro e w2 hq;obtain⟨rfl,hz⟩:=Told.yes hq HWd.out;have R2:=hid (R1.out.next HB.out HNB.out hz.2 hz.1);clear hz hq R1;have s2:=seven_j R2.out.res;obtain⟨b0,b1,b2,b3,b4,b5,b6,bz⟩:=s2;have bz0:=bz 0;have bz1:=bz 1;have bz2:=bz 2;have bz3:=bz 3;have bz4:=bz 4;have bz5:=bz 5;have bz6:=bz 6;clear bz))
    (try simp only [Exit.inBlock,Exit.then])
    refine bodyPost_ret (results_val2 rfl _ _ _ 57 _ (0,0) rfl (seven_put (has_seven R2.out.res) _ _ _ _ _ _ _) rfl) rfl ?_;rw [HVal.out];obtain⟨e2,e3⟩:=R2.out.out HB.out (out7 _ _ _ _ _ _ _ _ _);exact⟨_,rfl,flat_val _ _ _ _ [] _ _,e2,e3⟩
   |err k u=>
    have HWd:=hid ht;have HVal:Hid (valWith inner l= .err k u):=by unfold Hid valWith;simp only [HN.out];simp [wordS,ht]
    clear ht;go_enter Tryz.func121,Tryz.ntmps121;go_wp2_with (first|(go_at_call 193;refine(next_any R0.out.rd).mono ?_;rintro e w1 ⟨rfl,n,hw⟩;rw [HX.out];have R1:=hid (show Vl w w1 b s d l from by rw [hw];exact R0.out.next HB.out HNB.out ((Turn.refl _ _).drewN n) (R0.out.rd.drewN n));clear hw R0)|(go_at_call 194;(with_reducible refine(word_any ⟨#[102,97,108,115,101]⟩ (by decide) (by decide) R1.out.rd).mono ?_);intro e w2 hq;obtain⟨rfl,hz⟩:=Told.no hq HWd.out;have R2:=hid (R1.out.next HB.out HNB.out hz.2 hz.1);clear hz hq R1;have s2:=seven_j R2.out.res;obtain⟨b0,b1,b2,b3,b4,b5,b6,bz⟩:=s2;have bz0:=bz 0;have bz1:=bz 1;have bz2:=bz 2;have bz3:=bz 3;have bz4:=bz 4;have bz5:=bz 5;have bz6:=bz 6;clear bz))
    (try simp only [Exit.inBlock,Exit.then])
    refine bodyPost_ret (results_val2 rfl _ _ _ 57 _ (0,0) rfl (seven_put (has_seven R2.out.res) _ _ _ _ _ _ _) rfl) rfl ?_;rw [HVal.out];obtain⟨e2,e3⟩:=R2.out.out HB.out (out7 _ _ _ _ _ _ _ _ _);exact⟨_,_,_,rfl,flat_val _ _ _ _ [] _ _,e2,e3⟩
 by_cases h34:nx l=34
 · obtain rfl:X=34:=by rw [←hX,h34];rfl
   have HN:=hid h34;have HL:=hid (name_head h34);clear hX h34 h110 h116 h102;cases ht:text l with
   |ok bs u=>
    have HTx:=hid ht;have HVal:Hid (valWith inner l= .ok (.mk 4 false bs 0 false [] []) u):=by unfold Hid valWith;simp only [HN.out];simp [ht]
    clear ht;go_enter Tryz.func121,Tryz.ntmps121;go_wp2_with (first|(go_at_call 193;refine(next_any R0.out.rd).mono ?_;rintro e w1 ⟨rfl,n,hw⟩;rw [HX.out];have R1:=hid (show Vl w w1 b s d l from by rw [hw];exact R0.out.next HB.out HNB.out ((Turn.refl _ _).drewN n) (R0.out.rd.drewN n));clear hw R0)|(go_at_call 195;(with_reducible refine(text_any R1.out.rd R1.out.env HNB.out HSZ.out HL.out).mono ?_);intro e w2 hq;obtain⟨rfl,hz⟩:=ToldT.yes hq HTx.out;have R2:=hid (R1.out.next HB.out HNB.out hz.2.1 hz.1);clear hz hq R1;have s2:=seven_j R2.out.res;obtain⟨b0,b1,b2,b3,b4,b5,b6,bz⟩:=s2;have bz0:=bz 0;have bz1:=bz 1;have bz2:=bz 2;have bz3:=bz 3;have bz4:=bz 4;have bz5:=bz 5;have bz6:=bz 6;clear bz))
    (try simp only [Exit.inBlock,Exit.then])
    refine bodyPost_ret (results_val2 rfl _ _ _ 57 _ (0,0) rfl (seven_put (has_seven R2.out.res) _ _ _ _ _ _ _) rfl) rfl ?_;rw [HVal.out];obtain⟨e2,e3⟩:=R2.out.out HB.out (out7 _ _ _ _ _ _ _ _ _);exact⟨_,rfl,flat_val _ _ _ _ bs _ _,e2,e3⟩
   |err k u=>
    have HTx:=hid ht;have HVal:Hid (valWith inner l= .err k u):=by unfold Hid valWith;simp only [HN.out];simp [ht]
    clear ht;go_enter Tryz.func121,Tryz.ntmps121;go_wp2_with (first|(go_at_call 193;refine(next_any R0.out.rd).mono ?_;rintro e w1 ⟨rfl,n,hw⟩;rw [HX.out];have R1:=hid (show Vl w w1 b s d l from by rw [hw];exact R0.out.next HB.out HNB.out ((Turn.refl _ _).drewN n) (R0.out.rd.drewN n));clear hw R0)|(go_at_call 195;(with_reducible refine(text_any R1.out.rd R1.out.env HNB.out HSZ.out HL.out).mono ?_);intro e w2 hq;obtain⟨rfl,hz⟩:=ToldT.no hq HTx.out;have R2:=hid (R1.out.next HB.out HNB.out hz.2 hz.1);clear hz hq R1;have s2:=seven_j R2.out.res;obtain⟨b0,b1,b2,b3,b4,b5,b6,bz⟩:=s2;have bz0:=bz 0;have bz1:=bz 1;have bz2:=bz 2;have bz3:=bz 3;have bz4:=bz 4;have bz5:=bz 5;have bz6:=bz 6;clear bz))
    (try simp only [Exit.inBlock,Exit.then])
    refine bodyPost_ret (results_val2 rfl _ _ _ 57 _ (0,0) rfl (seven_put (has_seven R2.out.res) _ _ _ _ _ _ _) rfl) rfl ?_;rw [HVal.out];obtain⟨e2,e3⟩:=R2.out.out HB.out (out7 _ _ _ _ _ _ _ _ _);exact⟨_,_,_,rfl,flat_val _ _ _ _ [] _ _,e2,e3⟩
 by_cases h91:nx l=91
 · obtain rfl:X=91:=by rw [←hX,h91];rfl
   have HN:=hid h91;have HL:Hid (∃ c l1,l=c::l1):=by
    cases l with
    |nil=>exact absurd h91 (by decide)
    |cons c t=>exact⟨c,t,rfl⟩
   clear hX h91 h34 h110 h116 h102;obtain⟨f,hf1,hf2,hf3⟩:∃ f,ShortV f∧(d≠32→ValOk f b s (d+1))∧valWith inner l=(match (if d=32 then (.err 5 l:Res St) else nestedS (listStep f) [93] ([],[]) (l.drop 1)) with| .err k u=>.err k u| .ok x u=>.ok (.mk 5 false [] 0 false x.2 x.1) u):=by
    rcases HIn.out with ⟨h1,rfl⟩|⟨h1,f,rfl,h2,h3⟩
    · refine⟨fun _=>.err 3 [],fun _ _ _ e=>(nomatch e),fun h=>absurd h1 h,?_⟩;rw [if_pos h1];unfold valWith;simp only [HN.out];rfl
    · refine⟨f,h2,fun _=>h3,?_⟩;rw [if_neg h1];unfold valWith;simp only [HN.out];rfl
   have HF3:=hid hf3;clear hf3;cases ht:valWith inner l with
   |ok t u=>
    have HVal:=hid ht;have HF:=hid (And.intro hf1 hf2);clear ht hf1 hf2;go_enter Tryz.func121,Tryz.ntmps121;go_wp2_with (first|(go_at_call 193;refine(next_any R0.out.rd).mono ?_;rintro e w1 ⟨rfl,n,hw⟩;rw [HX.out];have R1:=hid (show Vl w w1 b s d l from by rw [hw];exact R0.out.next HB.out HNB.out ((Turn.refl _ _).drewN n) (R0.out.rd.drewN n));clear hw R0)|(go_at_call 196;(have hcall:=list_any R1.out.rd R1.out.env HNB.out HSZ.out HD.out HL.out HF.out.1 HF.out.2;(with_reducible refine hcall.mono ?_);clear hcall;intro e w2 hq;have hq2:=ToldV.as hq (HF3.out.symm.trans HVal.out);clear hq;obtain⟨cs,rfl,z1,z2,z3⟩:=hq2;obtain⟨q1,q2,q3,q4,q5,q6,q7,q8,q9,q10,q11,rfl⟩:=z1.form;have R2:=hid (R1.out.next HB.out HNB.out z3 z2);have ZV:=hid (fun Wf ho=>Vl.val (Wf:=Wf) R1.out R2.out ho z1);clear z1 z2 z3 R1;have s2:=seven_j R2.out.res;obtain⟨b0,b1,b2,b3,b4,b5,b6,bz⟩:=s2;have bz0:=bz 0;have bz1:=bz 1;have bz2:=bz 2;have bz3:=bz 3;have bz4:=bz 4;have bz5:=bz 5;have bz6:=bz 6;clear bz)))
    (try simp only [Exit.inBlock,Exit.then])
    refine bodyPost_ret (results_val2 rfl _ _ _ 57 _ (0,0) rfl (seven_put (has_seven R2.out.res) _ _ _ _ _ _ _) rfl) rfl ?_;obtain⟨e2,e3⟩:=R2.out.out HB.out (out7 _ _ _ _ _ _ _ _ _);exact⟨_,rfl,ZV.out _ (out7 _ _ _ _ _ _ _ _ _),e2,e3⟩
   |err k u=>
    have HVal:=hid ht;have HF:=hid (And.intro hf1 hf2);clear ht hf1 hf2;go_enter Tryz.func121,Tryz.ntmps121;go_wp2_with (first|(go_at_call 193;refine(next_any R0.out.rd).mono ?_;rintro e w1 ⟨rfl,n,hw⟩;rw [HX.out];have R1:=hid (show Vl w w1 b s d l from by rw [hw];exact R0.out.next HB.out HNB.out ((Turn.refl _ _).drewN n) (R0.out.rd.drewN n));clear hw R0)|(go_at_call 196;(have hcall:=list_any R1.out.rd R1.out.env HNB.out HSZ.out HD.out HL.out HF.out.1 HF.out.2;(with_reducible refine hcall.mono ?_);clear hcall;intro e w2 hq;have hq2:=ToldV.as hq (HF3.out.symm.trans HVal.out);clear hq;obtain⟨t,cs,d',rfl,z1,z2,z3⟩:=hq2;obtain⟨q1,q2,q3,q4,q5,q6,q7,q8,q9,q10,q11,rfl⟩:=z1.form;have R2:=hid (R1.out.next HB.out HNB.out z3 z2);have ZV:=hid (fun Wf ho=>Vl.val (Wf:=Wf) R1.out R2.out ho z1);clear z1 z2 z3 R1;have s2:=seven_j R2.out.res;obtain⟨b0,b1,b2,b3,b4,b5,b6,bz⟩:=s2;have bz0:=bz 0;have bz1:=bz 1;have bz2:=bz 2;have bz3:=bz 3;have bz4:=bz 4;have bz5:=bz 5;have bz6:=bz 6;clear bz)))
    (try simp only [Exit.inBlock,Exit.then])
    refine bodyPost_ret (results_val2 rfl _ _ _ 57 _ (0,0) rfl (seven_put (has_seven R2.out.res) _ _ _ _ _ _ _) rfl) rfl ?_;obtain⟨e2,e3⟩:=R2.out.out HB.out (out7 _ _ _ _ _ _ _ _ _);exact⟨_,_,_,rfl,ZV.out _ (out7 _ _ _ _ _ _ _ _ _),e2,e3⟩
 by_cases h123:nx l=123
 · obtain rfl:X=123:=by rw [←hX,h123];rfl
   have HN:=hid h123;have HL:Hid (∃ c l1,l=c::l1):=by
    cases l with
    |nil=>exact absurd h123 (by decide)
    |cons c t=>exact⟨c,t,rfl⟩
   clear hX h123 h34 h110 h116 h102 h91;obtain⟨f,hf1,hf2,hf3⟩:∃ f,ShortV f∧(d≠32→ValOk f b s (d+1))∧valWith inner l=(match (if d=32 then (.err 5 l:Res St) else nestedS (objStep f) [125] ([],[]) (l.drop 1)) with| .err k u=>.err k u| .ok x u=>.ok (.mk 6 false [] 0 false x.2 x.1) u):=by
    rcases HIn.out with ⟨h1,rfl⟩|⟨h1,f,rfl,h2,h3⟩
    · refine⟨fun _=>.err 3 [],fun _ _ _ e=>(nomatch e),fun h=>absurd h1 h,?_⟩;rw [if_pos h1];unfold valWith;simp only [HN.out];rfl
    · refine⟨f,h2,fun _=>h3,?_⟩;rw [if_neg h1];unfold valWith;simp only [HN.out];rfl
   have HF3:=hid hf3;clear hf3;cases ht:valWith inner l with
   |ok t u=>
    have HVal:=hid ht;have HF:=hid (And.intro hf1 hf2);clear ht hf1 hf2;go_enter Tryz.func121,Tryz.ntmps121;go_wp2_with (first|(go_at_call 193;refine(next_any R0.out.rd).mono ?_;rintro e w1 ⟨rfl,n,hw⟩;rw [HX.out];have R1:=hid (show Vl w w1 b s d l from by rw [hw];exact R0.out.next HB.out HNB.out ((Turn.refl _ _).drewN n) (R0.out.rd.drewN n));clear hw R0)|(go_at_call 197;(have hcall:=object_any R1.out.rd R1.out.env HNB.out HSZ.out HD.out HL.out HF.out.1 HF.out.2;(with_reducible refine hcall.mono ?_);clear hcall;intro e w2 hq;have hq2:=ToldV.as hq (HF3.out.symm.trans HVal.out);clear hq;obtain⟨cs,rfl,z1,z2,z3⟩:=hq2;obtain⟨q1,q2,q3,q4,q5,q6,q7,q8,q9,q10,q11,rfl⟩:=z1.form;have R2:=hid (R1.out.next HB.out HNB.out z3 z2);have ZV:=hid (fun Wf ho=>Vl.val (Wf:=Wf) R1.out R2.out ho z1);clear z1 z2 z3 R1;have s2:=seven_j R2.out.res;obtain⟨b0,b1,b2,b3,b4,b5,b6,bz⟩:=s2;have bz0:=bz 0;have bz1:=bz 1;have bz2:=bz 2;have bz3:=bz 3;have bz4:=bz 4;have bz5:=bz 5;have bz6:=bz 6;clear bz)))
    (try simp only [Exit.inBlock,Exit.then])
    refine bodyPost_ret (results_val2 rfl _ _ _ 57 _ (0,0) rfl (seven_put (has_seven R2.out.res) _ _ _ _ _ _ _) rfl) rfl ?_;obtain⟨e2,e3⟩:=R2.out.out HB.out (out7 _ _ _ _ _ _ _ _ _);exact⟨_,rfl,ZV.out _ (out7 _ _ _ _ _ _ _ _ _),e2,e3⟩
   |err k u=>
    have HVal:=hid ht;have HF:=hid (And.intro hf1 hf2);clear ht hf1 hf2;go_enter Tryz.func121,Tryz.ntmps121;go_wp2_with (first|(go_at_call 193;refine(next_any R0.out.rd).mono ?_;rintro e w1 ⟨rfl,n,hw⟩;rw [HX.out];have R1:=hid (show Vl w w1 b s d l from by rw [hw];exact R0.out.next HB.out HNB.out ((Turn.refl _ _).drewN n) (R0.out.rd.drewN n));clear hw R0)|(go_at_call 197;(have hcall:=object_any R1.out.rd R1.out.env HNB.out HSZ.out HD.out HL.out HF.out.1 HF.out.2;(with_reducible refine hcall.mono ?_);clear hcall;intro e w2 hq;have hq2:=ToldV.as hq (HF3.out.symm.trans HVal.out);clear hq;obtain⟨t,cs,d',rfl,z1,z2,z3⟩:=hq2;obtain⟨q1,q2,q3,q4,q5,q6,q7,q8,q9,q10,q11,rfl⟩:=z1.form;have R2:=hid (R1.out.next HB.out HNB.out z3 z2);have ZV:=hid (fun Wf ho=>Vl.val (Wf:=Wf) R1.out R2.out ho z1);clear z1 z2 z3 R1;have s2:=seven_j R2.out.res;obtain⟨b0,b1,b2,b3,b4,b5,b6,bz⟩:=s2;have bz0:=bz 0;have bz1:=bz 1;have bz2:=bz 2;have bz3:=bz 3;have bz4:=bz 4;have bz5:=bz 5;have bz6:=bz 6;clear bz)))
    (try simp only [Exit.inBlock,Exit.then])
    refine bodyPost_ret (results_val2 rfl _ _ _ 57 _ (0,0) rfl (seven_put (has_seven R2.out.res) _ _ _ _ _ _ _) rfl) rfl ?_;obtain⟨e2,e3⟩:=R2.out.out HB.out (out7 _ _ _ _ _ _ _ _ _);exact⟨_,_,_,rfl,ZV.out _ (out7 _ _ _ _ _ _ _ _ _),e2,e3⟩
 have n110:((X:Int)== 110)=false:=by
  simp only [beq_eq_false_iff_ne,ne_eq];intro e;apply h110;apply UInt8.toNat_inj.1;rw [hX];show X=110;omega
 have n116:((X:Int)== 116)=false:=by
  simp only [beq_eq_false_iff_ne,ne_eq];intro e;apply h116;apply UInt8.toNat_inj.1;rw [hX];show X=116;omega
 have n102:((X:Int)== 102)=false:=by
  simp only [beq_eq_false_iff_ne,ne_eq];intro e;apply h102;apply UInt8.toNat_inj.1;rw [hX];show X=102;omega
 have n34:((X:Int)== 34)=false:=by
  simp only [beq_eq_false_iff_ne,ne_eq];intro e;apply h34;apply UInt8.toNat_inj.1;rw [hX];show X=34;omega
 have n91:((X:Int)== 91)=false:=by
  simp only [beq_eq_false_iff_ne,ne_eq];intro e;apply h91;apply UInt8.toNat_inj.1;rw [hX];show X=91;omega
 have n123:((X:Int)== 123)=false:=by
  simp only [beq_eq_false_iff_ne,ne_eq];intro e;apply h123;apply UInt8.toNat_inj.1;rw [hX];show X=123;omega
 have HN:=hid (And.intro h110 (And.intro h116 (And.intro h102 (And.intro h34 (And.intro h91 h123)))));clear hX h110 h116 h102 h34 h91 h123;cases ht:number l with
 |err k u=>
  have HNu:=hid ht;have HVal:Hid (valWith inner l= .err k u):=by unfold Hid valWith;rw [if_neg HN.out.1,if_neg HN.out.2.1,if_neg HN.out.2.2.1,if_neg HN.out.2.2.2.1,if_neg HN.out.2.2.2.2.1,if_neg HN.out.2.2.2.2.2,ht]
  clear ht;go_enter Tryz.func121,Tryz.ntmps121;go_wp2_with (first|(go_at_call 193;refine(next_any R0.out.rd).mono ?_;rintro e w1 ⟨rfl,n,hw⟩;rw [HX.out];have R1:=hid (show Vl w w1 b s d l from by rw [hw];exact R0.out.next HB.out HNB.out ((Turn.refl _ _).drewN n) (R0.out.rd.drewN n));clear hw R0;obtain⟨p,hA⟩:=R1.out.rd.at;have c1:=hA.c1;have HA:=hid hA;clear hA)|(go_at_call 198;(with_reducible refine(number_any R1.out.rd).mono ?_);intro e w2 hq;obtain⟨rfl,hz⟩:=Told.no hq HNu.out;have R2:=hid (R1.out.next HB.out HNB.out hz.2 hz.1);clear hz hq R1;have s2:=seven_j R2.out.res;obtain⟨b0,b1,b2,b3,b4,b5,b6,bz⟩:=s2;have bz0:=bz 0;have bz1:=bz 1;have bz2:=bz 2;have bz3:=bz 3;have bz4:=bz 4;have bz5:=bz 5;have bz6:=bz 6;clear bz))
  (try simp only [Exit.inBlock,Exit.then])
  refine bodyPost_ret (results_val2 rfl _ _ _ 57 _ (0,0) rfl (seven_put (has_seven R2.out.res) _ _ _ _ _ _ _) rfl) rfl ?_;rw [HVal.out];obtain⟨e2,e3⟩:=R2.out.out HB.out (out7 _ _ _ _ _ _ _ _ _);exact⟨_,_,_,rfl,flat_val _ _ _ _ [] _ _,e2,e3⟩
 |ok y u=>
  have HNu:=hid ht;have HVal:Hid (valWith inner l= .ok (numV (l.take (l.length-u.length))) u):=by unfold Hid valWith;rw [if_neg HN.out.1,if_neg HN.out.2.1,if_neg HN.out.2.2.1,if_neg HN.out.2.2.2.1,if_neg HN.out.2.2.2.2.1,if_neg HN.out.2.2.2.2.2,ht]
  have HSh:=hid (number_short ht);clear ht;go_enter Tryz.func121,Tryz.ntmps121;go_wp2_with (first|(go_at_call 193;refine(next_any R0.out.rd).mono ?_;rintro e w1 ⟨rfl,n,hw⟩;rw [HX.out];have R1:=hid (show Vl w w1 b s d l from by rw [hw];exact R0.out.next HB.out HNB.out ((Turn.refl _ _).drewN n) (R0.out.rd.drewN n));clear hw R0;obtain⟨p,hA⟩:=R1.out.rd.at;have c1:=hA.c1;have HA:=hid hA;clear hA)|(go_at_call 198;(with_reducible refine(number_any R1.out.rd).mono ?_);intro e w2 hq;obtain⟨rfl,hz⟩:=Told.yes hq HNu.out;have R2:=hid (R1.out.next HB.out HNB.out hz.2 hz.1);clear hz hq R1;obtain⟨q,hA2⟩:=R2.out.rd.at;have HA2:=hid hA2;clear hA2));have HEx:=hid (ext_take HA.out HA2.out);have hpq:p≤q∧q≤s.size:=by have a1:=HA.out.len;have a2:=HA2.out.len;have a3:=HA.out.le;have a4:=HA2.out.le;have a5:=HSh.out;omega
  have hms:=HSZ.out;have HLn:=hid (show (l.take (l.length-u.length)).length≤1048576 from by rw [List.length_take];have a1:=HA.out.len;omega);have H2:=hid (show Rd2 w2 b s q from HA2.out.two);refine wp_region_noPanic ?_;refine any_begin 14 (by kernel_rfl) (by kernel_rfl) ?_;refine late_begin (fun U=>Rd2 U b s q) (fun _=>false) (H2.out.below (below_drew_j (Below.refl _ _) 1)) (fun hS=>?_);refine ltk (i:=0) (some 57) rfl rfl (v:= ?v0a) ?hy0a hS ?rest0a
  case hy0a=>intro w0 hSw;obtain⟨k0,k1⟩:=hSw;go_simp;try with_reducible rfl
  simp only [Act.put,sA,sB,sC];refine ltk (i:=1) (some 58) rfl rfl (v:= ?v1a) ?hy1a hS ?rest1a
  case hy1a=>intro w0 hSw;obtain⟨k0,k1⟩:=hSw;go_simp;try with_reducible rfl
  simp only [Act.put,sA,sB,sC];refine ltk (i:=2) (some 59) rfl rfl (v:= ?v2a) ?hy2a hS ?rest2a
  case hy2a=>intro w0 hSw;obtain⟨k0,k1⟩:=hSw;go_simp;try with_reducible rfl
  simp only [Act.put,sA,sB,sC];refine ltk (i:=3) (some 60) rfl rfl (v:= ?v3a) ?hy3a hS ?rest3a
  case hy3a=>intro w0 hSw;obtain⟨k0,k1⟩:=hSw;go_simp;try with_reducible rfl
  simp only [Act.put,sA,sB,sC];refine ltk (i:=4) (some 61) rfl rfl (v:= ?v4a) ?hy4a hS ?rest4a
  case hy4a=>intro w0 hSw;obtain⟨k0,k1⟩:=hSw;go_simp;try with_reducible rfl
  simp only [Act.put,sA,sB,sC];refine ltk (i:=5) (some 62) rfl rfl (v:= ?v5a) ?hy5a hS ?rest5a
  case hy5a=>intro w0 hSw;obtain⟨k0,k1⟩:=hSw;go_simp;try with_reducible rfl
  simp only [Act.put,sA,sB,sC];refine ltk (i:=6) (some 63) rfl rfl (v:= ?v6a) ?hy6a hS ?rest6a
  case hy6a=>intro w0 hSw;obtain⟨k0,k1⟩:=hSw;go_simp;try with_reducible rfl
  simp only [Act.put,sA,sB,sC];refine ltk (i:=7) (some 64) rfl rfl (v:= ?v7a) ?hy7a hS ?rest7a
  case hy7a=>intro w0 hSw;obtain⟨k0,k1⟩:=hSw;go_simp;try with_reducible rfl
  simp only [Act.put,sA,sB,sC];refine ltk (i:=8) (some 65) rfl rfl (v:= ?v8a) ?hy8a hS ?rest8a
  case hy8a=>intro w0 hSw;obtain⟨k0,k1⟩:=hSw;go_simp;try with_reducible rfl
  simp only [Act.put,sA,sB,sC];refine late_take (i:=9) (some 66) rfl rfl (by kernel_rfl) (by kernel_rfl) (by kernel_rfl) (by kernel_rfl) (by kernel_rfl) (fun _ _ _ h=>h) (by rfl) (v:=.string (s.extract p q)) ?hy9a hS ?rest9a
  case hy9a=>intro w0 hSw;go_simp
  simp only [Act.put,sA,sB,sC];rw [HEx.out];refine wpAnyD_one (i:=10) (by kernel_rfl) rfl (fun K hK=>?_);go_simp;go_at_call 200;refine(clone_any_j _ HLn.out _).mono ?_;rintro e w3 ⟨rfl,hb3⟩;have HB3:=hid ((below_drew_j (Below.refl _ w2) 1).trans hb3);clear hb3;refine hK _ _ ⟨fun _=>H2.out.below HB3.out,?_⟩;clear hK K;replace hS:=H2.out.below HB3.out;have hnum:=num_any _ HLn.out w3 (R2.out.env.below HB3.out);simp only [vcells] at hnum;have HNm:=hid hnum;clear hnum;refine wpAnyD_one (i:=11) (by kernel_rfl) rfl (fun K hK=>?_);go_simp;go_at_call 199;refine HNm.out.mono ?_;rintro e w4 ⟨rfl,hb4⟩;have HB4:=hid (HB3.out.trans (hb4.mono HB3.out.size));clear hb4;refine hK _ _ ⟨fun _=>H2.out.below HB4.out,?_⟩;clear hK K;replace hS:=H2.out.below HB4.out;have R3:=hid (R2.out.next HB.out HNB.out (Turn.of_below HB4.out) (R2.out.rd.below HB4.out));have s2:=seven_j R3.out.res;obtain⟨b0,b1,b2,b3,b4,b5,b6,bz⟩:=s2;have bz0:=bz 0;have bz1:=bz 1;have bz2:=bz 2;have bz3:=bz 3;have bz4:=bz 4;have bz5:=bz 5;have bz6:=bz 6;clear bz;refine wpAnyD_one (i:=12) (by kernel_rfl) rfl (fun K hK=>?_);go_simp;have hS2:Rd2 (((((((w4.setCell ⟨w.heap.size,0,none⟩ (.int .i64 3)).setCell ⟨w.heap.size,1,none⟩ (.bool false)).setCell ⟨w.heap.size,2,none⟩ (.string (str (l.take (l.length-u.length))))).setCell ⟨w.heap.size,3,none⟩ (.int .i64 (numI (l.take (l.length-u.length))))).setCell ⟨w.heap.size,4,none⟩ (.bool (numH (l.take (l.length-u.length))))).setCell ⟨w.heap.size,5,none⟩ (.slice none 0 0)).setCell ⟨w.heap.size,6,none⟩ (.slice none 0 0)) b s q:=Rd2.out hS HB.out (out7 _ _ _ _ _ _ _ _ _);refine hK _ _ ⟨fun _=>hS2,?_⟩;clear hK K;replace hS:=hS2;refine ltk (i:=13) (some 3) rfl rfl (v:= ?v13a) ?hy13a hS ?rest13a
  case hy13a=>intro w0 hSw;obtain⟨k0,k1⟩:=hSw;go_simp;try with_reducible rfl
  simp only [Act.put,sA,sB,sC];refine late_done (by kernel_rfl) ?_ _;refine NoPanic.normal ?_;clear hS hS2;go_wp2
  (try simp only [Exit.inBlock,Exit.then])
  refine bodyPost_ret (results_val2 rfl _ _ _ 57 _ (0,0) rfl (seven_put (has_seven R3.out.res) _ _ _ _ _ _ _) rfl) rfl ?_;rw [HVal.out];obtain⟨e2,e3⟩:=R3.out.out HB.out (out7 _ _ _ _ _ _ _ _ _);refine⟨_,rfl,?_,e2,e3⟩;rw [num_parts];exact flat_val _ _ _ _ _ _ _
theorem val_any {b:Nat}{s:ByteArray} (hnb:6≤b) (hsz:s.size≤1048576):∀ n d,n+d=32→ValOk (val n) b s d
 |0,d,h=>value_any hnb hsz (by omega) (.inl ⟨by omega,rfl⟩)
 |n+1,d,h=>value_any hnb hsz (by omega) (.inr ⟨by omega,val n,rfl,val_short n,val_any hnb hsz n (d+1) (by omega)⟩)
abbrev C7 (q1:Int) (q2:Bool) (q3:B) (q4:Int) (q5:Bool) (q6:Option Addr) (q7 q8:Nat) (q9:Option Addr) (q10 q11:Nat):Obj:=.cells #[.int .i64 q1,.bool q2,.string (str q3),.int .i64 q4,.bool q5,.slice q6 q7 q8,.slice q9 q10 q11] 57 (0,0)
theorem whole_val {w w1 w2 w4 Wf:World}{b:Nat}{x:JV}{cs:List Value} (hlt:w.heap.size<w1.heap.size) (hb:b<w.heap.size) (hv:ValIs w2 (fun k=>w1.heap.size≤k∧k<w2.heap.size) x cs) (hz:∀ k,k<w2.heap.size→k≠b→w4.heap[k]?=w2.heap[k]?) (hs:w2.heap.size≤w4.heap.size) (ho:Out7 w4 Wf w.heap.size):ValIs Wf (fun k=>w.heap.size≤k∧k<Wf.heap.size) x cs:=
 ValIs.keep (fun j hj=>(ho.other j (by omega)).trans (hz j hj.2 (by omega))) (fun j hj=>⟨by omega,by rw [ho.size];omega⟩) _ _ hv
theorem dec_nat (a b:Nat):decide ((a:Int)<(b:Int))=decide (a<b):=by
 by_cases h:a<b
 · rw [decide_eq_true h,decide_eq_true (by omega)]
 · rw [decide_eq_false h,decide_eq_false (by omega)]
theorem whole_any {w:World}{b:Nat}{s:ByteArray}{l:B} (hnb:6≤b) (hsz:s.size≤1048576) (h:Rd w b s l 0) (hE:Env w):
 Calls Tryz.prog 59 #[.pointer (some ⟨b,0,none⟩)] w fun e w'=>ToldV (whole l) b s 0 w e w':=by
 have HB:=hid h.lt;have HNB:=hid hnb;have HSZ:=hid hsz;have R0:=hid (Vl.start h hE);clear hnb hsz h hE;cases hv:val 32 (blanks l) with
 |err k u=>
  have HV:=hid hv;have HVal:Hid (whole l= .err k u):=by unfold Hid whole;rw [hv]
  clear hv;go_enter Tryz.func59,Tryz.ntmps59;go_wp2_with (first|(go_at_call 120;(with_reducible refine(blanks_any R0.out.rd).mono ?_);rintro e w1 ⟨rfl,z1,z2⟩;have R1:=hid (R0.out.next HB.out HNB.out z2 z1);clear z1 z2 R0)|(go_at_call 121;have hcall:=val_any HNB.out HSZ.out 32 0 rfl w1 (blanks l) R1.out.rd R1.out.env;(with_reducible refine hcall.mono ?_);clear hcall;intro e w2 hq;have hq2:=ToldV.as hq HV.out;clear hq;obtain⟨t,cs,d',rfl,z1,z2,z3⟩:=hq2;obtain⟨q1,q2,q3,q4,q5,q6,q7,q8,q9,q10,q11,rfl⟩:=z1.form;have R2:=hid (R1.out.next HB.out HNB.out z3 z2);clear z1 z2 z3 R1;have R3:=hid (R2.out.next HB.out HNB.out ((Turn.refl _ _).alloc (C7 q1 q2 q3 q4 q5 q6 q7 q8 q9 q10 q11)) (R2.out.rd.below (below_new _ _)));have s2:=seven_j R3.out.res;obtain⟨b0,b1,b2,b3,b4,b5,b6,bz⟩:=s2;have bz0:=bz 0;have bz1:=bz 1;have bz2:=bz 2;have bz3:=bz 3;have bz4:=bz 4;have bz5:=bz 5;have bz6:=bz 6;clear bz))
  (try simp only [Exit.inBlock,Exit.then])
  refine bodyPost_ret (results_val2 rfl _ _ _ 57 _ (0,0) rfl (seven_put (has_seven R3.out.res) _ _ _ _ _ _ _) rfl) rfl ?_;rw [HVal.out];obtain⟨e2,e3⟩:=R3.out.out HB.out (out7 _ _ _ _ _ _ _ _ _);exact⟨_,_,_,rfl,flat_val _ _ _ _ [] _ _,e2,e3⟩
 |ok t u=>
  have HV:=hid hv;by_cases hb:blanks u= []
  · have HVal:Hid (whole l= .ok t []):=by unfold Hid whole;rw [hv];exact if_pos hb
    have HBl:=hid hb;clear hv hb;go_enter Tryz.func59,Tryz.ntmps59;go_wp2_with (first|(go_at_call 120;(with_reducible refine(blanks_any R0.out.rd).mono ?_);rintro e w1 ⟨rfl,z1,z2⟩;have R1:=hid (R0.out.next HB.out HNB.out z2 z1);clear z1 z2 R0)|(go_at_call 121;have hcall:=val_any HNB.out HSZ.out 32 0 rfl w1 (blanks l) R1.out.rd R1.out.env;(with_reducible refine hcall.mono ?_);clear hcall;intro e w2 hq;have hq2:=ToldV.as hq HV.out;clear hq;obtain⟨cs,rfl,z1,z2,z3⟩:=hq2;obtain⟨q1,q2,q3,q4,q5,q6,q7,q8,q9,q10,q11,rfl⟩:=z1.form;have R2:=hid (R1.out.next HB.out HNB.out z3 z2);have Z1:=hid z1;have HLt:=hid (lt_of_heap R1.out.res);clear z1 z2 z3 R1;have R3:=hid (R2.out.next HB.out HNB.out ((Turn.refl _ _).alloc (C7 q1 q2 q3 q4 q5 q6 q7 q8 q9 q10 q11)) (R2.out.rd.below (below_new _ _))))|(go_at_call 120;(with_reducible refine(blanks_any R3.out.rd).mono ?_);rintro e w4 ⟨rfl,z1,z2⟩;have R4:=hid (R3.out.next HB.out HNB.out z2 z1);have HC:=hid ((z2.block w2.heap.size (by simp) (by have:=HB.out;have:=R2.out.turn.size;omega)).trans (heap_alloc_new w2 (C7 q1 q2 q3 q4 q5 q6 q7 q8 q9 q10 q11)));have ZB:=hid (show ∀ k,k<w2.heap.size→k≠b→w4.heap[k]?=w2.heap[k]? from fun k hk hkb=>(z2.block k (by simp;omega) hkb).trans ((below_new w2 _).block k hk));clear z1 z2 R3;have s3:=seven_j HC.out;obtain⟨x0,x1,x2,x3,x4,x5,x6,_⟩:=s3;obtain⟨q,hA⟩:=R4.out.rd.at;have c0:=hA.c0;have c1:=hA.c1;have HA:=hid hA;clear hA;have s2:=seven_j R4.out.res;obtain⟨b0,b1,b2,b3,b4,b5,b6,bz⟩:=s2;have bz0:=bz 0;have bz1:=bz 1;have bz2:=bz 2;have bz3:=bz 3;have bz4:=bz 4;have bz5:=bz 5;have bz6:=bz 6;clear bz;have hdec:decide ((q:Int)<(s.size:Int))=false:=(by(rw [decide_eq_false_iff_not];have a:=HA.out.len;rw [HBl.out,List.length_nil] at a;omega));have hdec2:=(dec_nat q s.size).symm.trans hdec));go_quiet (fail);go_wp2;have R5:=hid (R4.out.next HB.out HNB.out ((Turn.refl _ _).drewN nq) (R4.out.rd.drewN nq))
    (try simp only [Exit.inBlock,Exit.then])
    refine bodyPost_ret (results_val2 rfl _ _ _ 57 _ (0,0) rfl (seven_put (has_seven R5.out.res) _ _ _ _ _ _ _) rfl) rfl ?_;rw [HVal.out];obtain⟨e2,e3⟩:=R5.out.out HB.out (out7 _ _ _ _ _ _ _ _ _);refine⟨_,rfl,?_,by rw [←HBl.out];exact e2,e3⟩;exact whole_val HLt.out HB.out Z1.out (fun k hk hkb=>(((Turn.refl b w4).drewN nq).block k (by have:=lt_of_heap HC.out;omega) hkb).trans (ZB.out k hk hkb)) (by have:=lt_of_heap HC.out;have:=((Turn.refl b w4).drewN nq).size;omega) (out7 _ _ _ _ _ _ _ _ _)
  · have HVal:Hid (whole l= .err 3 (blanks u)):=by unfold Hid whole;rw [hv];exact if_neg hb
    have HBl:=hid hb;clear hv hb;go_enter Tryz.func59,Tryz.ntmps59;go_wp2_with (first|(go_at_call 120;(with_reducible refine(blanks_any R0.out.rd).mono ?_);rintro e w1 ⟨rfl,z1,z2⟩;have R1:=hid (R0.out.next HB.out HNB.out z2 z1);clear z1 z2 R0)|(go_at_call 121;have hcall:=val_any HNB.out HSZ.out 32 0 rfl w1 (blanks l) R1.out.rd R1.out.env;(with_reducible refine hcall.mono ?_);clear hcall;intro e w2 hq;have hq2:=ToldV.as hq HV.out;clear hq;obtain⟨cs,rfl,z1,z2,z3⟩:=hq2;obtain⟨q1,q2,q3,q4,q5,q6,q7,q8,q9,q10,q11,rfl⟩:=z1.form;have R2:=hid (R1.out.next HB.out HNB.out z3 z2);have Z1:=hid z1;have HLt:=hid (lt_of_heap R1.out.res);clear z1 z2 z3 R1;have R3:=hid (R2.out.next HB.out HNB.out ((Turn.refl _ _).alloc (C7 q1 q2 q3 q4 q5 q6 q7 q8 q9 q10 q11)) (R2.out.rd.below (below_new _ _))))|(go_at_call 120;(with_reducible refine(blanks_any R3.out.rd).mono ?_);rintro e w4 ⟨rfl,z1,z2⟩;have R4:=hid (R3.out.next HB.out HNB.out z2 z1);have HC:=hid ((z2.block w2.heap.size (by simp) (by have:=HB.out;have:=R2.out.turn.size;omega)).trans (heap_alloc_new w2 (C7 q1 q2 q3 q4 q5 q6 q7 q8 q9 q10 q11)));have ZB:=hid (show ∀ k,k<w2.heap.size→k≠b→w4.heap[k]?=w2.heap[k]? from fun k hk hkb=>(z2.block k (by simp;omega) hkb).trans ((below_new w2 _).block k hk));clear z1 z2 R3;have s3:=seven_j HC.out;obtain⟨x0,x1,x2,x3,x4,x5,x6,_⟩:=s3;obtain⟨q,hA⟩:=R4.out.rd.at;have c0:=hA.c0;have c1:=hA.c1;have HA:=hid hA;clear hA;have s2:=seven_j R4.out.res;obtain⟨b0,b1,b2,b3,b4,b5,b6,bz⟩:=s2;have bz0:=bz 0;have bz1:=bz 1;have bz2:=bz 2;have bz3:=bz 3;have bz4:=bz 4;have bz5:=bz 5;have bz6:=bz 6;clear bz;have hdec:decide ((q:Int)<(s.size:Int))=true:=(by(rw [decide_eq_true_eq];have a:=HA.out.len;have a2:=HA.out.le;have a3:(blanks u).length≠0:=(fun e=>HBl.out (List.eq_nil_of_length_eq_zero e));omega));have hdec2:=(dec_nat q s.size).symm.trans hdec));go_quiet (fail);go_wp2;have R5:=hid (R4.out.next HB.out HNB.out ((Turn.refl _ _).drewN nq) (R4.out.rd.drewN nq))
    (try simp only [Exit.inBlock,Exit.then])
    refine bodyPost_ret (results_val2 rfl _ _ _ 57 _ (0,0) rfl (seven_put (has_seven R5.out.res) _ _ _ _ _ _ _) rfl) rfl ?_;rw [HVal.out];obtain⟨e2,e3⟩:=R5.out.out HB.out (out7 _ _ _ _ _ _ _ _ _);exact⟨_,_,_,rfl,flat_val _ _ _ _ [] _ _,e2,e3⟩
def errOf_j (k:Nat):Value:=if k=0 then .nilIface else errV_j k
theorem errOf_pos_j {k:Nat} (h:k≠0):errOf_j k=errV_j k:=by unfold errOf_j;rw [if_neg h]
theorem val_size3 {fn:Func}{p u v:Tmp} (h:fn.results= #[.cell p 57,.tmp u,.tmp v]) (tmps:Array Value) (w:World) (g:Nat) (t:TypeId) (cs:Array Value) (fr:Nat×Nat)
 (hp:tmps.getD p undef= .pointer (some ⟨g,0,none⟩)) (hg:w.heap[g]?=some (.cells cs t fr)) (hs:cs.size=7):(results fn tmps).run Tryz.prog w= .ok (.tuple #[.agg cs,tmps.getD u undef,tmps.getD v undef]) w:=by
 have hl:=run_loadVar_row (P:=Tryz.prog) w g t 57 cs fr _ hg Tryz.underlying57 rfl (by rw [val_size,hs]);have e:(results fn tmps).run Tryz.prog w=((asAddr (tmps.getD p undef)).run Tryz.prog w).andThen fun a w₁=>((loadVar 57 a).run Tryz.prog w₁).andThen fun x w₂=>.ok (.tuple #[x,tmps.getD u undef,tmps.getD v undef]) w₂:=by
  simp only [results,h];simp [Sem.run_bind,Result.andThen]
 rw [e,hp];simp [asAddr,Result.andThen,hl]
def ToldPa (r:JV×Nat×Nat) (w:World) (e:Ending) (w':World):Prop:=
 ∃ cs,e= .returned (.tuple #[.agg cs.toArray,.int .i64 (r.2.1:Int),errOf_j r.2.2])∧ValIs w' (fun k=>w.heap.size≤k∧k<w'.heap.size) r.1 cs∧Below w.heap.size w w'
end Go.Proofs.YtlmefgjhbohjlaaGreatDoor
