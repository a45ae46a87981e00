/- The document's Request. -/
import Derived.Test.YtlmlljlappjjjaaGreatDoorQReq
import Derived.Test.YtlmlljlappjjjaaGreatDoorTRParse2
namespace Go.Proofs.YtlmlljlappjjjaaGreatDoor
set_option maxRecDepth 20000
set_option maxHeartbeats 64000000
open Go.RowKit
structure B3R (w W:World) (O1 O2 O3:Obj):Prop where
 low:Below w.heap.size w W
 a:W.heap[w.heap.size]?=some O1
 b:W.heap[w.heap.size+1]?=some O2
 c:W.heap[w.heap.size+1+1]?=some O3
theorem B3R.next {w W W':World}{O1 O2 O3:Obj} (h:B3R w W O1 O2 O3) (hb:Below W.heap.size W W'):B3R w W' O1 O2 O3:=⟨below_out h.low hb,kB hb h.a,kB hb h.b,kB hb h.c⟩
theorem B3R.new (w:World) (O1 O2 O3:Obj):B3R w (((w.alloc O1).alloc O2).alloc O3) O1 O2 O3:=by
 have h0:=BxR.new w O1 O2;have hs:((w.alloc O1).alloc O2).heap.size=w.heap.size+1+1:=by simp
 have h1:=heap_alloc_new ((w.alloc O1).alloc O2) O3;rw [hs] at h1;have h2:=h0.next (below_new _ O3)
 exact⟨h2.low,h2.a,h2.b,h1⟩
def RReqOf (s:Sum Nat (B×B)) (L:List RtC) (method:B) (w:World) (e:Ending) (w':World):Prop:=match s with
 | .inl k=>e= .returned (.tuple #[foundV 0 (.slice none 0 0) [],.int .i64 (k:Int)])∧Below w.heap.size w w'
 | .inr (h,p)=>RDAns L h p method w e w'
def RReqAns (L:List RtC) (method target:B) (fs:List (B×B)) (w:World) (e:Ending) (w':World):Prop:=RReqOf (askQ target fs) L method w e w'
def FndW (L:List RtC) (h p method:B) (b:Nat) (W:World) (i:Int) (v:Value) (S:ByteArray) (er:Int):Prop:=
 (∃ k:Nat,FndNo L h p method k∧k≠0∧i=((0:Nat):Int)∧v= .slice none 0 0∧S=str []∧er=(k:Int))∨
 (∃ (j:Nat) (F:List (B×B)) (m:B) (q:Option Addr) (d:Nat),FndYes L h p method j F m∧i=(j:Int)∧v= .slice q F.length d∧S=str m∧er=0∧OwnF W b v F)
theorem fndW_of {L:List RtC}{h p method:B}{w:World}{e:Ending}{w':World} (H:RDAns L h p method w e w'):∃ i q n d S er,e= .returned (.tuple #[.agg #[.int .i64 i,.slice q n d,.string S],.int .i64 er])∧Below w.heap.size w w'∧FndW L h p method w.heap.size w' i (.slice q n d) S er:=by
 rcases H with ⟨hb,⟨k,h1,h2,rfl⟩|⟨i,F,m,q,d,h1,rfl,h2⟩⟩
 · exact⟨_,none,0,0,_,_,rfl,hb,.inl ⟨k,h1,h2,rfl,rfl,rfl,rfl⟩⟩
 · exact⟨_,q,F.length,d,_,_,rfl,hb,.inr ⟨i,F,m,q,d,h1,rfl,rfl,rfl,rfl,h2⟩⟩
theorem fndW_back {L:List RtC}{h p method:B}{w W:World}{b:Nat}{i:Int}{v:Value}{S:ByteArray}{er:Int} (hb:Below w.heap.size w W) (hl:w.heap.size≤b) (H:FndW L h p method b W i v S er):RDAns L h p method w (.returned (.tuple #[.agg #[.int .i64 i,v,.string S],.int .i64 er])) W:=by
 rcases H with ⟨k,h1,h2,rfl,rfl,rfl,rfl⟩|⟨j,F,m,q,d,h1,rfl,rfl,rfl,rfl,h2⟩
 · exact⟨hb,.inl ⟨k,h1,h2,rfl⟩⟩
 · exact⟨hb,.inr ⟨j,F,m,q,d,h1,rfl,h2.lowT hl⟩⟩
theorem FndW.set3 {L:List RtC}{h p method:B}{W:World}{b g:Nat}{i:Int}{v a1 a2 a3 x y z:Value}{S:ByteArray}{er:Int} (H:FndW L h p method b W i v S er) (hg:W.heap[g]?=some (.cells #[a1,a2,a3] 50 (0,0))):FndW L h p method b (((W.setCell ⟨g,0,none⟩ x).setCell ⟨g,1,none⟩ y).setCell ⟨g,2,none⟩ z) i v S er:=by
 rcases H with H|⟨j,F,m,q,d,h1,h2,h3,h4,h5,h6⟩
 · exact .inl H
 · exact .inr ⟨j,F,m,q,d,h1,h2,h3,h4,h5,OwnF.set3 h6 hg⟩
theorem one_err {V:List ByteArray}:(oneB V).2=0↔V.length=1:=by
 unfold oneB
 match V with
 | []=>simp
 | [x]=>simp
 |x::y::r=>simp
theorem one_val {V:List ByteArray}{A:ByteArray} (h:V.length=1) (ha:∀ x,V= [x]→A=x):(oneB V).1=A:=by
 match V,h with
 | [x],_=>exact(ha x rfl).symm
theorem rdreq_any (l:List RtX) (p:Option Addr) (n c:Nat) (hn:l.length=n) (hf:FineR (l.map RtX.r)) (hz:∀ x∈l,RtZP x) (method target:B) (mi:Int) (fs:List (B×B)) (fp:Option Addr) (fn fc:Nat) (hfn:fs.length=fn) (w:World) (hF:FAt w fp fs) (hsz:szB fs) (hfl:fn≤1048576) (ht:target.length≤1048576) (hmx:MxAt w) (hT:RtsAt w p l):
  Calls Tryz.prog 19 #[.agg #[.slice p n c],.agg #[.string (str method),.string (str target),.int .i64 mi,.slice fp fn fc]] w fun e w'=>RReqAns (l.map RtX.r) method target fs w e w':=by
 have HFn:=hid hfn;have HF:=hid hF;have HSz:=hid hsz;have HPa:=hid (fun W:World=>rparse_any target (by omega) W);have HPl:=hid (parse_len target);have HOl:=hid (one_len_q hsz hostS);have HSp:=hid (fun (A:B) (hA:A.length≤1048577) (W:World)=>rsplitN A (by omega) W);have HSm:=hid (fun (f:B×B) (hf:f∈fs) (W:World)=>rsame_any (str f.1) hostS W (by rw [str_size];have:=(hsz f hf).1;omega) (by decide));have HFd:=hid (fun (h p':B) (hh:h.length≤1048577) (hp:p'.length≤1048577) (W:World) (hb:Below w.heap.size w W)=>rdfind_any l p n c hn hf hz h p' method (by omega) (by omega) W (hmx.next hb) (hT.next hb));have hpf:=parse_form target;have htl:=ht;obtain⟨SM,hSM⟩:∃ S,str method=S:=⟨_,rfl⟩;obtain⟨ST,hST⟩:∃ S,str target=S:=⟨_,rfl⟩;rw [hSM] at HFd ⊢;rw [hST] at HPa ⊢;have HB0:=hid (B3R.new w (.cells #[.slice p n c] 32 (0,0)) (.cells #[.string SM,.string ST,.int .i64 mi,.slice fp fn fc] 57 (0,0)) (.cells #[.int .i64 0,.slice none 0 0,.string ⟨#[]⟩] 50 (0,0)));unfold RReqAns askQ;rcases hpt:parseT target with ⟨⟨form,host,path,query,has⟩,k⟩
 rw [hpt] at HPa HPl hpf;unfold tgV at HPa;dsimp only at HPa HPl hpf ⊢;obtain⟨Xh,hXh⟩:∃ S,str host=S:=⟨_,rfl⟩;obtain⟨Xp,hXp⟩:∃ S,str path=S:=⟨_,rfl⟩;obtain⟨Xq,hXq⟩:∃ S,str query=S:=⟨_,rfl⟩;rw [hXh,hXp,hXq] at HPa;clear hn hf hz hmx hT hF hfn hsz hST hSM hXq hpt;obtain⟨c0,c1,c2,c3⟩:=box4r HB0.out.b;by_cases hk:k≠0
 · rw [if_pos hk];unfold RReqOf;dsimp only;have hki:¬(k:Int)=0:=by omega
   clear hk hpf;go_enter Tryz.func19,Tryz.ntmps19;go_wp2_with (go_at_call 46;(with_reducible refine(HPa.out _).mono ?_);rintro e w1 ⟨rfl,hb1⟩;have hn1:=below_new w1 (.cells #[.int .i64 form,.string Xh,.string Xp,.string Xq,.bool has] 111 (0,0));have HB1:=hid ((HB0.out.next hb1).next hn1);have HBl1:=hid hn1;have HT1:=hid (heap_alloc_new w1 (.cells #[.int .i64 form,.string Xh,.string Xp,.string Xq,.bool has] 111 (0,0)));obtain⟨y0,y1,y2⟩:=box5r HT1.out;obtain⟨z0,f0,z1,f1,z2,f2⟩:=fd_box HB1.out.c (.int .i64 0) (.slice none 0 0);clear hb1 hn1);refine bodyPost_ret (results_fdD rfl _ _ (w.heap.size+1+1) _ _ (0,0) rfl (heap_three HB1.out.c _ _ _) rfl) rfl ?_;exact⟨rfl,below_three HB1.out.low (by omega) _ _ _⟩
 have hk0:k=0:=by omega
 subst hk0;have hpf:=hpf rfl;rw [if_neg hk];clear hk;rw [show ((0:Nat):Int)=0 from rfl] at HPa;by_cases h3:form=3
 · subst h3;rw [if_pos rfl];unfold RReqOf;dsimp only;clear hpf;go_enter Tryz.func19,Tryz.ntmps19;go_wp2_with (go_at_call 46;(with_reducible refine(HPa.out _).mono ?_);rintro e w1 ⟨rfl,hb1⟩;have hn1:=below_new w1 (.cells #[.int .i64 3,.string Xh,.string Xp,.string Xq,.bool has] 111 (0,0));have HB1:=hid ((HB0.out.next hb1).next hn1);have HBl1:=hid hn1;have HT1:=hid (heap_alloc_new w1 (.cells #[.int .i64 3,.string Xh,.string Xp,.string Xq,.bool has] 111 (0,0)));obtain⟨y0,y1,y2⟩:=box5r HT1.out;obtain⟨z0,f0,z1,f1,z2,f2⟩:=fd_box HB1.out.c (.int .i64 0) (.slice none 0 0);clear hb1 hn1);refine bodyPost_ret (results_fdD rfl _ _ (w.heap.size+1+1) _ _ (0,0) rfl (heap_three HB1.out.c _ _ _) rfl) rfl ?_;exact⟨rfl,below_three HB1.out.low (by omega) _ _ _⟩
 rw [if_neg h3];by_cases h2:form=2
 · subst h2;rw [show authQ ⟨2,host,path,query,has⟩ fs=some host from if_pos rfl];unfold ofAuth RReqOf;dsimp only;clear hpf h3;have HSpA:=hid (HSp.out host (by have:=HPl.out.2;omega));have HFa:=hid (fun (W:World) (hb:Below w.heap.size w W)=>HFd.out (splitN host).1 path (Nat.le_trans (split_len _) (by have:=HPl.out.2;omega)) (by have:=HPl.out.1;omega) W hb);have hse:=split_err host;rcases hsp:splitN host with ⟨nm,po,er⟩
   rw [hsp] at HSpA HFa hse;dsimp only at HSpA HFa hse ⊢;obtain⟨Xn,hXn⟩:∃ S,str nm=S:=⟨_,rfl⟩;rw [hXh] at HSpA;rw [hXn,hXp] at HFa;rw [hXn] at HSpA;clear hsp hXn;rcases hse with rfl|rfl
   · rw [if_neg (by simp)];dsimp only;rw [show ((0:Nat):Int)=0 from rfl] at HSpA;go_enter Tryz.func19,Tryz.ntmps19;go_wp2_with (first|(go_at_call 46;(with_reducible refine(HPa.out _).mono ?_);rintro e w1 ⟨rfl,hb1⟩;have hn1:=below_new w1 (.cells #[.int .i64 2,.string Xh,.string Xp,.string Xq,.bool has] 111 (0,0));have HB1:=hid ((HB0.out.next hb1).next hn1);have HBl1:=hid hn1;have HT1:=hid (heap_alloc_new w1 (.cells #[.int .i64 2,.string Xh,.string Xp,.string Xq,.bool has] 111 (0,0)));obtain⟨y0,y1,y2⟩:=box5r HT1.out;clear c0 c1 c2 c3;obtain⟨c0,c1,c2,c3⟩:=box4r HB1.out.b;clear hb1 hn1)|(go_at_call 47;(with_reducible refine(HSpA.out _).mono ?_);rintro e w3 ⟨rfl,hb3⟩;have HB3:=hid (HB1.out.next hb3);have HT3:=hid (kB hb3 HT1.out);have x0:=cell0 HB3.out.a;clear y0 y1 y2;obtain⟨y0,y1,y2⟩:=box5r HT3.out;clear c0 c1 c2 c3;obtain⟨c0,c1,c2,c3⟩:=box4r HB3.out.b;clear hb3)|(go_at_call 13;(with_reducible refine(HFa.out _ HB3.out.low).mono ?_);rintro e w4 hf4;obtain⟨i4,q4,n4,d4,S4,er4,rfl,hb4,hV4⟩:=fndW_of hf4;have HB4:=hid (HB3.out.next hb4);have HV4:=hid hV4;have HS3:=hid HB3.out.low.size;obtain⟨z0,f0,z1,f1,z2,f2⟩:=fd_box HB4.out.c (.int .i64 i4) (.slice q4 n4 d4);clear hb4 hV4 hf4));refine bodyPost_ret (results_fdD rfl _ _ (w.heap.size+1+1) _ _ (0,0) rfl (heap_three HB4.out.c _ _ _) rfl) rfl ?_;exact fndW_back (below_three HB4.out.low (by omega) _ _ _) HS3.out (HV4.out.set3 HB4.out.c)
   · rw [if_pos (by decide)];dsimp only;rw [show ((3:Nat):Int)=3 from rfl] at HSpA ⊢;go_enter Tryz.func19,Tryz.ntmps19;go_wp2_with (first|(go_at_call 46;(with_reducible refine(HPa.out _).mono ?_);rintro e w1 ⟨rfl,hb1⟩;have hn1:=below_new w1 (.cells #[.int .i64 2,.string Xh,.string Xp,.string Xq,.bool has] 111 (0,0));have HB1:=hid ((HB0.out.next hb1).next hn1);have HBl1:=hid hn1;have HT1:=hid (heap_alloc_new w1 (.cells #[.int .i64 2,.string Xh,.string Xp,.string Xq,.bool has] 111 (0,0)));obtain⟨y0,y1,y2⟩:=box5r HT1.out;clear c0 c1 c2 c3;obtain⟨c0,c1,c2,c3⟩:=box4r HB1.out.b;clear hb1 hn1)|(go_at_call 47;(with_reducible refine(HSpA.out _).mono ?_);rintro e w3 ⟨rfl,hb3⟩;have HB3:=hid (HB1.out.next hb3);have HT3:=hid (kB hb3 HT1.out);obtain⟨z0,f0,z1,f1,z2,f2⟩:=fd_box HB3.out.c (.int .i64 0) (.slice none 0 0);clear hb3));refine bodyPost_ret (results_fdD rfl _ _ (w.heap.size+1+1) _ _ (0,0) rfl (heap_three HB3.out.c _ _ _) rfl) rfl ?_;exact⟨rfl,below_three HB3.out.low (by omega) _ _ _⟩
 obtain rfl:form=1:=by
  rcases hpf with h|h|h
  · exact h
  · exact absurd h h2
  · exact absurd h h3
 have ha:authQ ⟨1,host,path,query,has⟩ fs=if (oneB (valsB fs hostS)).2=0 then some (oneB (valsB fs hostS)).1.data.toList else none:=if_neg (show ¬(1:Int)=2 by decide)
 obtain⟨RR,hRR⟩:∃ R,ofAuth (authQ ⟨1,host,path,query,has⟩ fs) path=R:=⟨_,rfl⟩;have HR1:=hid (fun (A:ByteArray) (h1:(valsB fs hostS).length=1) (hA:∀ x,valsB fs hostS= [x]→A=x)=>show RR=(if (splitN A.data.toList).2.2≠0 then .inl 3 else .inr ((splitN A.data.toList).1,path)) from by
  rw [←hRR,ha,if_pos (one_err.2 h1),one_val h1 hA];rfl)
 have HR2:=hid (fun (h1:¬(valsB fs hostS).length=1)=>show RR= .inl 3 from by
  rw [←hRR,ha,if_neg (fun h=>h1 (one_err.1 h))];rfl)
 have HOv:=hid (fun (A:ByteArray) (h1:(valsB fs hostS).length=1) (hA:∀ x,valsB fs hostS= [x]→A=x)=>show A.size≤1048576 from by
  have h9:=HOl.out;rw [one_val h1 hA] at h9;exact h9)
 rw [hRR];clear hpf h2 h3 ha hRR;go_enter Tryz.func19,Tryz.ntmps19;go_wp2_with (go_at_call 46;(with_reducible refine(HPa.out _).mono ?_);rintro e w1 ⟨rfl,hb1⟩;have hn1:=below_new w1 (.cells #[.int .i64 1,.string Xh,.string Xp,.string Xq,.bool has] 111 (0,0));have HB1:=hid ((HB0.out.next hb1).next hn1);have HBl1:=hid hn1;have HT1:=hid (heap_alloc_new w1 (.cells #[.int .i64 1,.string Xh,.string Xp,.string Xq,.bool has] 111 (0,0)));obtain⟨y0,y1,y2⟩:=box5r HT1.out;clear c0 c1 c2 c3;obtain⟨c0,c1,c2,c3⟩:=box4r HB1.out.b;clear hb1 hn1);go_loopg [8,9,10] (fn+1) (fun gk s8 s9 s10 wr=>∃ (i:Nat) (A:ByteArray),i≤fn∧gk=fn-i+1∧s10= .int .i64 (i:Int)∧s9= .int .i64 ((valsB (fs.take i) hostS).length:Int)∧s8= .string A∧(∀ x,valsB (fs.take i) hostS= [x]→A=x)∧B3R w wr (.cells #[.slice p n c] 32 (0,0)) (.cells #[.string SM,.string ST,.int .i64 mi,.slice fp fn fc] 57 (0,0)) (.cells #[.int .i64 0,.slice none 0 0,.string ⟨#[]⟩] 50 (0,0))∧Below w1.heap.size w1 wr∧wr.heap[w1.heap.size]?=some (.cells #[.int .i64 1,.string Xh,.string Xp,.string Xq,.bool has] 111 (0,0)))
 case atStart=>
  refine⟨0,Xh,Nat.zero_le _,rfl,rfl,rfl,rfl,?_⟩
  first
   |exact⟨fun x h=>(by cases h),HB1.out,HBl1.out,HT1.out⟩
   |exact⟨HB1.out,HBl1.out,HT1.out⟩
 case round=>
  obtain⟨i,A,hi,rfl,rfl,rfl,rfl,hA,hB,hbl,hTt⟩:=hrel;have HA:=hid hA;have HBi:=hid hB;have HBl:=hid hbl;have HTi:=hid hTt;clear hA hB hbl hTt c0 c1 c2 c3;obtain⟨c0,c1,c2,c3⟩:=box4r HBi.out.b;by_cases hin:i<fn
  · obtain⟨f,hf⟩:∃ f,fs[i]?=some f:=⟨_,List.getElem?_eq_getElem (by rw [HFn.out];exact hin)⟩;have HFi:=hid hf;have hvl:(valsB (fs.take i) hostS).length≤i:=vals_take fs hostS i;obtain⟨gf,of,rfl,q0,q1⟩:=(HF.out.next HBi.out.low) i f hf;have HSf:=hid (HSm.out f (List.mem_of_getElem? hf));have HVy:=hid (vals_yes (nm:=hostS) hf);have HVn:=hid (vals_no (nm:=hostS) hf);obtain⟨S1,hS1⟩:∃ S,str f.1=S:=⟨_,rfl⟩;obtain⟨S2,hS2⟩:∃ S,str f.2=S:=⟨_,rfl⟩;rw [hS1] at HSf HVy HVn q0;rw [hS2] at HVy q1;obtain⟨s,hs⟩:∃ s,sameB S1 hostS=s:=⟨_,rfl⟩;rw [hs] at HSf;have HQ1:=hid q1;obtain⟨vl,hvl2⟩:∃ v,(valsB (fs.take i) hostS).length=v:=⟨_,rfl⟩;rw [hvl2] at hvl;cases s with
    |false=>
     have HV:=hid (HVn.out hs);rw [hvl2];clear hf hS1 hS2 hs q1;go_wp2_with (go_at_call 37;(with_reducible refine(HSf.out _).mono ?_);rintro e w2 ⟨rfl,hb2⟩;have HB2:=hid (HBi.out.next hb2);have HBl2:=hid (below_out HBl.out hb2);have HT2:=hid (kB hb2 HTi.out);clear hb2);go_roundg (fn-(i+1)+1)
     case measure=>omega
     case rel=>exact⟨i+1,A,by omega,rfl,by push_cast;go_num,by rw [HV.out,hvl2],rfl,by rw [HV.out];exact HA.out,HB2.out,HBl2.out,HT2.out⟩
    |true=>
     have HV:=hid (HVy.out hs);have HVl:=hid hvl2;rw [hvl2];clear hf hS1 hS2 hs q1;go_wp2_with (go_at_call 37;(with_reducible refine(HSf.out _).mono ?_);rintro e w2 ⟨rfl,hb2⟩;have HB2:=hid (HBi.out.next hb2);have HBl2:=hid (below_out HBl.out hb2);have HT2:=hid (kB hb2 HTi.out);have q1:=cell_keep hb2 HQ1.out;clear hb2 c0 c1 c2 c3;obtain⟨c0,c1,c2,c3⟩:=box4r HB2.out.b);go_roundg (fn-(i+1)+1)
     case measure=>omega
     case rel=>
      refine⟨i+1,S2,by omega,rfl,by push_cast;go_num,by rw [HV.out,List.length_append,HVl.out];push_cast;go_num,rfl,fun x hx=>?_,HB2.out,HBl2.out,HT2.out⟩;rw [HV.out] at hx;cases hq:valsB (fs.take i) hostS with
      |nil=>rw [hq] at hx;simpa using hx
      |cons a b=>rw [hq] at hx;simp at hx
  · obtain rfl:fn=i:=by omega
    rw [show fs.take fn=fs from List.take_of_length_le (by rw [HFn.out];exact Nat.le_refl _)] at HA ⊢;have hvn:(valsB fs hostS).length≤fn:=by have:=vals_le fs hostS;rw [HFn.out] at this;exact this
    obtain⟨y0,y1,y2⟩:=box5r HTi.out;by_cases h1:(valsB fs hostS).length=1
    · have HAs:=hid (HOv.out A h1 HA.out);have HRA:=hid (HR1.out A h1 HA.out);rw [h1];have HSpA:=hid (HSp.out A.data.toList (by have:=HAs.out;simp at this ⊢;omega));have HFa:=hid (fun (W:World) (hb:Below w.heap.size w W)=>HFd.out (splitN A.data.toList).1 path (Nat.le_trans (split_len _) (by have:=HAs.out;simp at this ⊢;omega)) (by have:=HPl.out.1;omega) W hb);have hse:=split_err A.data.toList;rcases hsp:splitN A.data.toList with ⟨nm,po,er⟩
      rw [hsp] at HSpA HFa hse HRA;dsimp only at HSpA HFa hse HRA;obtain⟨Xn,hXn⟩:∃ S,str nm=S:=⟨_,rfl⟩;rw [show str A.data.toList=A from by cases A;rfl] at HSpA;rw [hXn,hXp] at HFa;rw [hXn] at HSpA;clear hsp hXn h1;rcases hse with rfl|rfl
      · rw [if_neg (by simp)] at HRA;rw [show ((0:Nat):Int)=0 from rfl] at HSpA;go_wp2_with (first|(go_at_call 47;(with_reducible refine(HSpA.out _).mono ?_);rintro e w3 ⟨rfl,hb3⟩;have HB3:=hid (HBi.out.next hb3);have HT3:=hid (kB hb3 HTi.out);have x0:=cell0 HB3.out.a;clear y0 y1 y2;obtain⟨y0,y1,y2⟩:=box5r HT3.out;clear c0 c1 c2 c3;obtain⟨c0,c1,c2,c3⟩:=box4r HB3.out.b;clear hb3)|(go_at_call 13;(with_reducible refine(HFa.out _ HB3.out.low).mono ?_);rintro e w4 hf4;obtain⟨i4,q4,n4,d4,S4,er4,rfl,hb4,hV4⟩:=fndW_of hf4;have HB4:=hid (HB3.out.next hb4);have HV4:=hid hV4;have HS3:=hid HB3.out.low.size;obtain⟨z0,f0,z1,f1,z2,f2⟩:=fd_box HB4.out.c (.int .i64 i4) (.slice q4 n4 d4);clear hb4 hV4 hf4));refine bodyPost_ret (results_fdD rfl _ _ (w.heap.size+1+1) _ _ (0,0) rfl (heap_three HB4.out.c _ _ _) rfl) rfl ?_;rw [HRA.out];exact fndW_back (below_three HB4.out.low (by omega) _ _ _) HS3.out (HV4.out.set3 HB4.out.c)
      · rw [if_pos (by decide)] at HRA;rw [show ((3:Nat):Int)=3 from rfl] at HSpA;go_wp2_with (go_at_call 47;(with_reducible refine(HSpA.out _).mono ?_);rintro e w3 ⟨rfl,hb3⟩;have HB3:=hid (HBi.out.next hb3);have HT3:=hid (kB hb3 HTi.out);obtain⟨z0,f0,z1,f1,z2,f2⟩:=fd_box HB3.out.c (.int .i64 0) (.slice none 0 0);clear hb3);refine bodyPost_ret (results_fdD rfl _ _ (w.heap.size+1+1) _ _ (0,0) rfl (heap_three HB3.out.c _ _ _) rfl) rfl ?_;rw [HRA.out];exact⟨rfl,below_three HB3.out.low (by omega) _ _ _⟩
    · have HRA:=hid (HR2.out h1);have hvi:¬((valsB fs hostS).length:Int)=1:=by omega
      obtain⟨vn,hvn2⟩:∃ v,(valsB fs hostS).length=v:=⟨_,rfl⟩;rw [hvn2] at hvi ⊢;clear h1 hvn hvn2;obtain⟨z0,f0,z1,f1,z2,f2⟩:=fd_box HBi.out.c (.int .i64 0) (.slice none 0 0);go_wp2;refine bodyPost_ret (results_fdD rfl _ _ (w.heap.size+1+1) _ _ (0,0) rfl (heap_three HBi.out.c _ _ _) rfl) rfl ?_;rw [HRA.out];exact⟨rfl,below_three HBi.out.low (by omega) _ _ _⟩
def NoQ (L:List RtC) (method target:B) (fs:List (B×B)) (k:Nat):Prop:=askQ target fs= .inl k∨∃ h p,askQ target fs= .inr (h,p)∧FndNo L h p method k
def YesQ (L:List RtC) (method target:B) (fs:List (B×B)) (i:Nat) (F:List (B×B)) (m:B):Prop:=∃ h p,askQ target fs= .inr (h,p)∧FndYes L h p method i F m
theorem behind_err (f:Int) (h s:B):(behindB f h s).2≤23:=by
 unfold behindB;split <;> simp
theorem parse_err (s:B):(parseT s).2≤23:=by
 unfold parseT;repeat' split
 all_goals first|exact behind_err _ _ _|simp
theorem ask_le {target:B}{fs:List (B×B)}{k:Nat} (h:askQ target fs= .inl k):k≤23:=by
 have:=parse_err target;unfold askQ ofAuth at h;split at h
 · injection h with h;omega
 · split at h
   · injection h with h;omega
   · split at h
     · injection h with h;omega
     · split at h
       · injection h with h;omega
       · cases h
theorem noQ_le {L:List RtC}{method target:B}{fs:List (B×B)}{k:Nat} (h:NoQ L method target fs k):k≤23:=by
 rcases h with h|⟨_,_,_,h⟩
 · exact ask_le h
 · exact no_le h
theorem preq_yn {L:List RtC}{method target:B}{fs:List (B×B)}{w:World}{e:Ending}{w':World} (h:PReqAns L method target fs w e w'):Below w.heap.size w w'∧((∃ k,NoQ L method target fs k∧k≠0∧e= .returned (.tuple #[foundV 0 (.slice none 0 0) [],errOf k]))∨∃ i F m q d,YesQ L method target fs i F m∧e= .returned (.tuple #[foundV i (.slice q F.length d) m,.nilIface])∧OwnF w' w.heap.size (.slice q F.length d) F):=by
 unfold PReqAns at h;cases ha:askQ target fs with
 |inl k=>
  rw [ha] at h;exact⟨h.2.2,.inl ⟨k,.inl ha,h.2.1,h.1⟩⟩
 |inr x=>
  obtain⟨hh,pp⟩:=x;rw [ha] at h;rcases h with ⟨hb,⟨k,h1,h2,h3⟩|⟨i,F,m,q,d,h1,h2,h3⟩⟩
  · exact⟨hb,.inl ⟨k,.inr ⟨hh,pp,ha,h1⟩,h2,h3⟩⟩
  · exact⟨hb,.inr ⟨i,F,m,q,d,⟨hh,pp,ha,h1⟩,h2,h3⟩⟩
theorem rreq_no {L:List RtC}{method target:B}{fs:List (B×B)}{w:World}{e:Ending}{w':World}{k:Nat} (hN:NoQ L method target fs k) (h:RReqAns L method target fs w e w'):e= .returned (.tuple #[foundV 0 (.slice none 0 0) [],.int .i64 (k:Int)])∧Below w.heap.size w w':=by
 unfold RReqAns RReqOf at h;rcases hN with ha|⟨hh,pp,ha,hN⟩
 · rw [ha] at h;exact h
 · rw [ha] at h;rcases h with ⟨hb,⟨k',h1,h2,h3⟩|⟨i,F,m,q,d,h1,h2,h3⟩⟩
   · rw [no_det hN h1];exact⟨h3,hb⟩
   · exact(yes_no h1 hN).elim
theorem rreq_yes {L:List RtC} (hf:FineR L) {method target:B}{fs:List (B×B)}{w:World}{e:Ending}{w':World}{i:Nat}{F:List (B×B)}{m:B} (hY:YesQ L method target fs i F m) (h:RReqAns L method target fs w e w'):∃ q d,e= .returned (.tuple #[foundV i (.slice q F.length d) m,.int .i64 0])∧Below w.heap.size w w'∧OwnF w' w.heap.size (.slice q F.length d) F:=by
 unfold RReqAns RReqOf at h;obtain⟨hh,pp,ha,hY⟩:=hY;rw [ha] at h;rcases h with ⟨hb,⟨k',h1,h2,h3⟩|⟨i',F',m',q,d,h1,h2,h3⟩⟩
 · exact(yes_no hY h1).elim
 · obtain⟨rfl,rfl,rfl⟩:=yes_det hf hY h1;exact⟨q,d,h2,hb,h3⟩
theorem methE_le (l:List B):methE l≤6:=by
 unfold methE;split
 · split <;> omega
 · omega
theorem requests_any (l:List RtX) (p:Option Addr) (n c:Nat) (method target:B) (mi:Int) (fs:List (B×B)) (fp:Option Addr) (fn fc:Nat) (ms:List B) (pm:Option Addr) (nm cm:Nat) (w:World) (hI:InR w p n c l) (hmx:MxAt w) (hfn:fs.length=fn) (hF:FAt w fp fs) (hsz:szB fs) (hfl:fn≤1048576) (ht:target.length≤1048576) (hms:ms.length=nm) (hmc:nm≤cm) (hmz:∀ x∈ms,x.length≤maxLen) (hml:nm≤1048576) (hM:TxAt w pm ms):
  Calls Tryz.prog 4 #[.slice p n c,.agg #[.string (str method),.string (str target),.int .i64 mi,.slice fp fn fc],.slice pm nm cm] w fun e w'=>e= .returned (.bool true)∧Below w.heap.size w w':=by
 have HI:=hid hI;have HMx:=hid hmx;have HWk:=hid (fun (W:World) (hb:Below w.heap.size w W)=>works_any W (hmx.next hb));have hnn:=hI.few;obtain⟨SM,hSM⟩:∃ S,str method=S:=⟨_,rfl⟩;obtain⟨ST,hST⟩:∃ S,str target=S:=⟨_,rfl⟩;rw [hSM,hST];have HB0:=hid (below_new w (.cells #[.string SM,.string ST,.int .i64 mi,.slice fp fn fc] 57 (0,0)));have HR0:=hid (heap_alloc_new w (.cells #[.string SM,.string ST,.int .i64 mi,.slice fp fn fc] 57 (0,0)));by_cases hlen:n≤100
 case neg=>
  have h2:(100:Int)<(n:Int):=by omega
  clear hlen hI hmx hF hsz hM hmz;go_enter Tryz.func4,Tryz.ntmps4;go_wp2_with (go_at_call 7;(with_reducible refine(HWk.out _ HB0.out).mono ?_);rintro e w1 ⟨rfl,hb1⟩;have HB1:=hid (below_out HB0.out hb1);clear hb1);go_ret;exact⟨rfl,HB1.out⟩
 have hl4:¬(100:Int)<(n:Int):=by omega
 have HTw:=hid (fun (W:World) (hb:Below w.heap.size w W)=>show Calls Tryz.prog 8 #[.slice p n c] W (fun e w'=>∃ q d l',e= .returned (.slice q n d)∧OwnL w' W.heap.size (.slice q n d) l'∧TwL l l'∧(∀ y∈l',y.r.ms.length≤y.k)∧Below W.heap.size W w') from by
  have h:=twin_any l p n c hI.len hI.few hI.zp hI.ms W (hI.at_.next hb);unfold TwAns at h;rw [hI.len] at h;exact h)
 have HNw:=hid (fun (W w2:World) (q:Option Addr) (d:Nat) (l':List RtX) (hO:OwnL w2 W.heap.size (.slice q n d) l') (hT:TwL l l') (hk:∀ y∈l',y.r.ms.length≤y.k) (hb:Below w.heap.size w w2)=>show Calls Tryz.prog 9 #[.slice q n d] w2 (fun e w'=>PNewAns w2 (l.map RtX.r) e w') from by
  rw [←hI.len] at hO ⊢;exact new_twin hI.zp hO hT hk (hmx.next hb))
 have HNd:=hid (fun (W:World) (hb:Below w.heap.size w W)=>rnew_any l p n c hI.len (fun x hx=>(hI.zp x hx).z) W (hI.at_.next hb));have HPm:=hid (pmeth_any ms pm nm cm hms hmc hmz (by omega) (w.alloc (.cells #[.string SM,.string ST,.int .i64 mi,.slice fp fn fc] 57 (0,0))) (hM.next HB0.out));have HRm:=hid (fun (W:World) (hb:Below w.heap.size w W)=>rmeth_any ms pm nm cm hms hmc hmz (by omega) W (hM.next hb));have HNm:=hid (fun W:World=>num_any (methE ms) (by have:=methE_le ms;omega) W);have HN8:=hid (fun W:World=>num_any 8 (by decide) W);have HFn:=hid (fun W:World=>pfind_nil [] [] [] W);rw [show str []=⟨#[]⟩ from rfl] at HFn;have HRn:=hid (fun W:World=>preq_nil (str method) (str target) mi fp fn fc W);have HLn:=hid (fun W:World=>plen_nil W);have HPq:=hid (fun (W:World) (b0 t gh m M:Nat) (hf:FineR (l.map RtX.r)) (hb:Below w.heap.size w W) (hs:b0≤W.heap.size) (hQ:TabQ b0 W t gh m (contQ (l.map RtX.r) M))=>(preq_any hQ hs (hmx.next hb) hf.few (zp_path hI.zp) (zp_ms hI.zp) method target mi fs fp fn fc hfn (hF.next hb) hsz hfl ht).mono (fun e w' h=>preq_yn h));have HRq:=hid (fun (W:World) (hf:FineR (l.map RtX.r)) (hb:Below w.heap.size w W)=>rdreq_any l p n c hI.len hf hI.zp method target mi fs fp fn fc hfn W (hF.next hb) hsz hfl ht (hmx.next hb) (hI.at_.next hb));rw [hSM,hST] at HRn HPq HRq;unfold foundV at HPq;obtain⟨me,hme⟩:∃ k,methE ms=k:=⟨_,rfl⟩;rw [hme] at HPm HRm HNm;obtain⟨EM,hEM⟩:∃ v,errOf me=v:=⟨_,rfl⟩;rw [hEM] at HPm HNm;rw [errOf_ne (show (8:Nat)≠0 by decide)] at HN8 HFn HRn;rw [show ((8:Nat):Int)=8 from rfl] at HN8 HFn HRn;unfold foundV at HFn HRn;rw [show str []=⟨#[]⟩ from rfl] at HFn HRn;clear hmx hF hsz hM hmz hSM hST hme hEM hms;by_cases hE:newE (l.map RtX.r)=0
 · have HF:=hid (fine_of hE);have HNk:=hid (fun (W w2:World) (q:Option Addr) (d:Nat) (l':List RtX) (hO:OwnL w2 W.heap.size (.slice q n d) l') (hT:TwL l l') (hk:∀ y∈l',y.r.ms.length≤y.k) (hb:Below w.heap.size w w2)=>show Calls Tryz.prog 9 #[.slice q n d] w2 (fun e w'=>∃ t gh m M,e= .returned (.tuple #[.pointer (some ⟨t,0,none⟩),.nilIface])∧Below w2.heap.size w2 w'∧TabQ w2.heap.size w' t gh m (contQ (l.map RtX.r) M)) from by
    refine(HNw.out W w2 q d l' hO hT hk hb).mono ?_;rintro e w' (⟨h1,_⟩|⟨_,h2,t,gh,m,M,h3,_,h4⟩)
    · exact absurd hE h1
    · exact⟨t,gh,m,M,h3,h2,h4⟩)
   have HNd2:=hid (fun (W:World) (hb:Below w.heap.size w W)=>show Calls Tryz.prog 10 #[.slice p n c] W (fun e w'=>e= .returned (.tuple #[.agg #[.slice p n c],.int .i64 0])∧Below W.heap.size W w') from by
    have h9:=HNd.out W hb;rw [rnew_fine hE] at h9;exact h9)
   clear hI hE HNd HNw;go_enter Tryz.func4,Tryz.ntmps4;go_upto_region 6 with (first|(go_at_call 16;(with_reducible refine HPm.out.mono ?_);rintro e w1 ⟨rfl,hw1⟩;subst hw1)|(go_at_call 11;(with_reducible refine(HNm.out _).mono ?_);rintro e w7 ⟨rfl,hw7⟩;subst hw7)|(go_at_call 17;(with_reducible refine(HRm.out _ HB0.out).mono ?_);rintro e w2 ⟨rfl,hb2⟩;have HB2:=hid (below_out HB0.out hb2);have HR2:=hid (kB hb2 HR0.out);clear hb2)|(go_at_call 8;(with_reducible refine(HTw.out _ HB2.out).mono ?_);rintro e w3 ⟨q,d,l1,rfl,hO,hT,hk,hb3⟩;have HB3:=hid (below_out HB2.out hb3);have HR3:=hid (kB hb3 HR2.out))|(go_at_call 9;(with_reducible refine(HNk.out w2 w3 q d l1 hO hT hk HB3.out).mono ?_);rintro e w4 ⟨t,gh,m,M,rfl,hb4,hQ⟩;have HB4:=hid (below_out HB3.out hb4);have HQ4:=hid hQ;have HS4:=hid hb4.size;have HR4:=hid (kB hb4 HR3.out);clear hO hT hk hb3 hb4 hQ))
   go_upto_region 12 with (first|(go_at_call 10;(with_reducible refine(HNd2.out _ HB4.out).mono ?_);rintro e w5 ⟨rfl,hb5⟩;have hn5:=below_new w5 (.cells #[.slice p n c] 32 (0,0));have HB5:=hid (below_out (below_out HB4.out hb5) hn5);have HQ5:=hid ((HQ4.out.next HS4.out hb5).next (Nat.le_trans HS4.out hb5.size) hn5);have HS5:=hid (Nat.le_trans HS4.out (Nat.le_trans hb5.size hn5.size));have HG5:=hid (heap_alloc_new w5 (.cells #[.slice p n c] 32 (0,0)));have HR5:=hid ((hn5.block _ (Nat.lt_of_lt_of_le (lt_of_heap HR4.out) hb5.size)).trans (kB hb5 HR4.out));obtain⟨r0,r1,r2,r3⟩:=box4r HR5.out;clear hb5 hn5)|(go_at_call 18;(with_reducible refine(HRn.out _).mono ?_);rintro e w6 ⟨rfl,hb6⟩;have hn6:=below_new w6 (.cells #[.int .i64 0,.slice none 0 0,.string ⟨#[]⟩] 47 (0,0));have HB6:=hid (below_out (below_out HB5.out hb6) hn6);have HQ6:=hid ((HQ5.out.next HS5.out hb6).next (Nat.le_trans HS5.out hb6.size) hn6);have HS6:=hid (Nat.le_trans HS5.out (Nat.le_trans hb6.size hn6.size));have HG6:=hid ((hn6.block _ (Nat.lt_of_lt_of_le (lt_of_heap HG5.out) hb6.size)).trans (kB hb6 HG5.out));have HR6:=hid ((hn6.block _ (Nat.lt_of_lt_of_le (lt_of_heap HR5.out) hb6.size)).trans (kB hb6 HR5.out));clear r0 r1 r2 r3;clear hb6 hn6)|(go_at_call 12;(with_reducible refine(HFn.out _).mono ?_);rintro e w8 ⟨rfl,hb8⟩;have hn8:=below_new w8 (.cells #[.int .i64 0,.slice none 0 0,.string ⟨#[]⟩] 47 (0,0));have HB8:=hid (below_out (below_out HB6.out hb8) hn8);have HQ8:=hid ((HQ6.out.next HS6.out hb8).next (Nat.le_trans HS6.out hb8.size) hn8);have HS8:=hid (Nat.le_trans HS6.out (Nat.le_trans hb8.size hn8.size));have HG8:=hid ((hn8.block _ (Nat.lt_of_lt_of_le (lt_of_heap HG6.out) hb8.size)).trans (kB hb8 HG6.out));have HR8:=hid ((hn8.block _ (Nat.lt_of_lt_of_le (lt_of_heap HR6.out) hb8.size)).trans (kB hb8 HR6.out));obtain⟨r0,r1,r2,r3⟩:=box4r HR8.out;clear hb8 hn8)|(go_at_call 11;(with_reducible refine(HN8.out _).mono ?_);rintro e w7 ⟨rfl,hw7⟩;subst hw7)|(go_at_call 15;(with_reducible refine(HLn.out _).mono ?_);rintro e w7 ⟨rfl,hw7⟩;subst hw7))
   go_upto_region 15 with (go_at_call 18;(with_reducible refine(HPq.out _ _ t gh m M HF.out HB8.out HS8.out HQ8.out).mono ?_);rintro e w9 ⟨hb9,⟨k,hno,hk0,rfl⟩|⟨j,F,y,qx,dx,hY,rfl,ho⟩⟩)
   · have HD:=hid (fun (W:World) (hb:Below w.heap.size w W)=>(HRq.out W HF.out hb).mono fun e w' h=>rreq_no hno h);have HNum:=hid (fun W:World=>num_any k (by have:=noQ_le hno;omega) W);have HZm:=hid (fun W:World=>same_yes 0 [] [] none none 0 0 0 rfl (by decide) W (fun j f hj=>by cases hj) (fun j f hj=>by cases hj));unfold foundV at HZm HD;rw [errOf_ne hk0] at HNum ⊢;rw [show str []=⟨#[]⟩ from rfl] at HD HZm ⊢;rw [show ((0:Nat):Int)=(0:Int) from rfl] at HD HZm;have hn10:=below_new w9 (.cells #[.int .i64 0,.slice none 0 0,.string ⟨#[]⟩] 47 (0,0));have HG10:=hid ((hn10.block _ (Nat.lt_of_lt_of_le (lt_of_heap HG8.out) hb9.size)).trans (kB hb9 HG8.out));have HB10:=hid (below_out (below_out HB8.out hb9) hn10);have HF10:=hid (heap_alloc_new w9 (.cells #[.int .i64 0,.slice none 0 0,.string ⟨#[]⟩] 47 (0,0)));have HR10:=hid ((hn10.block _ (Nat.lt_of_lt_of_le (lt_of_heap HR8.out) hb9.size)).trans (kB hb9 HR8.out));clear r0 r1 r2 r3;obtain⟨r0,r1,r2,r3⟩:=box4r HR10.out;have z0:=cell0 HG10.out;clear hno hb9 hn10 hk0;go_wp2_with (first|(go_at_call 19;(with_reducible refine(HD.out _ HB10.out).mono ?_);rintro e w11 ⟨rfl,hb11⟩;have hn11:=below_new w11 (.cells #[.int .i64 0,.slice none 0 0,.string ⟨#[]⟩] 50 (0,0));have HB11:=hid (below_out (below_out HB10.out hb11) hn11);have HF11:=hid ((hn11.block _ (Nat.lt_of_lt_of_le (lt_of_heap HF10.out) hb11.size)).trans (kB hb11 HF10.out));obtain⟨x0,x1,x2,_⟩:=box3 HF11.out;clear hb11 hn11)|(go_at_call 11;(with_reducible refine(HNum.out _).mono ?_);rintro e w12 ⟨rfl,hw12⟩;subst hw12)|(go_at_call 14;(with_reducible refine(HZm.out _).mono ?_);rintro e w13 ⟨rfl,hb13⟩;have HB13:=hid (below_out HB11.out hb13);clear hb13)|(go_at_call 7;(with_reducible refine(HWk.out _ HB13.out).mono ?_);rintro e w14 ⟨rfl,hb14⟩;have HB14:=hid (below_out HB13.out hb14);clear hb14));go_ret;exact⟨rfl,HB14.out⟩
   · have HD:=hid (fun (W:World) (hb:Below w.heap.size w W)=>(HRq.out W HF.out hb).mono fun e w' h=>rreq_yes HF.out hY h);have HNn:=hid (fun W:World=>num_none W);have hFl:F.length≤140737488355328:=by
      obtain⟨_,_,_,hY2⟩:=hY;obtain⟨r,_,_,_,hf15,_⟩:=yes_lawful HF.out hY2;exact Nat.le_trans (fits_few hf15) (by decide)
     have HSm:=hid (fun (q':Option Addr) (d':Nat) (W:World) (h1:FAt W qx F) (h2:FAt W q' F)=>same_yes j y F qx q' F.length dx d' rfl hFl W h1 h2);unfold foundV at HSm HD;obtain⟨SY,hSY⟩:∃ S,str y=S:=⟨_,rfl⟩;rw [hSY] at HD HSm ⊢;have hn10:=below_new w9 (.cells #[.int .i64 (j:Int),.slice qx F.length dx,.string SY] 47 (0,0));have HG10:=hid ((hn10.block _ (Nat.lt_of_lt_of_le (lt_of_heap HG8.out) hb9.size)).trans (kB hb9 HG8.out));have HB10:=hid (below_out (below_out HB8.out hb9) hn10);have HF10:=hid (heap_alloc_new w9 (.cells #[.int .i64 (j:Int),.slice qx F.length dx,.string SY] 47 (0,0)));have HR10:=hid ((hn10.block _ (Nat.lt_of_lt_of_le (lt_of_heap HR8.out) hb9.size)).trans (kB hb9 HR8.out));clear r0 r1 r2 r3;obtain⟨r0,r1,r2,r3⟩:=box4r HR10.out;have HO10:=hid (ho.fat.next hn10);have z0:=cell0 HG10.out;clear hb9 hn10 hY ho hFl hSY;go_wp2_with (first|(go_at_call 19;(with_reducible refine(HD.out _ HB10.out).mono ?_);rintro e w11 ⟨q7,d7,rfl,hb11,ho7⟩;have hn11:=below_new w11 (.cells #[.int .i64 (j:Int),.slice q7 F.length d7,.string SY] 50 (0,0));have HB11:=hid (below_out (below_out HB10.out hb11) hn11);have HF11:=hid ((hn11.block _ (Nat.lt_of_lt_of_le (lt_of_heap HF10.out) hb11.size)).trans (kB hb11 HF10.out));have HO11:=hid ((HO10.out.next hb11).next hn11);have HP11:=hid (ho7.fat.next hn11);obtain⟨x0,x1,x2,_⟩:=box3 HF11.out;clear hb11 hn11 ho7)|(go_at_call 11;(with_reducible refine(HNn.out _).mono ?_);rintro e w12 ⟨rfl,hw12⟩;subst hw12)|(go_at_call 14;(with_reducible refine(HSm.out q7 d7 _ HO11.out HP11.out).mono ?_);rintro e w13 ⟨rfl,hb13⟩;have HB13:=hid (below_out HB11.out hb13);clear hb13)|(go_at_call 7;(with_reducible refine(HWk.out _ HB13.out).mono ?_);rintro e w14 ⟨rfl,hb14⟩;have HB14:=hid (below_out HB13.out hb14);clear hb14));go_ret;exact⟨rfl,HB14.out⟩
 · have HNe:=hid (fun (W w2:World) (q:Option Addr) (d:Nat) (l':List RtX) (hO:OwnL w2 W.heap.size (.slice q n d) l') (hT:TwL l l') (hk:∀ y∈l',y.r.ms.length≤y.k) (hb:Below w.heap.size w w2)=>show Calls Tryz.prog 9 #[.slice q n d] w2 (fun e w'=>e= .returned (.tuple #[.pointer none,.iface 74 (.int .i64 (newE (l.map RtX.r):Int))])∧Below w2.heap.size w2 w') from by
    refine(HNw.out W w2 q d l' hO hT hk hb).mono ?_;rintro e w' (⟨_,h1,h2⟩|⟨h1,_⟩)
    · exact⟨h1,h2⟩
    · exact absurd h1 hE)
   have hle:newE (l.map RtX.r)≤9:=newE_le _;obtain⟨k,hk0⟩:∃ k,newE (l.map RtX.r)=k:=⟨_,rfl⟩;have HNd2:=hid (fun (W:World) (hb:Below w.heap.size w W)=>show Calls Tryz.prog 10 #[.slice p n c] W (fun e w'=>e= .returned (.tuple #[.agg #[.slice none 0 0],.int .i64 (k:Int)])∧Below W.heap.size W w') from by
    have h9:=HNd.out W hb;rw [rnewV_ne hk0 (by rw [←hk0];exact hE)] at h9;exact h9)
   rw [hk0] at HNe hE hle;have HNum:=hid (fun W:World=>num_any k (by omega) W);rw [errOf_ne hE] at HNum;have hki:¬(k:Int)=0:=by omega
   have hkb:((k:Int) != 0)=true:=by simp;omega
   clear hI hE hk0 HNd HNw HPq HRq;go_enter Tryz.func4,Tryz.ntmps4;go_upto_region 6 with (first|(go_at_call 16;(with_reducible refine HPm.out.mono ?_);rintro e w1 ⟨rfl,hw1⟩;subst hw1)|(go_at_call 11;(with_reducible refine(HNm.out _).mono ?_);rintro e w7 ⟨rfl,hw7⟩;subst hw7)|(go_at_call 17;(with_reducible refine(HRm.out _ HB0.out).mono ?_);rintro e w2 ⟨rfl,hb2⟩;have HB2:=hid (below_out HB0.out hb2);have HR2:=hid (kB hb2 HR0.out);clear hb2)|(go_at_call 8;(with_reducible refine(HTw.out _ HB2.out).mono ?_);rintro e w3 ⟨q,d,l1,rfl,hO,hT,hk,hb3⟩;have HB3:=hid (below_out HB2.out hb3);have HR3:=hid (kB hb3 HR2.out))|(go_at_call 9;(with_reducible refine(HNe.out w2 w3 q d l1 hO hT hk HB3.out).mono ?_);rintro e w4 ⟨rfl,hb4⟩;have HB4:=hid (below_out HB3.out hb4);have HR4:=hid (kB hb4 HR3.out);clear hO hT hk hb3 hb4))
   go_upto_region 12 with (first|(go_at_call 10;(with_reducible refine(HNd2.out _ HB4.out).mono ?_);rintro e w5 ⟨rfl,hb5⟩;have hn5:=below_new w5 (.cells #[.slice none 0 0] 32 (0,0));have HB5:=hid (below_out (below_out HB4.out hb5) hn5);have HR5:=hid ((hn5.block _ (Nat.lt_of_lt_of_le (lt_of_heap HR4.out) hb5.size)).trans (kB hb5 HR4.out));obtain⟨r0,r1,r2,r3⟩:=box4r HR5.out;clear hb5 hn5)|(go_at_call 18;(with_reducible refine(HRn.out _).mono ?_);rintro e w6 ⟨rfl,hb6⟩;have hn6:=below_new w6 (.cells #[.int .i64 0,.slice none 0 0,.string ⟨#[]⟩] 47 (0,0));have HB6:=hid (below_out (below_out HB5.out hb6) hn6);  clear hb6 hn6)|(go_at_call 12;(with_reducible refine(HFn.out _).mono ?_);rintro e w8 ⟨rfl,hb8⟩;have hn8:=below_new w8 (.cells #[.int .i64 0,.slice none 0 0,.string ⟨#[]⟩] 47 (0,0));have HB8:=hid (below_out (below_out HB6.out hb8) hn8);  clear hb8 hn8)|(go_at_call 11;(with_reducible refine(HN8.out _).mono ?_);rintro e w7 ⟨rfl,hw7⟩;subst hw7)|(go_at_call 15;(with_reducible refine(HLn.out _).mono ?_);rintro e w7 ⟨rfl,hw7⟩;subst hw7))
   go_wp2_with (first|(go_at_call 11;(with_reducible refine(HNum.out _).mono ?_);rintro e w7 ⟨rfl,hw7⟩;subst hw7)|(go_at_call 7;(with_reducible refine(HWk.out _ HB8.out).mono ?_);rintro e w9 ⟨rfl,hb9⟩;have HB9:=hid (below_out HB8.out hb9);clear hb9));go_ret
   first
    |exact⟨rfl,HB9.out⟩
    |(refine⟨?_,HB9.out⟩;simp [hki])
end Go.Proofs.YtlmlljlappjjjaaGreatDoor
