/- The law: what is found fits host, path and method, and no host's pattern goes ahead. -/
import Derived.Test.YtlmlljlappjjjaaGreatDoorTPWorks
namespace Go.Proofs.YtlmlljlappjjjaaGreatDoor
open Go.RowKit
structure InR (w:World) (p:Option Addr) (n c:Nat) (l:List RtX):Prop where
 len:l.length=n
 few:n≤1048576
 zp:∀ x∈l,RtZP x
 ms:∀ x∈l,x.r.ms.length≤1048576∧(x.q=none→x.k=0)
 at_:RtsAt w p l
theorem new_twin {w w2:World}{l l':List RtX}{q:Option Addr}{d:Nat} (hz:∀ x∈l,RtZP x) (hO:OwnL w2 w.heap.size (.slice q l.length d) l') (hT:TwL l l') (hk:∀ y∈l',y.r.ms.length≤y.k) (hmx:MxAt w2):
  Calls Tryz.prog 9 #[.slice q l.length d] w2 fun e w'=>PNewAns w2 (l.map RtX.r) e w':=by
 have h:=pnew_any l' q l.length d hT.1 (hT.zp hz hk) w2 hmx hO.at;rw [hT.map] at h;exact h
theorem zp_path {l:List RtX} (hz:∀ x∈l,RtZP x):∀ r∈l.map RtX.r,r.path.length≤4398046511104:=by
 intro r hr;obtain⟨x,hx,rfl⟩:=List.mem_map.1 hr;exact(hz x hx).z.path
theorem zp_ms {l:List RtX} (hz:∀ x∈l,RtZP x):∀ r∈l.map RtX.r,r.ms.length≤140737488355328:=by
 intro r hr;obtain⟨x,hx,rfl⟩:=List.mem_map.1 hr;exact Nat.le_trans (hz x hx).few (by decide)
structure AkS (W:World) (g:Nat) (SH SP SK:ByteArray):Prop where
 c0:W.cell? ⟨g,0,none⟩=some (.string SH)
 c1:W.cell? ⟨g,1,none⟩=some (.string SP)
 c2:W.cell? ⟨g,2,none⟩=some (.string SK)
theorem ak_new (w:World) (SH SP SK:ByteArray) (T:TypeId):AkS (w.alloc (.cells #[.string SH,.string SP,.string SK] T (0,0))) w.heap.size SH SP SK:=by
 obtain⟨a,b,c,_⟩:=box3 (heap_alloc_new w (.cells #[.string SH,.string SP,.string SK] T (0,0)));exact⟨a,b,c⟩
theorem AkS.next {W W':World}{g:Nat}{SH SP SK:ByteArray} (h:AkS W g SH SP SK) (hb:Below W.heap.size W W'):AkS W' g SH SP SK:=⟨cell_keep hb h.c0,cell_keep hb h.c1,cell_keep hb h.c2⟩
structure R29S (U:World) (g o gB gA:Nat) (Sz Sx SH:ByteArray):Prop where
 c0:U.cell? ⟨g,o,none⟩=some (.string Sz)
 c1:U.cell? ⟨gB,0,none⟩=some (.string Sx)
 c2:U.cell? ⟨gA,0,none⟩=some (.string SH)
theorem R29S.next {W W':World}{g o gB gA:Nat}{Sz Sx SH:ByteArray} (h:R29S W g o gB gA Sz Sx SH) (hb:Below W.heap.size W W'):R29S W' g o gB gA Sz Sx SH:=⟨cell_keep hb h.c0,cell_keep hb h.c1,cell_keep hb h.c2⟩
set_option maxRecDepth 20000 in
set_option maxHeartbeats 32000000 in
theorem lawful_any (l:List RtX) (p:Option Addr) (n c:Nat) (host path method:B) (w:World) (hI:InR w p n c l) (hmx:MxAt w) (hh:host.length≤9223372036854775807) (hp:path.length≤4294967280):Calls Tryz.prog 6 #[.slice p n c,.agg #[.string (str host),.string (str path),.string (str method)]] w fun e w'=>e= .returned (.bool true)∧Below w.heap.size w w':=by
 have HI:=hid hI;have HMx:=hid hmx;have HWk:=hid (fun (W:World) (hb:Below w.heap.size w W)=>works_any W (hmx.next hb));obtain⟨SH,hSH⟩:∃ S,str host=S:=⟨_,rfl⟩;obtain⟨SP,hSP⟩:∃ S,str path=S:=⟨_,rfl⟩;obtain⟨SK,hSK⟩:∃ S,str method=S:=⟨_,rfl⟩;rw [hSH,hSP,hSK];have HSH:=hid hSH;have HSP:=hid hSP;have HSK:=hid hSK;have HAk:=hid (ak_new w SH SP SK 44);have HB0:=hid (below_new w (.cells #[.string SH,.string SP,.string SK] 44 (0,0)));have hnn:=hI.few;by_cases h64:64<n
 · have h64':(64:Int)<(n:Int):=by omega
   clear hI hmx hSH hSP hSK;go_enter Tryz.func6,Tryz.ntmps6;go_wp2_with (go_at_call 7;(with_reducible refine(HWk.out _ HB0.out).mono ?_);rintro e w1 ⟨rfl,hb1⟩;have HB1:=hid (below_out HB0.out hb1);clear hb1);go_ret;exact⟨rfl,HB1.out⟩
 have h64':¬(64:Int)<(n:Int):=by omega
 obtain⟨W0,hW0⟩:∃ W0,w.alloc (.cells #[.string SH,.string SP,.string SK] 44 (0,0))=W0:=⟨_,rfl⟩;have hW1:=hW0;rw [hW0] at HAk HB0;have HTw:=hid (twin_any l p n c hI.len hI.few hI.zp hI.ms W0 (by obtain⟨h1,h2⟩:=hI.at_.next HB0.out;exact⟨h1,h2⟩));have HNw:=hid (fun (w2:World) (q:Option Addr) (d:Nat) (l':List RtX) (hO:OwnL w2 W0.heap.size (.slice q l.length d) l') (hT:TwL l l') (hk:∀ y∈l',y.r.ms.length≤y.k) (hb:Below w.heap.size w w2)=>new_twin hI.zp hO hT hk (hmx.next hb));unfold TwAns at HTw;rw [hI.len] at HTw HNw;by_cases hE:newE (l.map RtX.r)=0
 · have hF:=fine_of hE;have HF:=hid hF;have hNw2:=fun w2 q d l' hO hT hk hb=>show Calls Tryz.prog 9 #[.slice q n d] w2 (fun e w'=>∃ t gh m M,e= .returned (.tuple #[.pointer (some ⟨t,0,none⟩),.nilIface])∧Below w2.heap.size w2 w'∧TabQ w2.heap.size w' t gh m (contQ (l.map RtX.r) M)) from by
    refine(HNw.out w2 q d l' hO hT hk hb).mono ?_;rintro e w' (⟨h1,_⟩|⟨_,h2,t,gh,m,M,h3,_,h4⟩)
    · exact absurd hE h1
    · exact⟨t,gh,m,M,h3,h2,h4⟩
   have HNw2:=hid hNw2;have HFd:=hid (fun (W:World) (b0 t gh m M:Nat) (hb:Below w.heap.size w W) (hs:b0≤W.heap.size) (hQ:TabQ b0 W t gh m (contQ (l.map RtX.r) M))=>pfind_any hQ hs (hmx.next hb) hF.few (zp_path hI.zp) (zp_ms hI.zp) host path method hh hp (fun y hy=>by have:=normal_len_q hy;omega));have HNm:=hid (fun (W:World) (hb:Below w.heap.size w W)=>pnormal_any path hp W (env_mx (hmx.next hb)));rw [hSH,hSP,hSK] at HFd;unfold FndAns foundV at HFd;rw [hSP] at HNm;cases hn:normalB path with
   |none=>
    rw [hn] at HNm;unfold decE at HNm;dsimp only at HNm;have HFn:=hid (fun (W:World) (b0 t gh m M:Nat) (hb:Below w.heap.size w W) (hs:b0≤W.heap.size) (hQ:TabQ b0 W t gh m (contQ (l.map RtX.r) M))=>show Calls Tryz.prog 12 #[.pointer (some ⟨t,0,none⟩),.string SH,.string SP,.string SK] W (fun e w'=>∃ k:Nat,e= .returned (.tuple #[.agg #[.int .i64 0,.slice none 0 0,.string (str [])],.iface 74 (.int .i64 (k:Int))])∧Below W.heap.size W w') from by
     refine(HFd.out W b0 t gh m M hb hs hQ).mono ?_;rintro e w' ⟨h1,⟨k,_,h3,he⟩|⟨i,F,m',q,d,hY,_⟩⟩
     · exact⟨k,by rw [he,errOf_ne h3];rfl,h1⟩
     · have h9:=hY.2.1;rw [hn] at h9;cases h9)
    clear hI hmx hSH hSP hSK hE hF hNw2 hn hW0 HFd;go_enter Tryz.func6,Tryz.ntmps6;go_wp2_with (first|(go_at_call 8;(with_reducible refine HTw.out.mono ?_);rintro e w1 ⟨q,d,l',rfl,hO,hT,hk,hb1⟩;have HB1:=hid (below_out HB0.out hb1))|(go_at_call 9;(with_reducible refine(HNw2.out w1 q d l' hO hT hk HB1.out).mono ?_);rintro e w2 ⟨t,gh,m,M,rfl,hb2,hQ⟩;have HB2:=hid (below_out HB1.out hb2);have HQ:=hid hQ;have HS2:=hid hb2.size;obtain⟨a0,a1,a2⟩:=(HAk.out.next hb1).next hb2)|(go_at_call 12;(with_reducible refine(HFn.out w2 _ t gh m M HB2.out HS2.out HQ.out).mono ?_);rintro e w3 ⟨k,rfl,hb3⟩;have HB3:=hid (below_out (below_out HB2.out hb3) (below_new w3 (.cells #[.int .i64 0,.slice none 0 0,.string (str [])] 47 (0,0))));obtain⟨c0,c1,c2⟩:=(((HAk.out.next hb1).next hb2).next hb3).next (below_new w3 (.cells #[.int .i64 0,.slice none 0 0,.string (str [])] 47 (0,0))))|(go_at_call 20;(with_reducible refine(HNm.out _ HB3.out).mono ?_);rintro e w4 ⟨rfl,hb4⟩;have HB4:=hid (below_out HB3.out hb4);clear hb4)|(go_at_call 7;(with_reducible refine(HWk.out _ HB4.out).mono ?_);rintro e w8 ⟨rfl,hb8⟩;have HB8:=hid (below_out HB4.out hb8);clear hb8));go_ret;exact⟨rfl,HB8.out⟩
   |some y=>
    rw [hn] at HNm;unfold decE at HNm;dsimp only at HNm;have hyl:=normal_len_q hn;have HYs:=hid (fun (i:Nat) (F:List (B×B)) (hY:FndYes (l.map RtX.r) host path method i F y) (W:World) (b0 t gh m M:Nat) (hb:Below w.heap.size w W) (hs:b0≤W.heap.size) (hQ:TabQ b0 W t gh m (contQ (l.map RtX.r) M))=>find_tab hQ hs (hmx.next hb) hF.few (zp_path hI.zp) (zp_ms hI.zp) hF host y method hh (by omega) (fun z hz=>by have:=normal_len_q hz;omega) (yes_again hY));have HNs:=hid (fun (k:Nat) (hN:FndNo (l.map RtX.r) host path method k) (W:World) (b0 t gh m M:Nat) (hb:Below w.heap.size w W) (hs:b0≤W.heap.size) (hQ:TabQ b0 W t gh m (contQ (l.map RtX.r) M))=>find_none_q hQ hs (hmx.next hb) hF.few (zp_path hI.zp) (zp_ms hI.zp) host y method hh (by omega) (fun z hz=>by have:=normal_len_q hz;omega) (no_again hn hN));obtain⟨SY,hSY⟩:∃ S,str y=S:=⟨_,rfl⟩;have HSY:=hid hSY;have HSm:=hid (fun (i:Nat) (F:List (B×B)) (q q':Option Addr) (d d':Nat) (hl:F.length≤140737488355328) (W:World) (h1:FAt W q F) (h2:FAt W q' F)=>same_yes i y F q q' F.length d d' rfl hl W h1 h2);unfold foundV at HYs HNs HSm;rw [hSY] at HNm HYs HSm;rw [hSY] at HNs;rw [hSH,hSK] at HYs HNs;have HHn:=hid hn;clear hI hmx hSH hSP hSK hE hF hNw2 hn hSY hW0;go_enter Tryz.func6,Tryz.ntmps6;go_upto_region 7 with (first|(go_at_call 8;(with_reducible refine HTw.out.mono ?_);rintro e w1 ⟨q,d,l',rfl,hO,hT,hk,hb1⟩;have HB1:=hid (below_out HB0.out hb1))|(go_at_call 9;(with_reducible refine(HNw2.out w1 q d l' hO hT hk HB1.out).mono ?_);rintro e w2 ⟨t,gh,m,M,rfl,hb2,hQ⟩;have HB2:=hid (below_out HB1.out hb2);have HQ:=hid hQ;have HS2:=hid hb2.size;obtain⟨a0,a1,a2⟩:=(HAk.out.next hb1).next hb2)|(go_at_call 12;(with_reducible refine(HFd.out w2 _ t gh m M HB2.out HS2.out HQ.out).mono ?_);rintro e w3 ⟨hb3,⟨k,hno,hk0,rfl⟩|⟨i,F,m',q3,d3,hY,rfl,ho3⟩⟩))
    · have HK0:=hid hk0;have HKl:=hid (no_le hno);have HN2:=hid (HNs.out k hno);have HNum:=hid (fun W:World=>num_any k (by have:=no_le hno;omega) W);rw [errOf_ne hk0] at HN2 HNum ⊢;have HZm:=hid (fun W:World=>same_yes 0 [] [] none none 0 0 0 rfl (by decide) W (fun j f hj=>by cases hj) (fun j f hj=>by cases hj));unfold foundV at HZm;rw [show str []=⟨#[]⟩ from rfl] at HZm HN2 ⊢;rw [show ((0:Nat):Int)=(0:Int) from rfl] at HZm HN2;have HB3:=hid (below_out (below_out HB2.out hb3) (below_new w3 (.cells #[.int .i64 0,.slice none 0 0,.string ⟨#[]⟩] 47 (0,0))));have HS3:=hid (Nat.le_trans HS2.out (Nat.le_trans hb3.size (below_new w3 (.cells #[.int .i64 0,.slice none 0 0,.string ⟨#[]⟩] 47 (0,0))).size));have HQ3:=hid ((HQ.out.next HS2.out hb3).next (Nat.le_trans HS2.out hb3.size) (below_new w3 (.cells #[.int .i64 0,.slice none 0 0,.string ⟨#[]⟩] 47 (0,0))));have HA3:=hid ((((HAk.out.next hb1).next hb2).next hb3).next (below_new w3 (.cells #[.int .i64 0,.slice none 0 0,.string ⟨#[]⟩] 47 (0,0))));have HG3:=hid (heap_alloc_new w3 (.cells #[.int .i64 0,.slice none 0 0,.string ⟨#[]⟩] 47 (0,0)));obtain⟨_,c1,_⟩:=HA3.out;clear hO hT hk hb1 hb2 hQ hb3 hno hk0 a0 a1 a2;go_wp2_with (first|(go_at_call 20;(with_reducible refine(HNm.out _ HB3.out).mono ?_);rintro e w4 ⟨rfl,hb4⟩;have HB4:=hid (below_out HB3.out hb4);have HA4:=hid (HA3.out.next hb4);have HS4:=hid (Nat.le_trans HS3.out hb4.size);have HQ4:=hid (HQ3.out.next HS3.out hb4);have HG4:=hid (kB hb4 HG3.out);obtain⟨b0,b1,b2⟩:=HA4.out;clear hb4)|(go_at_call 12;(with_reducible refine(HN2.out w4 _ t gh m M HB4.out HS4.out HQ4.out).mono ?_);rintro e w5 ⟨rfl,hb5⟩;have HB5:=hid (below_out (below_out HB4.out hb5) (below_new w5 (.cells #[.int .i64 0,.slice none 0 0,.string ⟨#[]⟩] 47 (0,0))));have HG5:=hid (((below_new w5 (.cells #[.int .i64 0,.slice none 0 0,.string ⟨#[]⟩] 47 (0,0))).block _ (Nat.lt_of_lt_of_le (lt_of_heap HG4.out) hb5.size)).trans (kB hb5 HG4.out));obtain⟨z0,z1,z2,_⟩:=box3 HG5.out;clear hb5)|(go_at_call 11;(with_reducible refine(HNum.out _).mono ?_);rintro e w6 ⟨rfl,hw6⟩;subst hw6)|(go_at_call 14;(with_reducible refine(HZm.out _).mono ?_);rintro e w7 ⟨rfl,hb7⟩;have HB7:=hid (below_out HB5.out hb7);clear hb7)|(go_at_call 7;(with_reducible refine(HWk.out _ HB7.out).mono ?_);rintro e w8 ⟨rfl,hb8⟩;have HB8:=hid (below_out HB7.out hb8);clear hb8));go_ret;exact⟨rfl,HB8.out⟩
    · have hmy:m'=y:=by have h9:=hY.2.1;rw [HHn.out] at h9;injection h9 with h9;exact h9.symm
      subst hmy;rw [HSY.out];have HYs2:=hid (HYs.out i F hY);obtain⟨r,hr,_,hf16,hf15,htk,hbt⟩:=yes_lawful HF.out hY;obtain⟨x,hx,hxr⟩:∃ x,l[i]?=some x∧x.r=r:=by
       rw [List.getElem?_map] at hr;cases hx:l[i]? with
       |none=>rw [hx] at hr;cases hr
       |some x=>rw [hx] at hr;injection hr with hr;exact⟨x,rfl,hr⟩
      subst hxr;have hin:i<n:=by rw [←HI.out.len];exact(List.getElem?_eq_some_iff.1 hx).1
      have hFl:F.length≤140737488355328:=Nat.le_trans (fits_few hf15) (by decide);have HFl:=hid hFl;have HB3:=hid (below_out (below_out HB2.out hb3) (below_new w3 (.cells #[.int .i64 (i:Int),.slice q3 F.length d3,.string SY] 47 (0,0))));have HS3:=hid (Nat.le_trans HS2.out (Nat.le_trans hb3.size (below_new w3 (.cells #[.int .i64 (i:Int),.slice q3 F.length d3,.string SY] 47 (0,0))).size));have HQ3:=hid ((HQ.out.next HS2.out hb3).next (Nat.le_trans HS2.out hb3.size) (below_new w3 (.cells #[.int .i64 (i:Int),.slice q3 F.length d3,.string SY] 47 (0,0))));have HA3:=hid ((((HAk.out.next hb1).next hb2).next hb3).next (below_new w3 (.cells #[.int .i64 (i:Int),.slice q3 F.length d3,.string SY] 47 (0,0))));have HG3:=hid (heap_alloc_new w3 (.cells #[.int .i64 (i:Int),.slice q3 F.length d3,.string SY] 47 (0,0)));have HO3:=hid (ho3.fat.next (below_new w3 (.cells #[.int .i64 (i:Int),.slice q3 F.length d3,.string SY] 47 (0,0))));have HX:=hid hx;have HF16:=hid hf16;have HF15:=hid hf15;have HTk:=hid htk;have HBt:=hid hbt;obtain⟨_,c1,_⟩:=HA3.out;have hi0:¬(i:Int)<0:=by omega
      have hin1:¬(n:Int)≤(i:Int):=by omega
      have HNn:=hid (fun W:World=>num_none W);clear hO hT hk hb1 hb2 hQ hb3 a0 a1 a2 ho3 hr hx hf16 hf15 htk hbt hY hFl;go_upto_region 16 with (first|(go_at_call 20;(with_reducible refine(HNm.out _ HB3.out).mono ?_);rintro e w4 ⟨rfl,hb4⟩;have HB4:=hid (below_out HB3.out hb4);have HA4:=hid (HA3.out.next hb4);have HS4:=hid (Nat.le_trans HS3.out hb4.size);have HQ4:=hid (HQ3.out.next HS3.out hb4);have HG4:=hid (kB hb4 HG3.out);have HO4:=hid (HO3.out.next hb4);obtain⟨b0,b1,b2⟩:=HA4.out;clear hb4)|(go_at_call 12;(with_reducible refine(HYs2.out w4 _ t gh m M HB4.out HS4.out HQ4.out).mono ?_);rintro e w5 ⟨q5,d5,rfl,hb5,ho5⟩;have hn5:=below_new w5 (.cells #[.int .i64 (i:Int),.slice q5 F.length d5,.string SY] 47 (0,0));have HB5:=hid (below_out (below_out HB4.out hb5) hn5);have HG5:=hid ((hn5.block _ (Nat.lt_of_lt_of_le (lt_of_heap HG4.out) hb5.size)).trans (kB hb5 HG4.out));have HO5:=hid ((HO4.out.next hb5).next hn5);have HP5:=hid (ho5.fat.next hn5);have HA5:=hid ((HA4.out.next hb5).next hn5);obtain⟨z0,z1,z2,_⟩:=box3 HG5.out;clear hb5 ho5 hn5)|(go_at_call 11;(with_reducible refine(HNn.out _).mono ?_);rintro e w6 ⟨rfl,hw6⟩;subst hw6)|(go_at_call 14;(with_reducible refine(HSm.out i F q3 q5 d3 d5 HFl.out _ HO5.out HP5.out).mono ?_);rintro e w7 ⟨rfl,hb7⟩;have HB7:=hid (below_out HB5.out hb7);have HG7:=hid (kB hb7 HG5.out);have HA7:=hid (HA5.out.next hb7);obtain⟨y0,y1,y2,_⟩:=box3 HG7.out;clear hb7))
      obtain⟨g1,o1,rfl,hC⟩:=(HI.out.at_.next HB7.out).at HX.out;have hzx:=HI.out.zp x (List.mem_of_getElem? HX.out);have HMt:=hid (HI.out.at_.ms x (List.mem_of_getElem? HX.out));obtain⟨q0,q1,q2,q3',q4,q5',q6,q7,q8,q9,q10,q11,q12⟩:=hC;obtain⟨s3,s5,s6,b4,q7',n7,c7,i8,i9,i10,i11,i12,e3,e4,e5,e6,e7,e8,e9,e10,e11,e12⟩:=hzx.val;rw [e3] at q3';rw [e4] at q4;rw [e5] at q5';rw [e6] at q6;rw [e7] at q7;rw [e8] at q8;rw [e9] at q9;rw [e10] at q10;rw [e11] at q11;rw [e12] at q12;have HFi:=hid (fun W:World=>rfitsN x.r.host host (Nat.le_trans hzx.z.host (by decide)) hh W);rw [HF16.out,HSH.out] at HFi;have HFj:=hid (fun W:World=>rfitsO_any x.r.path m' hzx.z.path (by omega) W);unfold RFitsAns at HFj;rw [HF15.out,HSY.out] at HFj;dsimp only at HFi HFj;have HTt:=hid (show (x.r.ms.isEmpty || x.r.ms.contains method)=true from HTk.out);obtain⟨Sh,hSh⟩:∃ S,str x.r.host=S:=⟨_,rfl⟩;obtain⟨Sp,hSp⟩:∃ S,str x.r.path=S:=⟨_,rfl⟩;have HSh:=hid hSh;rw [hSh] at q0 HFi;rw [hSp] at q1 HFj;obtain⟨mn,hmn⟩:∃ mn,x.r.ms.length=mn:=⟨_,rfl⟩;have HMn:=hid hmn;have hmnn:mn≤1048576:=by rw [←hmn];exact(HI.out.ms x (List.mem_of_getElem? HX.out)).1
      have HE0:=hid (show ((mn:Int)== 0)=x.r.ms.isEmpty from by
       rw [←hmn];cases x.r.ms with
       |nil=>rfl
       |cons a b=>rw [beq_eq_false_iff_ne.2 (by simp;omega)];rfl)
      rw [hmn] at q2;have hn8:=below_new w7 (.cells #[.string Sh,.string Sp,.slice x.q mn x.k,.string s3,.bool b4,.string s5,.string s6,.slice q7' n7 c7,.int .i64 i8,.int .i64 i9,.int .i64 i10,.int .i64 i11,.int .i64 i12] 42 (0,0));have HG8:=hid (heap_alloc_new w7 (.cells #[.string Sh,.string Sp,.slice x.q mn x.k,.string s3,.bool b4,.string s5,.string s6,.slice q7' n7 c7,.int .i64 i8,.int .i64 i9,.int .i64 i10,.int .i64 i11,.int .i64 i12] 42 (0,0)));have HB8:=hid (below_out HB7.out hn8);have HA8:=hid (HA7.out.next hn8);obtain⟨x0,_,_⟩:=HA8.out;clear hn8 hzx e3 e4 e5 e6 e7 e8 e9 e10 e11 e12 hSh hSp hmn;go_wp2_with (first|(go_at_call 21;(with_reducible refine(HFi.out _).mono ?_);rintro e w8 ⟨rfl,hb8⟩;have HB9:=hid (below_out HB8.out hb8);have HA9:=hid (HA8.out.next hb8);have HG9:=hid (kB hb8 HG8.out);obtain⟨t0,t1,t2,_⟩:=r13_of HG9.out;clear hb8)|(go_at_call 22;(with_reducible refine(HFj.out _).mono ?_);rintro e w9 ⟨hb9,q9',d9,rfl,_⟩;have HB10:=hid (below_out HB9.out hb9);have HA10:=hid (HA9.out.next hb9);have HG10:=hid (kB hb9 HG9.out);obtain⟨v0,v1,v2,_⟩:=r13_of HG10.out;clear hb9));go_loopg [19,20] (mn+1) (fun gk s19 s20 wr=>∃ k:Nat,k≤mn∧gk=mn-k+1∧s20= .int .i64 (k:Int)∧s19= .bool (x.r.ms.isEmpty || (x.r.ms.take k).contains method)∧Below w9.heap.size w9 wr)
      case atStart=>exact⟨0,Nat.zero_le _,rfl,rfl,by rw [HE0.out];simp,Below.refl _ _⟩
      case round=>
       obtain⟨k,hk,rfl,rfl,rfl,hbk⟩:=hrel;have HBk:=hid hbk;have HAk2:=hid (HA10.out.next hbk);have HGk:=hid (kB hbk HG10.out);have HBw:=hid (below_out HB10.out hbk);clear hbk;obtain⟨u0,u1,u2,_⟩:=r13_of HGk.out;obtain⟨a0',a1',a2'⟩:=HAk2.out;by_cases hkm:k<mn
       · obtain⟨z,hz⟩:∃ z,x.r.ms[k]?=some z:=⟨_,List.getElem?_eq_getElem (by rw [HMn.out];exact hkm)⟩;obtain⟨gq,oq,hq,qz⟩:=(HMt.out.next HBw.out) k z hz;rw [hq] at u2;have hT1:x.r.ms.take (k+1)=x.r.ms.take k++ [z]:=by rw [List.take_add_one,hz];rfl
         have HTn:=hid hT1;obtain⟨Sz,hSz⟩:∃ S,str z=S:=⟨_,rfl⟩;rw [hSz] at qz;have HSz:=hid hSz;clear hSz;obtain⟨v,hv⟩:∃ v,(x.r.ms.isEmpty || (x.r.ms.take k).contains method)=v:=⟨_,rfl⟩;have HV:=hid hv;rw [hv];have hq2:=hq;clear hz hv hT1 hq;cases v with
         |true=>
          have HNx:=hid (show (x.r.ms.isEmpty || (x.r.ms.take (k+1)).contains method)=true from by rw [cont_next HTn.out,HV.out];rfl);go_upto_region 23 with fail
          go_quiet (fail);go_wp2;go_roundg (mn-(k+1)+1)
          case measure=>omega
          case rel=>exact⟨k+1,by omega,rfl,by push_cast;go_num,by rw [HNx.out],HBk.out.trans ((below_drewH wr _).mono HBk.out.size)⟩
         |false=>
          by_cases hzm:z=method
          · have HNx:=hid (show (x.r.ms.isEmpty || (x.r.ms.take (k+1)).contains method)=true from by rw [cont_next HTn.out,HV.out,decide_eq_true hzm];rfl);obtain rfl:Sz=SK:=by rw [←HSz.out,←HSK.out,hzm]
            clear hzm;go_upto_region 23 with fail
            go_quiet (fail);go_wp2;go_roundg (mn-(k+1)+1)
            case measure=>omega
            case rel=>exact⟨k+1,by omega,rfl,by push_cast;go_num,by rw [HNx.out],HBk.out.trans ((below_drewH wr _).mono HBk.out.size)⟩
          · have HNx:=hid (show (x.r.ms.isEmpty || (x.r.ms.take (k+1)).contains method)=false from by rw [cont_next HTn.out,HV.out,decide_eq_false hzm];rfl);have hS:¬Sz=SK:=fun h=>hzm (str_inj (by rw [HSz.out,HSK.out,h]))
            have hS4:=ne_list hS;clear hzm;go_upto_region 23 with fail
            go_quiet (fail);go_wp2;go_roundg (mn-(k+1)+1)
            case measure=>omega
            case rel=>exact⟨k+1,by omega,rfl,by push_cast;go_num,by rw [HNx.out],HBk.out.trans ((below_drewH wr _).mono HBk.out.size)⟩
       · obtain rfl:mn=k:=by omega
         have HVt:=hid (show (x.r.ms.isEmpty || (x.r.ms.take mn).contains method)=true from by rw [List.take_of_length_le (by rw [HMn.out];exact Nat.le_refl _)];exact HTt.out);rw [HVt.out];go_wp2;clear u0 u1 u2 a0' a1' a2' v0 v1 v2 t0 t1 t2 x0 y0 y1 y2 z0 z1 z2 b0 b1 b2 q0 q1 q2 q3' q4 q5' q6 q7 q8 q9 q10 q11 q12;obtain⟨V,hV⟩:∃ V,V=wr:=⟨_,rfl⟩;subst hV;go_loopg [21] (n+1) (fun gk s21 wq=>∃ j:Nat,j≤n∧gk=n-j+1∧s21= .int .i64 (j:Int)∧Below V.heap.size V wq)
         case atStart=>exact⟨0,Nat.zero_le _,rfl,rfl,Below.refl _ _⟩
         case round=>
          obtain⟨j,hj,rfl,rfl,hbj⟩:=hrel;have HBj:=hid hbj;have HAj:=hid (HAk2.out.next hbj);have HGj:=hid (kB hbj HGk.out);have HBv:=hid (below_out HBw.out hbj);clear hbj;by_cases hjn:j<n
          · obtain⟨z,hz⟩:∃ z,l[j]?=some z:=⟨_,List.getElem?_eq_getElem (by rw [HI.out.len];exact hjn)⟩;obtain⟨g2,o2,hg2,hCz⟩:=(HI.out.at_.next HBv.out).at hz;injection hg2 with hg2
            injection hg2 with hg2 ho2 _
            subst hg2 ho2;have p0:=hCz.a0;have hzz:=HI.out.zp z (List.mem_of_getElem? hz);have hbz:=HBt.out z.r (List.mem_map.2 ⟨z,List.mem_of_getElem? hz,rfl⟩);have HBe:=hid (fun W:World=>rbeatsN z.r.host x.r.host host (Nat.le_trans hzz.z.host (by decide)) (Nat.le_trans (HI.out.zp x (List.mem_of_getElem? HX.out)).z.host (by decide)) hh W);rw [hbz,HSh.out,HSH.out] at HBe;obtain⟨Sz,hSz⟩:∃ S,str z.r.host=S:=⟨_,rfl⟩;rw [hSz] at HBe p0;obtain⟨bk,hbk⟩:∃ bk,(beatsN z.r.host x.r.host host).2=bk:=⟨_,rfl⟩;rw [hbk] at HBe;have hS29:R29S wr.drew g1 (o1+j*13) w7.heap.size w.heap.size Sz Sh SH:=⟨p0,(r13_of HGj.out).c0,HAj.out.c0⟩;clear hz hCz p0 hzz hbz hSz hbk;go_upto_region 29 with fail
            have HBd:=hid (show Below V.heap.size V (wr.drewN 1) from HBj.out.trans ((below_drewH wr 1).mono HBj.out.size));obtain⟨D,hD⟩:∃ D,wr.drewN 1=D:=⟨_,rfl⟩;have hD2:wr.drew=D:=hD;rw [hD] at HBd;rw [hD2] at hS29;refine wp_region_noPanic ?_;refine any_begin 15 (by kernel_rfl) (by kernel_rfl) ?_;rw [hD2];refine late_begin (fun U=>R29S U g1 (o1+j*13) w7.heap.size w.heap.size Sz Sh SH) (fun _=>false) hS29 (fun hS=>?_);refine ltk (i:=0) (some 173) rfl rfl (v:= ?v0z) ?hy0z hS ?rest0z
            case hy0z=>intro w0 hSw;obtain⟨a0,a1,a2⟩:=hSw;go_simp;try with_reducible rfl
            simp only [Act.put,sA,sB,sC];refine ltk (i:=1) (some 174) rfl rfl (v:= ?v1z) ?hy1z hS ?rest1z
            case hy1z=>intro w0 hSw;obtain⟨a0,a1,a2⟩:=hSw;go_simp;try with_reducible rfl
            simp only [Act.put,sA,sB,sC];refine ltk (i:=2) (some 175) rfl rfl (v:= ?v2z) ?hy2z hS ?rest2z
            case hy2z=>intro w0 hSw;obtain⟨a0,a1,a2⟩:=hSw;go_simp;try with_reducible rfl
            simp only [Act.put,sA,sB,sC];refine ltk (i:=3) (some 176) rfl rfl (v:= ?v3z) ?hy3z hS ?rest3z
            case hy3z=>intro w0 hSw;obtain⟨a0,a1,a2⟩:=hSw;go_simp;try with_reducible rfl
            simp only [Act.put,sA,sB,sC];refine ltk (i:=4) (some 177) rfl rfl (v:= ?v4z) ?hy4z hS ?rest4z
            case hy4z=>intro w0 hSw;obtain⟨a0,a1,a2⟩:=hSw;go_simp;try with_reducible rfl
            simp only [Act.put,sA,sB,sC];refine ltk (i:=5) (some 178) rfl rfl (v:= ?v5z) ?hy5z hS ?rest5z
            case hy5z=>intro w0 hSw;obtain⟨a0,a1,a2⟩:=hSw;go_simp;try with_reducible rfl
            simp only [Act.put,sA,sB,sC];refine ltk (i:=6) (some 179) rfl rfl (v:= ?v6z) ?hy6z hS ?rest6z
            case hy6z=>intro w0 hSw;obtain⟨a0,a1,a2⟩:=hSw;go_simp;try with_reducible rfl
            simp only [Act.put,sA,sB,sC];refine ltk (i:=7) (some 180) rfl rfl (v:= ?v7z) ?hy7z hS ?rest7z
            case hy7z=>intro w0 hSw;obtain⟨a0,a1,a2⟩:=hSw;go_simp;try with_reducible rfl
            simp only [Act.put,sA,sB,sC];refine ltk (i:=8) (some 181) rfl rfl (v:= ?v8z) ?hy8z hS ?rest8z
            case hy8z=>intro w0 hSw;obtain⟨a0,a1,a2⟩:=hSw;go_simp;try with_reducible rfl
            simp only [Act.put,sA,sB,sC];refine wpAnyD_one (i:=9) (by kernel_rfl) rfl (fun K hK=>?_);go_simp;go_at_call 23
            (with_reducible refine(HBe.out D).mono ?_)
            rintro e w9' ⟨rfl,hb9⟩;have HB29:=hid (HBd.out.trans (hb9.mono HBd.out.size));have hS2:=hS29.next hb9
            clear hb9;refine hK _ _ ⟨fun _=>hS2,?_⟩;clear hK K;try simp only [Act.put,sA,sB,sC]
            refine ltk (i:=10) (some 172) rfl rfl (v:= ?v10z) ?hy10z hS2 ?rest10z
            case hy10z=>intro w0 hSw;obtain⟨a0,a1,a2⟩:=hSw;go_simp;try with_reducible rfl
            simp only [Act.put,sA,sB,sC];refine ltk (i:=11) (some 183) rfl rfl (v:= ?v11z) ?hy11z hS2 ?rest11z
            case hy11z=>intro w0 hSw;obtain⟨a0,a1,a2⟩:=hSw;go_simp;try with_reducible rfl
            simp only [Act.put,sA,sB,sC];refine ltk (i:=12) (some 184) rfl rfl (v:= ?v12z) ?hy12z hS2 ?rest12z
            case hy12z=>intro w0 hSw;obtain⟨a0,a1,a2⟩:=hSw;go_simp;try with_reducible rfl
            simp only [Act.put,sA,sB,sC];refine ltk (i:=13) (some 22) rfl rfl (v:= ?v13z) ?hy13z hS2 ?rest13z
            case hy13z=>intro w0 hSw;obtain⟨a0,a1,a2⟩:=hSw;go_simp;try with_reducible rfl
            simp only [Act.put,sA,sB,sC];refine ltk (i:=14) (some 23) rfl rfl (v:= ?v14z) ?hy14z hS2 ?rest14z
            case hy14z=>intro w0 hSw;obtain⟨a0,a1,a2⟩:=hSw;go_simp;try with_reducible rfl
            simp only [Act.put,sA,sB,sC];refine late_done (by kernel_rfl) ?_ _;refine NoPanic.normal ?_;go_wp2;go_roundg (n-(j+1)+1)
            case measure=>omega
            case rel=>exact⟨j+1,by omega,rfl,by push_cast;go_num,HB29.out⟩
          · obtain rfl:n=j:=by omega
            go_wp2_with (go_at_call 7;(with_reducible refine(HWk.out _ HBv.out).mono ?_);rintro e wz ⟨rfl,hbz⟩;have HBz:=hid (below_out HBv.out hbz);clear hbz);go_ret;exact⟨rfl,HBz.out⟩
 · have HNe:=hid (fun w2 q d l' hO hT hk hb=>show Calls Tryz.prog 9 #[.slice q n d] w2 (fun e w'=>∃ k:Nat,e= .returned (.tuple #[.pointer none,.iface 74 (.int .i64 (k:Int))])∧Below w2.heap.size w2 w') from by
    refine(HNw.out w2 q d l' hO hT hk hb).mono ?_;rintro e w' (⟨_,h1,h2⟩|⟨h1,_⟩)
    · exact⟨_,h1,h2⟩
    · exact absurd h1 hE)
   clear hI hmx hSH hSP hSK hE hW0;go_enter Tryz.func6,Tryz.ntmps6;go_wp2_with (first|(go_at_call 8;(with_reducible refine HTw.out.mono ?_);rintro e w1 ⟨q,d,l',rfl,hO,hT,hk,hb1⟩;have HB1:=hid (below_out HB0.out hb1))|(go_at_call 9;(with_reducible refine(HNe.out w1 q d l' hO hT hk HB1.out).mono ?_);rintro e w2 ⟨k,rfl,hb2⟩;have HB2:=hid (below_out HB1.out hb2))|(go_at_call 7;(with_reducible refine(HWk.out _ HB2.out).mono ?_);rintro e w8 ⟨rfl,hb8⟩;have HB8:=hid (below_out HB2.out hb8);clear hb8));go_ret;exact⟨rfl,HB8.out⟩
end Go.Proofs.YtlmlljlappjjjaaGreatDoor
