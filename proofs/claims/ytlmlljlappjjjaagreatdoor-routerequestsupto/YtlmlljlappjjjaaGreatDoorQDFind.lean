/- The document's Find. -/
import Derived.Test.YtlmlljlappjjjaaGreatDoorQDoc
namespace Go.Proofs.YtlmlljlappjjjaaGreatDoor
open Go.RowKit
theorem foundD_size:(Tryz.prog.info? 50).map (·.size)=some 3:=by kernel_rfl
theorem results_fdD {fn:Func}{p u:Tmp} (h:fn.results= #[.cell p 50,.tmp u]) (tmps:Array Value) (w:World) (g:Nat) (t:TypeId) (cs:Array Value) (fr:Nat×Nat)
  (hp:tmps.getD p undef= .pointer (some ⟨g,0,none⟩)) (hg:w.heap[g]?=some (.cells cs t fr)) (hs:cs.size=3):(results fn tmps).run Tryz.prog w= .ok (.tuple #[.agg cs,tmps.getD u undef]) w:=by
 have hl:=run_loadVar_row (P:=Tryz.prog) w g t 50 cs fr _ hg Tryz.underlying50 rfl (by rw [foundD_size,hs]);have hp2:tmps[p]?.getD undef= .pointer (some ⟨g,0,none⟩):=by simpa using hp
 simp [results,h,hp2,asAddr,Result.andThen,hl]
def RDAns (L:List RtC) (host path method:B) (w:World) (e:Ending) (w':World):Prop:=Below w.heap.size w w'∧
 ((∃ k,FndNo L host path method k∧k≠0∧e= .returned (.tuple #[foundV 0 (.slice none 0 0) [],.int .i64 (k:Int)]))∨
  (∃ i F m q d,FndYes L host path method i F m∧e= .returned (.tuple #[foundV i (.slice q F.length d) m,.int .i64 0])∧OwnF w' w.heap.size (.slice q F.length d) F))
theorem docH_add {L:List RtC}{i:Nat}{r:RtC} (h:L[i]?=some r):docH (L.take (i+1))=addP (docH (L.take i)) r.host (i:Int):=by
 have hi:=(List.getElem?_eq_some_iff.1 h).1;rw [List.take_add_one,h,show (some r).toList= [r] from rfl,docH_snoc,List.length_take,Nat.min_eq_left (by omega)]
theorem docH_yes {L:List RtC}{i:Nat}{r:RtC} (h:L[i]?=some r) (h0:addE (docH (L.take i)) r.host=0):docH (L.take (i+1))=docH (L.take i)++ [(lowH r.host,(i:Int))]:=by
 rw [docH_add h];unfold addP;rw [if_pos h0]
theorem docH_not {L:List RtC}{i:Nat}{r:RtC} (h:L[i]?=some r) (h0:addE (docH (L.take i)) r.host≠0):docH (L.take (i+1))=docH (L.take i):=by
 rw [docH_add h];unfold addP;rw [if_neg h0]
theorem canon_none {host:B} (h:labsH false host=none):(canonN host).2=3:=by unfold canonN;rw [h]
theorem canon_some {host:B}{y:List B} (h:labsH false host=some y):(canonN host).2=0:=by unfold canonN;rw [h]
theorem fitsO_of_q {p m:B} (hc:checkP p=true) (hb:begB 47 m=true):fitsO p m=some (fitsT (cutT p.tail) (cutT m.tail)):=by unfold fitsO;rw [hc,hb];rfl
def bstV:Option Nat→Value
 |none=>.int .i64 (-1)
 |some b=>.int .i64 (b:Int)
structure R21S (U:World) (T g o gp op:Nat) (v:Value) (Sh Sq:ByteArray):Prop where
 c0:U.cell? ⟨T,0,none⟩=some v
 c1:U.cell? ⟨g,o,none⟩=some (.string Sh)
 c2:U.cell? ⟨gp,op,none⟩=some (.string Sq)
theorem R21S.next {W W':World}{T g o gp op:Nat}{v:Value}{Sh Sq:ByteArray} (h:R21S W T g o gp op v Sh Sq) (hb:Below W.heap.size W W'):R21S W' T g o gp op v Sh Sq:=⟨cell_keep hb h.c0,cell_keep hb h.c1,cell_keep hb h.c2⟩
structure R34S (U:World) (T g o gp op gx:Nat) (v:Value) (Sq Sb Sh Sp:ByteArray) (ms:Value):Prop where
 c0:U.cell? ⟨T,0,none⟩=some v
 c1:U.cell? ⟨g,o,none⟩=some (.string Sb)
 c2:U.cell? ⟨gp,op,none⟩=some (.string Sq)
 c3:U.cell? ⟨gx,0,none⟩=some (.string Sh)
 c4:U.cell? ⟨gx,1,none⟩=some (.string Sp)
 c5:U.cell? ⟨gx,2,none⟩=some ms
theorem R34S.next {W W':World}{T g o gp op gx:Nat}{v ms:Value}{Sq Sb Sh Sp:ByteArray} (h:R34S W T g o gp op gx v Sq Sb Sh Sp ms) (hb:Below W.heap.size W W'):R34S W' T g o gp op gx v Sq Sb Sh Sp ms:=⟨cell_keep hb h.c0,cell_keep hb h.c1,cell_keep hb h.c2,cell_keep hb h.c3,cell_keep hb h.c4,cell_keep hb h.c5⟩
set_option maxRecDepth 20000 in
set_option maxHeartbeats 64000000 in
theorem rdfind_any (l:List RtX) (p:Option Addr) (n c:Nat) (hn:l.length=n) (hf:FineR (l.map RtX.r)) (hz:∀ x∈l,RtZP x) (host path method:B) (hh:host.length≤9223372036854775807) (hp:path.length≤4294967280) (w:World) (hmx:MxAt w) (hT:RtsAt w p l):Calls Tryz.prog 13 #[.agg #[.slice p n c],.string (str host),.string (str path),.string (str method)] w fun e w'=>RDAns (l.map RtX.r) host path method w e w':=by
 have HN:=hid hn;have HT:=hid hT;have HZ:=hid hz;have HF:=hid hf;have HMx:=hid hmx;have hn64:n≤64:=by have:=hf.few;rw [List.length_map] at this;omega
 have HB0:=hid (BxR.new w (.cells #[.slice p n c] 32 (0,0)) (.cells #[.int .i64 0,.slice none 0 0,.string ⟨#[]⟩] 50 (0,0)));have HCn:=hid (fun W:World=>rcanon_any host hh W);have HNm:=hid (fun W:World=>rnormal_any path (by omega) W);obtain⟨SH,hSH⟩:∃ S,str host=S:=⟨_,rfl⟩;obtain⟨SM,hSM⟩:∃ S,str path=S:=⟨_,rfl⟩;obtain⟨SK,hSK⟩:∃ S,str method=S:=⟨_,rfl⟩;have HSK:=hid hSK;have HSH:=hid hSH;rw [hSH] at HCn;rw [hSM] at HNm;rw [hSH,hSM,hSK];clear hn hT hz hf hmx hSH hSM hSK;cases hl:labsH false host with
 |none=>
  have HNo:=hid (show FndNo (l.map RtX.r) host path method 3 from .inl ⟨by rw [canon_none hl];decide,(canon_none hl).symm⟩);rw [hl] at HCn;dsimp only at HCn;clear hl;go_enter Tryz.func13,Tryz.ntmps13;go_wp2_with (go_at_call 33;(with_reducible refine(HCn.out _).mono ?_);rintro e w1 ⟨rfl,hb1⟩;have HB1:=hid (HB0.out.next hb1);obtain⟨z0,f0,z1,f1,z2,f2⟩:=fd_box HB1.out.b (.int .i64 0) (.slice none 0 0);clear hb1);refine bodyPost_ret (results_fdD rfl _ _ (w.heap.size+1) _ _ (0,0) rfl (heap_three HB1.out.b _ _ _) rfl) rfl ?_;exact⟨below_three HB1.out.low (by omega) _ _ _,.inl ⟨3,HNo.out,by decide,rfl⟩⟩
 |some y=>
  rw [hl] at HCn;dsimp only at HCn;cases hm:normalB path with
  |none=>
   have HNo:=hid (show FndNo (l.map RtX.r) host path method 23 from .inr (.inl ⟨canon_some hl,hm,rfl⟩));rw [hm] at HNm;unfold decV at HNm;dsimp only at HNm;clear hl hm;go_enter Tryz.func13,Tryz.ntmps13;go_wp2_with (first|(go_at_call 33;(with_reducible refine(HCn.out _).mono ?_);rintro e w1 ⟨rfl,hb1⟩;have HB1:=hid (HB0.out.next hb1);skip;clear hb1)|(go_at_call 34;(with_reducible refine(HNm.out _).mono ?_);rintro e w2 ⟨rfl,hb2⟩;have HB2:=hid (HB1.out.next hb2);obtain⟨z0,f0,z1,f1,z2,f2⟩:=fd_box HB2.out.b (.int .i64 0) (.slice none 0 0);clear hb2));refine bodyPost_ret (results_fdD rfl _ _ (w.heap.size+1) _ _ (0,0) rfl (heap_three HB2.out.b _ _ _) rfl) rfl ?_;exact⟨below_three HB2.out.low (by omega) _ _ _,.inl ⟨23,HNo.out,by decide,rfl⟩⟩
  |some m=>
   rw [hm] at HNm;unfold decV at HNm;dsimp only at HNm;have HCo:=hid (canon_some hl);have HHm:=hid hm;have HMl:=hid (show m.length≤4294967280 by have:=normal_len_q hm;omega);have HBg:=hid (normal_beg hm);obtain⟨SY,hSY⟩:∃ S,str m=S:=⟨_,rfl⟩;have HSY:=hid hSY;rw [hSY] at HNm;have HLl:=hid (show (l.map RtX.r).length=n by rw [List.length_map];exact HN.out);have HAd:=hid (fun (i:Nat) (x:RtX) (hx:l[i]?=some x) (W:World) (q:Option Addr) (k d b:Nat) (hk:(docH ((l.map RtX.r).take i)).length=k) (hO:OwnP W b (.slice q k d) (docH ((l.map RtX.r).take i)))=>radd_any (docH ((l.map RtX.r).take i)) (Nat.le_trans (docH_le _ (by rw [List.length_take];have:=HF.out.few;omega) (take_chk HF.out.chk i)) (by decide)) x.r.host (Nat.le_trans (HZ.out x (List.mem_of_getElem? hx)).z.host (by decide)) (i:Int) q k d b hk W hO);have HFd:=hid (fun (W:World) (q:Option Addr) (k d:Nat) (hk:(docH (l.map RtX.r)).length=k) (hP:PtAt W q (docH (l.map RtX.r)))=>rfind_any (docH (l.map RtX.r)) (docH_fine HF.out.few HF.out.chk) host hh q k d hk (by rw [←hk];exact Nat.le_trans (docH_le _ HF.out.few HF.out.chk) (by decide)) W hP);rw [HSH.out] at HFd;unfold RFindAns at HFd;rw [hl] at HFd;dsimp only at HFd;have HLb:=hid hl;clear hl hm hSY;go_enter Tryz.func13,Tryz.ntmps13;go_wp2_with (first|(go_at_call 33;(with_reducible refine(HCn.out _).mono ?_);rintro e w1 ⟨rfl,hb1⟩;have HB1:=hid (HB0.out.next hb1);skip;clear hb1)|(go_at_call 34;(with_reducible refine(HNm.out _).mono ?_);rintro e w2 ⟨rfl,hb2⟩;have HB2:=hid (HB1.out.next hb2);skip;clear hb2));go_loopg [13,14,15,16] (n+1) (fun gk s13 s14 s15 s16 wr=>∃ (i k d b:Nat) (q:Option Addr),i≤n∧gk=n-i+1∧s14= .int .i64 (i:Int)∧s13= .slice q k d∧(docH ((l.map RtX.r).take i)).length=k∧OwnP wr b (.slice q k d) (docH ((l.map RtX.r).take i))∧BxR w wr (.cells #[.slice p n c] 32 (0,0)) (.cells #[.int .i64 0,.slice none 0 0,.string ⟨#[]⟩] 50 (0,0)))
   case atStart=>exact⟨0,0,0,w2.heap.size,none,Nat.zero_le _,rfl,rfl,rfl,rfl,OwnR.nil _ _,HB2.out⟩
   case round=>
    clear HB0 HB1 HB2 HCn HNm;obtain⟨i,k,d,b,q,hi,rfl,rfl,rfl,hk,hO,hB⟩:=hrel;have HK:=hid hk;have HO:=hid hO;have HBi:=hid hB;clear hk hO hB;by_cases hin:i<n
    · obtain⟨x,hx⟩:∃ x,l[i]?=some x:=⟨_,List.getElem?_eq_getElem (by rw [HN.out];exact hin)⟩;have HX:=hid hx;obtain⟨g1,o1,rfl,hC⟩:=(HT.out.next HBi.out.low).at hx;have q0:=hC.a0;have z0:=cell0 HBi.out.a;have HA:=hid (HAd.out i x hx wr q k d b HK.out HO.out);unfold RAddAns at HA;have HYs:=hid (docH_yes (map_r hx));have HNt:=hid (docH_not (map_r hx));obtain⟨Sh,hSh⟩:∃ S,str x.r.host=S:=⟨_,rfl⟩;rw [hSh] at HA q0;obtain⟨ae,hae⟩:∃ ae,addE (docH ((l.map RtX.r).take i)) x.r.host=ae:=⟨_,rfl⟩;rw [hae] at HA HYs HNt;clear hx hC hSh hae;by_cases h0:ae=0
      · subst h0;have HYd:=hid (HYs.out rfl);have HA2:=hid (HA.out.mono (R':=fun e w'=>Below wr.heap.size wr w'∧∃ q d,e= .returned (.tuple #[.slice q (k+1) d,.int .i64 0])∧OwnP w' wr.heap.size (.slice q (k+1) d) (docH ((l.map RtX.r).take i)++ [(lowH x.r.host,(i:Int))])) (by
         rintro e w' ⟨h1,⟨h2,_⟩|⟨_,q',d',h3,h4⟩⟩
         · exact absurd rfl h2
         · rw [HK.out] at h3 h4;exact⟨h1,q',d',h3,h4⟩))
        clear HA;go_wp2_with (go_at_call 35;(with_reducible refine HA2.out.mono ?_);rintro e w3 ⟨hb3,q3,d3,rfl,hO3⟩;have HB3:=hid (HBi.out.next hb3);have HO3:=hid hO3;clear hb3 hO3);go_roundg (n-(i+1)+1)
        case measure=>omega
        case rel=>exact⟨i+1,k+1,d3,wr.heap.size,q3,by omega,rfl,by push_cast;go_num,rfl,by rw [HYd.out,List.length_append,HK.out];rfl,by rw [HYd.out];exact HO3.out,HB3.out⟩
      · have HA2:=hid (HA.out.mono (R':=fun e w'=>Below wr.heap.size wr w'∧e= .returned (.tuple #[.slice q k d,.int .i64 (ae:Int)])) (by
         rintro e w' ⟨h1,⟨_,h2⟩|⟨h2,_⟩⟩
         · exact⟨h1,h2⟩
         · exact absurd h2 h0))
        have hae0:¬(ae:Int)=0:=by omega
        clear HA;go_wp2_with (go_at_call 35;(with_reducible refine HA2.out.mono ?_);rintro e w3 ⟨hb3,rfl⟩;have HB3:=hid (HBi.out.next hb3);have HO3:=hid (HO.out.keep hb3);clear hb3);go_roundg (n-(i+1)+1)
        case measure=>omega
        case rel=>exact⟨i+1,k,d,b,q,by omega,rfl,by push_cast;go_num,rfl,by rw [HNt.out h0];exact HK.out,by rw [HNt.out h0];exact HO3.out,HB3.out⟩
    · obtain rfl:n=i:=by omega
      rw [show (l.map RtX.r).take n=l.map RtX.r from List.take_of_length_le (by rw [HLl.out];exact Nat.le_refl _)] at HK HO;have z0:=cell0 HBi.out.a;have HFw:=hid (HFd.out wr q k d HK.out HO.out.pt);cases hbf:bestF y (docH (l.map RtX.r)) with
      |none=>
       have HF2:=hid (HFw.out.mono (R':=fun e w'=>Below wr.heap.size wr w'∧e= .returned (.tuple #[.int .i64 (-1),.int .i64 8])) (by
        rintro e w' ⟨h1,⟨_,h2⟩|⟨b,p,_,h2,_⟩⟩
        · exact⟨h1,h2⟩
        · rw [hbf] at h2;cases h2))
       have HNo:=hid (show FndNo (l.map RtX.r) host path method 8 from .inr (.inr ⟨HCo.out,m,HHm.out,.inl (doc_none HF.out.few HF.out.chk HLb.out hbf m)⟩));clear hbf HFw;go_wp2_with (go_at_call 36;(with_reducible refine HF2.out.mono ?_);rintro e w3 ⟨hb3,rfl⟩;have HB3:=hid (HBi.out.next hb3);obtain⟨z0,f0,z1,f1,z2,f2⟩:=fd_box HB3.out.b (.int .i64 0) (.slice none 0 0);clear hb3);refine bodyPost_ret (results_fdD rfl _ _ (w.heap.size+1) _ _ (0,0) rfl (heap_three HB3.out.b _ _ _) rfl) rfl ?_;exact⟨below_three HB3.out.low (by omega) _ _ _,.inl ⟨8,HNo.out,by decide,rfl⟩⟩
      |some pb=>
       have HF2:=hid (HFw.out.mono (R':=fun e w'=>Below wr.heap.size wr w'∧∃ b:Nat,(docH (l.map RtX.r))[b]?=some pb∧e= .returned (.tuple #[.int .i64 (b:Int),.int .i64 0])) (by
        rintro e w' ⟨h1,⟨h2,_⟩|⟨b,p,h3,h2,h4⟩⟩
        · rw [hbf] at h2;cases h2
        · rw [hbf] at h2;injection h2 with h2
          subst h2;exact⟨h1,b,h3,h4⟩))
       obtain⟨gn,hg1,hg2⟩:=doc_some HF.out.few HF.out.chk HLb.out hbf;have HG1:=hid hg1;have HG2:=hid hg2;clear hbf HFw hg1 hg2;go_wp2_with (go_at_call 36;(with_reducible refine HF2.out.mono ?_);rintro e w4 ⟨hb4,bb,hbb,rfl⟩;have HB4:=hid (HBi.out.next hb4);have HP4:=hid (HO.out.pt.next hb4);have HBb:=hid hbb;clear hb4 hbb);have hbk:bb<k:=by have:=(List.getElem?_eq_some_iff.1 HBb.out).1;rw [HK.out] at this;exact this
       obtain⟨gp,op,rfl,_,_⟩:=HP4.out bb pb HBb.out;obtain⟨Sq,hSq⟩:∃ S,str pb.1=S:=⟨_,rfl⟩;have HSq:=hid hSq;obtain⟨r0,hr0,er0⟩:=docH_low HF.out.few HF.out.chk pb (List.mem_of_getElem? HBb.out);have HLow:=hid (show lowH pb.1=pb.1 by rw [er0,low_low]);have HPl:=hid (show (str pb.1).size≤140737488351232 by
        obtain⟨x0,hx0,rfl⟩:=List.mem_map.1 hr0;rw [str_size,er0,low_len];exact(HZ.out x0 hx0).z.host)
       have HPc:=hid (fun (W:World) (hb:Below w4.heap.size w4 W)=>show W.cell? ⟨gp,op+bb*2,none⟩=some (.string Sq) from by
        obtain⟨g',o',e',h',_⟩:=(HP4.out.next hb) bb pb HBb.out;cases e';rw [←HSq.out];exact h')
       have HRow:=hid (fun (W:World) (hb:Below w.heap.size w W) (j:Nat) (x:RtX) (hx:l[j]?=some x)=>(HT.out.next hb).at hx);have HFt:=hid (fun (x:RtX) (hx:x∈l) (W:World)=>show Calls Tryz.prog 22 #[.string (str x.r.path),.string SY] W (fun e w'=>RFitsAns (some (fitsT (cutT x.r.path.tail) (cutT m.tail))) W e w') from by
        have h9:=rfitsO_any x.r.path m (HZ.out x hx).z.path HMl.out W;rw [fitsO_of_q (chk_parts (HF.out.chk x.r (List.mem_map.2 ⟨x,hx,rfl⟩))).2 HBg.out,HSY.out] at h9;exact h9)
       clear hSq hr0 er0 HFd HAd HF2 HO HP4 z0;go_loopg [18,19,20,21,22,23,24] (n+1) (fun gk s18 s19 s20 s21 s22 s23 s24 wr=>∃ (i:Nat) (ob:Option Nat),i≤n∧gk=n-i+1∧s19= .int .i64 (i:Int)∧s18=bstV ob∧BestD (l.map RtX.r) pb.1 m i ob∧BxR w wr (.cells #[.slice p n c] 32 (0,0)) (.cells #[.int .i64 0,.slice none 0 0,.string ⟨#[]⟩] 50 (0,0))∧Below w4.heap.size w4 wr)
       case atStart=>exact⟨0,none,Nat.zero_le _,rfl,rfl,rfl,BestD.start _ _ _,HB4.out,Below.refl _ _⟩
       case round=>
        clear HBi HB4;obtain⟨i,ob,hi,rfl,rfl,rfl,hE,hB,hb⟩:=hrel;have HE:=hid hE;have HBi:=hid hB;have HBr:=hid hb;clear hE hB hb;by_cases hin:i<n
        · obtain⟨x,hx⟩:∃ x,l[i]?=some x:=⟨_,List.getElem?_eq_getElem (by rw [HN.out];exact hin)⟩;have HX:=hid hx;obtain⟨g1,o1,rfl,hC⟩:=HRow.out wr HBi.out.low i x hx;have HC:=hid hC;have HZx:=hid (HZ.out x (List.mem_of_getElem? hx));have HSm:=hid (fun W:World=>rsame_any (str x.r.host) (str pb.1) W (by rw [str_size];exact HZx.out.z.host) HPl.out);simp only [same_low_q] at HSm;rw [HLow.out,HSq.out] at HSm;have HFx:=hid (HFt.out x (List.mem_of_getElem? hx));obtain⟨Sh,hSh⟩:∃ S,str x.r.host=S:=⟨_,rfl⟩;obtain⟨Sp,hSp⟩:∃ S,str x.r.path=S:=⟨_,rfl⟩;rw [hSh] at HSm;rw [hSp] at HFx;have HSp:=hid hSp;have hS0:R21S wr.drew w.heap.size g1 (o1+i*13) gp (op+bb*2) (.slice (some ⟨g1,o1,none⟩) n c) Sh Sq:=⟨cell0 HBi.out.a,by rw [←hSh];exact hC.a0,HPc.out _ (below_out HBr.out (below_drewH wr 1))⟩;have z0:=cell0 HBi.out.a;have q1:=hC.a1;rw [hSp] at q1;have Hq1:=hid q1;obtain⟨s,hs⟩:∃ s,decide (lowH x.r.host=pb.1)=s:=⟨_,rfl⟩;rw [hs] at HSm;have HS:=hid hs;clear hx hC hSh hSp hs q1;go_upto_region 21 with fail
          clear z0;refine wp_region_noPanic ?_;refine any_begin 13 (by kernel_rfl) (by kernel_rfl) ?_;refine late_begin (fun U=>R21S U w.heap.size g1 (o1+i*13) gp (op+bb*2) (.slice (some ⟨g1,o1,none⟩) n c) Sh Sq) (fun _=>false) hS0 (fun hS=>?_);refine ltk (i:=0) (some 86) rfl rfl (v:= ?v0a) ?hy0a hS ?rest0a
          case hy0a=>intro w0 hSw;obtain⟨a0,a1,a2⟩:=hSw;go_simp;try with_reducible rfl
          simp only [Act.put,sA,sB,sC];refine ltk (i:=1) (some 87) rfl rfl (v:= ?v1a) ?hy1a hS ?rest1a
          case hy1a=>intro w0 hSw;obtain⟨a0,a1,a2⟩:=hSw;go_simp;try with_reducible rfl
          simp only [Act.put,sA,sB,sC];refine ltk (i:=2) (some 88) rfl rfl (v:= ?v2a) ?hy2a hS ?rest2a
          case hy2a=>intro w0 hSw;obtain⟨a0,a1,a2⟩:=hSw;go_simp;try with_reducible rfl
          simp only [Act.put,sA,sB,sC];refine ltk (i:=3) (some 89) rfl rfl (v:= ?v3a) ?hy3a hS ?rest3a
          case hy3a=>intro w0 hSw;obtain⟨a0,a1,a2⟩:=hSw;go_simp;try with_reducible rfl
          simp only [Act.put,sA,sB,sC];refine ltk (i:=4) (some 90) rfl rfl (v:= ?v4a) ?hy4a hS ?rest4a
          case hy4a=>intro w0 hSw;obtain⟨a0,a1,a2⟩:=hSw;go_simp;try with_reducible rfl
          simp only [Act.put,sA,sB,sC];refine ltk (i:=5) (some 91) rfl rfl (v:= ?v5a) ?hy5a hS ?rest5a
          case hy5a=>intro w0 hSw;obtain⟨a0,a1,a2⟩:=hSw;go_simp;try with_reducible rfl
          simp only [Act.put,sA,sB,sC];refine ltk (i:=6) (some 92) rfl rfl (v:= ?v6a) ?hy6a hS ?rest6a
          case hy6a=>intro w0 hSw;obtain⟨a0,a1,a2⟩:=hSw;go_simp;try with_reducible rfl
          simp only [Act.put,sA,sB,sC];refine ltk (i:=7) (some 93) rfl rfl (v:= ?v7a) ?hy7a hS ?rest7a
          case hy7a=>intro w0 hSw;obtain⟨a0,a1,a2⟩:=hSw;go_simp;try with_reducible rfl
          simp only [Act.put,sA,sB,sC];refine ltk (i:=8) (some 94) rfl rfl (v:= ?v8a) ?hy8a hS ?rest8a
          case hy8a=>intro w0 hSw;obtain⟨a0,a1,a2⟩:=hSw;go_simp;try with_reducible rfl
          simp only [Act.put,sA,sB,sC];refine ltk (i:=9) (some 95) rfl rfl (v:= ?v9a) ?hy9a hS ?rest9a
          case hy9a=>intro w0 hSw;obtain⟨a0,a1,a2⟩:=hSw;go_simp;try with_reducible rfl
          simp only [Act.put,sA,sB,sC];refine ltk (i:=10) (some 96) rfl rfl (v:= ?v10a) ?hy10a hS ?rest10a
          case hy10a=>intro w0 hSw;obtain⟨a0,a1,a2⟩:=hSw;go_simp;try with_reducible rfl
          simp only [Act.put,sA,sB,sC];refine wpAnyD_one (i:=11) (by kernel_rfl) rfl (fun K hK=>?_);go_simp;go_at_call 37
          (with_reducible refine(HSm.out _).mono ?_)
          rintro e w9' ⟨rfl,hb9⟩;have hS2:=hS0.next hb9
          have HB21:=hid ((HBi.out.next (below_drewH wr 1)).next hb9);have HBr21:=hid (below_out (below_out HBr.out (below_drewH wr 1)) hb9);have HR21:=hid (cell_keep hb9 (cell_keep (below_drewH wr 1) Hq1.out));clear hb9;refine hK _ _ ⟨fun _=>hS2,?_⟩;clear hK K;try simp only [Act.put,sA,sB,sC]
          refine ltk (i:=12) (some 98) rfl rfl (v:= ?v12a) ?hy12a hS2 ?rest12a
          case hy12a=>intro w0 hSw;obtain⟨a0,a1,a2⟩:=hSw;go_simp;try with_reducible rfl
          simp only [Act.put,sA,sB,sC];refine late_done (by kernel_rfl) ?_ _;refine NoPanic.normal ?_;cases s with
          |false=>
           go_wp2;go_roundg (n-(i+1)+1)
           case measure=>omega
           case rel=>exact⟨i+1,ob,by omega,rfl,by push_cast;go_num,rfl,HE.out.skip (map_r HX.out) (.inl (of_decide_eq_false HS.out)),HB21.out,HBr21.out⟩
          |true=>
           have HHo:=hid (of_decide_eq_true HS.out);have q1:=HR21.out;have z0:w9'.cell? ⟨w.heap.size,0,none⟩=some (.slice (some ⟨g1,o1,none⟩) n c):=hS2.c0;cases hft:fitsT (cutT x.r.path.tail) (cutT m.tail) with
           |none=>
            rw [hft] at HFx;unfold RFitsAns at HFx;dsimp only at HFx;have HFno:=hid hft;clear hft;go_wp2_with (go_at_call 22;(with_reducible refine(HFx.out _).mono ?_);rintro e w5 ⟨hb5,rfl⟩;have HB5:=hid (HB21.out.next hb5);have HBr5:=hid (below_out HBr21.out hb5);clear hb5);go_roundg (n-(i+1)+1)
            case measure=>omega
            case rel=>exact⟨i+1,ob,by omega,rfl,by push_cast;go_num,rfl,HE.out.skip (map_r HX.out) (.inr HFno.out),HB5.out,HBr5.out⟩
           |some FF=>
            rw [hft] at HFx;unfold RFitsAns at HFx;dsimp only at HFx;have HFy:=hid (show (fitsT (cutT x.r.path.tail) (cutT m.tail)).isSome=true by rw [hft];rfl);clear hft;cases ob with
            |none=>
             rw [show bstV none= .int .i64 (-1) from rfl];go_wp2_with (go_at_call 22;(with_reducible refine(HFx.out _).mono ?_);rintro e w5 ⟨hb5,q5,d5,rfl,_⟩;have HB5:=hid (HB21.out.next hb5);have HBr5:=hid (below_out HBr21.out hb5);clear hb5);go_roundg (n-(i+1)+1)
             case measure=>omega
             case rel=>exact⟨i+1,some i,by omega,rfl,by push_cast;go_num,rfl,HE.out.first (map_r HX.out) HHo.out HFy.out,HB5.out,HBr5.out⟩
            |some bz=>
             rw [show bstV (some bz)= .int .i64 (bz:Int) from rfl];have hbzi:bz<i:=HE.out.1;have hbz0:(0:Int)≤(bz:Int):=by omega
             have hbzn:bz<n:=by omega
             obtain⟨xb,hxb⟩:∃ x,l[bz]?=some x:=⟨_,List.getElem?_eq_getElem (by rw [HN.out];omega)⟩;have HXb:=hid hxb;have HZb:=hid (HZ.out xb (List.mem_of_getElem? hxb));have HBe:=hid (fun (W:World) (h:MxAt W)=>rbeats_any x.r.path xb.r.path m HZx.out.z.path HZb.out.z.path HMl.out W h);have hxf:(fitsT (cutT xb.r.path.tail) (cutT m.tail)).isSome=true:=by
              obtain⟨_,u,h1,_,h2,_⟩:=HE.out;rw [map_r hxb] at h1;injection h1 with h1
              rw [h1];exact h2
             have hbo:beatsO x.r.path xb.r.path m=(betterT (cutT x.r.path.tail) (cutT xb.r.path.tail),0):=by
              obtain⟨f1,h1⟩:=Option.isSome_iff_exists.1 HFy.out;obtain⟨f2,h2⟩:=Option.isSome_iff_exists.1 hxf;unfold beatsO;rw [fitsO_of_q (chk_parts (HF.out.chk x.r (List.mem_map.2 ⟨x,List.mem_of_getElem? HX.out,rfl⟩))).2 HBg.out,fitsO_of_q (chk_parts (HF.out.chk xb.r (List.mem_map.2 ⟨xb,List.mem_of_getElem? hxb,rfl⟩))).2 HBg.out,h1,h2]
             rw [hbo,HSp.out,HSY.out] at HBe;obtain⟨Sb,hSb⟩:∃ S,str xb.r.path=S:=⟨_,rfl⟩;rw [hSb] at HBe;have HSb:=hid hSb;obtain⟨s2,hs2⟩:∃ s,betterT (cutT x.r.path.tail) (cutT xb.r.path.tail)=s:=⟨_,rfl⟩;rw [hs2] at HBe;have HS2:=hid hs2;clear hxb hxf hbo hSb hs2;go_upto_region 25 with (go_at_call 22;(with_reducible refine(HFx.out _).mono ?_);rintro e w5 ⟨hb5,q5,d5,rfl,_⟩;have HB5:=hid (HB21.out.next hb5);have HBr5:=hid (below_out HBr21.out hb5);have HR5:=hid (cell_keep hb5 HR21.out);clear hb5)
             obtain⟨g2,o2,e2,hC2⟩:=HRow.out w5 HB5.out.low bz xb HXb.out;injection e2 with e2
             injection e2 with e2 e3
             subst e2 e3;have hS1:R21S w5.drew w.heap.size g1 (o1+i*13+1) g1 (o1+bz*13+1) (.slice (some ⟨g1,o1,none⟩) n c) Sp Sb:=⟨cell0 HB5.out.a,HR5.out,by rw [←HSb.out];exact hC2.a1⟩;have hmx5:MxAt w5.drew:=HMx.out.next (HB5.out.next (below_drewH w5 1)).low
             clear hC2;refine wp_region_noPanic ?_;refine any_begin 19 (by kernel_rfl) (by kernel_rfl) ?_;refine late_begin (fun U=>R21S U w.heap.size g1 (o1+i*13+1) g1 (o1+bz*13+1) (.slice (some ⟨g1,o1,none⟩) n c) Sp Sb) (fun _=>false) hS1 (fun hS=>?_);refine ltk (i:=0) (some 116) rfl rfl (v:= ?v0b) ?hy0b hS ?rest0b
             case hy0b=>intro w0 hSw;obtain⟨a0,a1,a2⟩:=hSw;go_simp;try with_reducible rfl
             simp only [Act.put,sA,sB,sC];refine ltk (i:=1) (some 117) rfl rfl (v:= ?v1b) ?hy1b hS ?rest1b
             case hy1b=>intro w0 hSw;obtain⟨a0,a1,a2⟩:=hSw;go_simp;try with_reducible rfl
             simp only [Act.put,sA,sB,sC];refine ltk (i:=2) (some 118) rfl rfl (v:= ?v2b) ?hy2b hS ?rest2b
             case hy2b=>intro w0 hSw;obtain⟨a0,a1,a2⟩:=hSw;go_simp;try with_reducible rfl
             simp only [Act.put,sA,sB,sC];refine ltk (i:=3) (some 119) rfl rfl (v:= ?v3b) ?hy3b hS ?rest3b
             case hy3b=>intro w0 hSw;obtain⟨a0,a1,a2⟩:=hSw;go_simp;try with_reducible rfl
             simp only [Act.put,sA,sB,sC];refine ltk (i:=4) (some 120) rfl rfl (v:= ?v4b) ?hy4b hS ?rest4b
             case hy4b=>intro w0 hSw;obtain⟨a0,a1,a2⟩:=hSw;go_simp;try with_reducible rfl
             simp only [Act.put,sA,sB,sC];refine ltk (i:=5) (some 121) rfl rfl (v:= ?v5b) ?hy5b hS ?rest5b
             case hy5b=>intro w0 hSw;obtain⟨a0,a1,a2⟩:=hSw;go_simp;try with_reducible rfl
             simp only [Act.put,sA,sB,sC];refine ltk (i:=6) (some 122) rfl rfl (v:= ?v6b) ?hy6b hS ?rest6b
             case hy6b=>intro w0 hSw;obtain⟨a0,a1,a2⟩:=hSw;go_simp;try with_reducible rfl
             simp only [Act.put,sA,sB,sC];refine ltk (i:=7) (some 123) rfl rfl (v:= ?v7b) ?hy7b hS ?rest7b
             case hy7b=>intro w0 hSw;obtain⟨a0,a1,a2⟩:=hSw;go_simp;try with_reducible rfl
             simp only [Act.put,sA,sB,sC];refine ltk (i:=8) (some 124) rfl rfl (v:= ?v8b) ?hy8b hS ?rest8b
             case hy8b=>intro w0 hSw;obtain⟨a0,a1,a2⟩:=hSw;go_simp;try with_reducible rfl
             simp only [Act.put,sA,sB,sC];refine ltk (i:=9) (some 125) rfl rfl (v:= ?v9b) ?hy9b hS ?rest9b
             case hy9b=>intro w0 hSw;obtain⟨a0,a1,a2⟩:=hSw;go_simp;try with_reducible rfl
             simp only [Act.put,sA,sB,sC];refine ltk (i:=10) (some 126) rfl rfl (v:= ?v10b) ?hy10b hS ?rest10b
             case hy10b=>intro w0 hSw;obtain⟨a0,a1,a2⟩:=hSw;go_simp;try with_reducible rfl
             simp only [Act.put,sA,sB,sC];refine ltk (i:=11) (some 127) rfl rfl (v:= ?v11b) ?hy11b hS ?rest11b
             case hy11b=>intro w0 hSw;obtain⟨a0,a1,a2⟩:=hSw;go_simp;try with_reducible rfl
             simp only [Act.put,sA,sB,sC];refine ltk (i:=12) (some 128) rfl rfl (v:= ?v12b) ?hy12b hS ?rest12b
             case hy12b=>intro w0 hSw;obtain⟨a0,a1,a2⟩:=hSw;go_simp;try with_reducible rfl
             simp only [Act.put,sA,sB,sC];refine wpAnyD_one (i:=13) (by kernel_rfl) rfl (fun K hK=>?_);go_simp;go_at_call 38
             (with_reducible refine(HBe.out _ hmx5).mono ?_)
             rintro e w8' ⟨rfl,hb8⟩;have hS3:=hS1.next hb8
             have HB25:=hid ((HB5.out.next (below_drewH w5 1)).next hb8);have HBr25:=hid (below_out (below_out HBr5.out (below_drewH w5 1)) hb8);clear hb8;refine hK _ _ ⟨fun _=>hS3,?_⟩;clear hK K;try simp only [Act.put,sA,sB,sC]
             refine ltk (i:=14) (some 115) rfl rfl (v:= ?v14b) ?hy14b hS3 ?rest14b
             case hy14b=>intro w0 hSw;obtain⟨a0,a1,a2⟩:=hSw;go_simp;try with_reducible rfl
             simp only [Act.put,sA,sB,sC];refine ltk (i:=15) (some 130) rfl rfl (v:= ?v15b) ?hy15b hS3 ?rest15b
             case hy15b=>intro w0 hSw;obtain⟨a0,a1,a2⟩:=hSw;go_simp;try with_reducible rfl
             simp only [Act.put,sA,sB,sC];refine ltk (i:=16) (some 131) rfl rfl (v:= ?v16b) ?hy16b hS3 ?rest16b
             case hy16b=>intro w0 hSw;obtain⟨a0,a1,a2⟩:=hSw;go_simp;try with_reducible rfl
             simp only [Act.put,sA,sB,sC];refine ltk (i:=17) (some 23) rfl rfl (v:= ?v17b) ?hy17b hS3 ?rest17b
             case hy17b=>intro w0 hSw;obtain⟨a0,a1,a2⟩:=hSw;go_simp;try with_reducible rfl
             simp only [Act.put,sA,sB,sC];refine ltk (i:=18) (some 24) rfl rfl (v:= ?v18b) ?hy18b hS3 ?rest18b
             case hy18b=>intro w0 hSw;obtain⟨a0,a1,a2⟩:=hSw;go_simp;try with_reducible rfl
             simp only [Act.put,sA,sB,sC];refine late_done (by kernel_rfl) ?_ _;refine NoPanic.normal ?_;cases s2 with
             |false=>
              go_wp2;go_roundg (n-(i+1)+1)
              case measure=>omega
              case rel=>exact⟨i+1,some bz,by omega,rfl,by push_cast;go_num,rfl,HE.out.keep HF.out (map_r HXb.out) (map_r HX.out) HHo.out HFy.out HS2.out,HB25.out,HBr25.out⟩
             |true=>
              go_wp2;go_roundg (n-(i+1)+1)
              case measure=>omega
              case rel=>exact⟨i+1,some i,by omega,rfl,by push_cast;go_num,rfl,HE.out.win (map_r HXb.out) (map_r HX.out) HHo.out HFy.out HS2.out,HB25.out,HBr25.out⟩
        · obtain rfl:n=i:=by omega
          rw [←HLl.out] at HE;cases ob with
          |none=>
           rw [show bstV none= .int .i64 (-1) from rfl];have HNo:=hid (show FndNo (l.map RtX.r) host path method 8 from .inr (.inr ⟨HCo.out,m,HHm.out,.inl (HE.out.no HG1.out HG2.out HBg.out)⟩));have z0:=cell0 HBi.out.a;obtain⟨y0,f0,y1,f1,y2,f2⟩:=fd_box HBi.out.b (.int .i64 0) (.slice none 0 0);go_wp2;refine bodyPost_ret (results_fdD rfl _ _ (w.heap.size+1) _ _ (0,0) rfl (heap_three HBi.out.b _ _ _) rfl) rfl ?_;exact⟨below_three HBi.out.low (by omega) _ _ _,.inl ⟨8,HNo.out,by decide,rfl⟩⟩
          |some bx=>
           rw [show bstV (some bx)= .int .i64 (bx:Int) from rfl];have hbxn:bx<n:=by have:=HE.out.1;rw [HLl.out] at this;exact this
           obtain⟨xb,hxb⟩:∃ x,l[bx]?=some x:=⟨_,List.getElem?_eq_getElem (by rw [HN.out];exact hbxn)⟩;have HXb:=hid hxb;obtain⟨pp,F,hpp,hF9,hW⟩:=HE.out.yes HG1.out HG2.out HBg.out (map_r hxb);have HWy:=hid hW;have HPp:=hid hpp;have HFF:=hid hF9;have hbx0:¬(bx:Int)<0:=by omega
           obtain⟨Sb,hSb⟩:∃ S,str xb.r.path=S:=⟨_,rfl⟩;have HSb:=hid hSb;have HBx0:=hid HBi.out;have HBr0:=hid HBr.out;obtain⟨w6,hw6⟩:∃ W,W=wr:=⟨_,rfl⟩;subst hw6;have z0:=cell0 HBx0.out.a;clear hxb hpp hF9 hW hSb HE HBr hi hin;go_wp2;clear z0;go_loopg [25,26,27,28,29] (n+1) (fun gk s25 s26 s27 s28 s29 wr=>∃ i:Nat,i≤n∧gk=n-i+1∧s25= .int .i64 (i:Int)∧(∀ (j:Nat) (r:RtC),j<i→(l.map RtX.r)[j]?=some r→lowH r.host=pb.1→r.path=pp.1→takesR r.ms method=false)∧BxR w wr (.cells #[.slice p n c] 32 (0,0)) (.cells #[.int .i64 0,.slice none 0 0,.string ⟨#[]⟩] 50 (0,0))∧Below w4.heap.size w4 wr)
           case atStart=>exact⟨0,Nat.zero_le _,rfl,rfl,fun j _ hj=>absurd hj (Nat.not_lt_zero j),HBx0.out,HBr0.out⟩
           case round=>
            clear HBx0 HBr0 HBi;obtain⟨i,hi,rfl,rfl,hE,hB,hb⟩:=hrel;have HE:=hid hE;have HBi:=hid hB;have HBr:=hid hb;clear hE hB hb;by_cases hin:i<n
            · obtain⟨x,hx⟩:∃ x,l[i]?=some x:=⟨_,List.getElem?_eq_getElem (by rw [HN.out];exact hin)⟩;have HX:=hid hx;have hzx:=HZ.out x (List.mem_of_getElem? hx);have HZx:=hid hzx;obtain⟨g1,o1,rfl,hC⟩:=HRow.out wr HBi.out.low i x hx;have HSm:=hid (fun W:World=>rsame_any (str x.r.host) (str pb.1) W (by rw [str_size];exact HZx.out.z.host) HPl.out);simp only [same_low_q] at HSm;rw [HLow.out,HSq.out] at HSm;have HFx:=hid (HFt.out x (List.mem_of_getElem? hx));have HMt:=hid (HT.out.ms x (List.mem_of_getElem? hx));have HHs:=hid (fun (W:World) (hb:Below w.heap.size w W)=>rhas_any x.r.ms x.q x.r.ms.length x.k rfl (Nat.le_trans HZx.out.few (by decide)) method W (HMt.out.next hb));obtain⟨q0,q1,q2,q3,q4,q5,q6,q7,q8,q9,q10,q11,q12⟩:=hC;obtain⟨s3,s5,s6,b4,q7',n7,c7,i8,i9,i10,i11,i12,e3,e4,e5,e6,e7,e8,e9,e10,e11,e12⟩:=hzx.val;rw [e3] at q3;rw [e4] at q4;rw [e5] at q5;rw [e6] at q6;rw [e7] at q7;rw [e8] at q8;rw [e9] at q9;rw [e10] at q10;rw [e11] at q11;rw [e12] at q12;obtain⟨Sh,hSh⟩:∃ S,str x.r.host=S:=⟨_,rfl⟩;obtain⟨Sp,hSp⟩:∃ S,str x.r.path=S:=⟨_,rfl⟩;obtain⟨mn,hmn⟩:∃ mn,x.r.ms.length=mn:=⟨_,rfl⟩;rw [hSh] at HSm q0;rw [hSp] at HFx q1;rw [hmn] at q2 HHs;rw [HSK.out] at HHs;have HSp:=hid hSp;have HMn:=hid hmn;have z0:=cell0 HBi.out.a;have hPa:wr.cell? ⟨gp,op+bb*2,none⟩=some (.string Sq):=HPc.out _ HBr.out;obtain⟨g2,o2,e2,hC2⟩:=HRow.out wr HBi.out.low bx xb HXb.out;injection e2 with e2
              injection e2 with e2 e3'
              subst e2 e3';have qb:=hC2.a1;rw [HSb.out] at qb;have HNw:=hid (below_new wr (.cells #[.string Sh,.string Sp,.slice x.q mn x.k,.string s3,.bool b4,.string s5,.string s6,.slice q7' n7 c7,.int .i64 i8,.int .i64 i9,.int .i64 i10,.int .i64 i11,.int .i64 i12] 42 (0,0)));have HGw:=hid (heap_alloc_new wr (.cells #[.string Sh,.string Sp,.slice x.q mn x.k,.string s3,.bool b4,.string s5,.string s6,.slice q7' n7 c7,.int .i64 i8,.int .i64 i9,.int .i64 i10,.int .i64 i11,.int .i64 i12] 42 (0,0)));obtain⟨W9,hW9⟩:∃ W,wr.alloc (.cells #[.string Sh,.string Sp,.slice x.q mn x.k,.string s3,.bool b4,.string s5,.string s6,.slice q7' n7 c7,.int .i64 i8,.int .i64 i9,.int .i64 i10,.int .i64 i11,.int .i64 i12] 42 (0,0))=W:=⟨_,rfl⟩;have hW9b:=hW9;rw [hW9] at HNw HGw;obtain⟨n0,n1,n2⟩:=cells_r3 HGw.out;have hS0:R34S W9.drew w.heap.size g1 (o1+bx*13+1) gp (op+bb*2) wr.heap.size (.slice (some ⟨g1,o1,none⟩) n c) Sq Sb Sh Sp (.slice x.q mn x.k):=⟨cell_keep HNw.out z0,cell_keep HNw.out qb,cell_keep HNw.out hPa,n0,n1,n2⟩;have HB9:=hid (HBi.out.next HNw.out);have HBr9:=hid (below_out HBr.out HNw.out);obtain⟨s,hs⟩:∃ s,decide (lowH x.r.host=pb.1)=s:=⟨_,rfl⟩;rw [hs] at HSm;have HS:=hid hs;clear hx hSh hSp hmn hs hC2 hzx hPa e3 e4 e5 e6 e7 e8 e9 e10 e11 e12 qb n0 n1 n2;go_upto_region 34 with fail
              clear q0 q1 q2 q3 q4 q5 q6 q7 q8 q9 q10 q11 q12 z0 hW9 hW9b;cases s with
              |false=>
               refine wp_region_noPanic ?_;refine any_begin 31 (by kernel_rfl) (by kernel_rfl) ?_;refine late_begin (fun U=>R34S U w.heap.size g1 (o1+bx*13+1) gp (op+bb*2) wr.heap.size (.slice (some ⟨g1,o1,none⟩) n c) Sq Sb Sh Sp (.slice x.q mn x.k)) (fun _=>false) hS0 (fun hS=>?_);refine ltk (i:=0) (some 150) rfl rfl (v:= ?v0p) ?hy0p hS ?rest0p
               case hy0p=>intro w0 hSw;obtain⟨a0,a1,a2,a3,a4,a5⟩:=hSw;go_simp;try with_reducible rfl
               simp only [Act.put,sA,sB,sC];refine ltk (i:=1) (some 151) rfl rfl (v:= ?v1p) ?hy1p hS ?rest1p
               case hy1p=>intro w0 hSw;obtain⟨a0,a1,a2,a3,a4,a5⟩:=hSw;go_simp;try with_reducible rfl
               simp only [Act.put,sA,sB,sC];refine ltk (i:=2) (some 152) rfl rfl (v:= ?v2p) ?hy2p hS ?rest2p
               case hy2p=>intro w0 hSw;obtain⟨a0,a1,a2,a3,a4,a5⟩:=hSw;go_simp;try with_reducible rfl
               simp only [Act.put,sA,sB,sC];refine ltk (i:=3) (some 153) rfl rfl (v:= ?v3p) ?hy3p hS ?rest3p
               case hy3p=>intro w0 hSw;obtain⟨a0,a1,a2,a3,a4,a5⟩:=hSw;go_simp;try with_reducible rfl
               simp only [Act.put,sA,sB,sC];refine ltk (i:=4) (some 154) rfl rfl (v:= ?v4p) ?hy4p hS ?rest4p
               case hy4p=>intro w0 hSw;obtain⟨a0,a1,a2,a3,a4,a5⟩:=hSw;go_simp;try with_reducible rfl
               simp only [Act.put,sA,sB,sC];refine ltk (i:=5) (some 155) rfl rfl (v:= ?v5p) ?hy5p hS ?rest5p
               case hy5p=>intro w0 hSw;obtain⟨a0,a1,a2,a3,a4,a5⟩:=hSw;go_simp;try with_reducible rfl
               simp only [Act.put,sA,sB,sC];refine ltk (i:=6) (some 156) rfl rfl (v:= ?v6p) ?hy6p hS ?rest6p
               case hy6p=>intro w0 hSw;obtain⟨a0,a1,a2,a3,a4,a5⟩:=hSw;go_simp;try with_reducible rfl
               simp only [Act.put,sA,sB,sC];refine wpAnyD_one (i:=7) (by kernel_rfl) rfl (fun K hK=>?_);go_simp;go_at_call 37
               (with_reducible refine(HSm.out _).mono ?_)
               rintro e w7' ⟨rfl,hb7⟩;have hS7:=hS0.next hb7
               have HB34:=hid ((HB9.out.next (below_drewH W9 1)).next hb7);have HBr34:=hid (below_out (below_out HBr9.out (below_drewH W9 1)) hb7);clear hb7;refine hK _ _ ⟨fun _=>hS7,?_⟩;clear hK K;try simp only [Act.put,sA,sB,sC]
               refine ltk (i:=8) (some 158) rfl rfl (v:= ?v8p) ?hy8p hS7 ?rest8p
               case hy8p=>intro w0 hSw;obtain⟨a0,a1,a2,a3,a4,a5⟩:=hSw;go_simp;try with_reducible rfl
               simp only [Act.put,sA,sB,sC];refine late_skip (i:=9) (some 159) rfl rfl (by kernel_rfl) (by kernel_rfl) (by kernel_rfl) (by kernel_rfl) (by kernel_rfl) (fun _ _ _ h=>h) (by rfl) hS7 ?_;simp only [Act.put,sA,sB,sC];refine late_skip (i:=10) (some 160) rfl rfl (by kernel_rfl) (by kernel_rfl) (by kernel_rfl) (by kernel_rfl) (by kernel_rfl) (fun _ _ _ h=>h) (by rfl) hS7 ?_;simp only [Act.put,sA,sB,sC];refine late_skip (i:=11) (some 161) rfl rfl (by kernel_rfl) (by kernel_rfl) (by kernel_rfl) (by kernel_rfl) (by kernel_rfl) (fun _ _ _ h=>h) (by rfl) hS7 ?_;simp only [Act.put,sA,sB,sC];refine late_skip (i:=12) (some 162) rfl rfl (by kernel_rfl) (by kernel_rfl) (by kernel_rfl) (by kernel_rfl) (by kernel_rfl) (fun _ _ _ h=>h) (by rfl) hS7 ?_;simp only [Act.put,sA,sB,sC];refine late_skip (i:=13) (some 163) rfl rfl (by kernel_rfl) (by kernel_rfl) (by kernel_rfl) (by kernel_rfl) (by kernel_rfl) (fun _ _ _ h=>h) (by rfl) hS7 ?_;simp only [Act.put,sA,sB,sC];refine late_skip (i:=14) (some 164) rfl rfl (by kernel_rfl) (by kernel_rfl) (by kernel_rfl) (by kernel_rfl) (by kernel_rfl) (fun _ _ _ h=>h) (by rfl) hS7 ?_;simp only [Act.put,sA,sB,sC];refine late_skip (i:=15) (some 165) rfl rfl (by kernel_rfl) (by kernel_rfl) (by kernel_rfl) (by kernel_rfl) (by kernel_rfl) (fun _ _ _ h=>h) (by rfl) hS7 ?_;simp only [Act.put,sA,sB,sC];refine late_skip (i:=16) (some 166) rfl rfl (by kernel_rfl) (by kernel_rfl) (by kernel_rfl) (by kernel_rfl) (by kernel_rfl) (fun _ _ _ h=>h) (by rfl) hS7 ?_;simp only [Act.put,sA,sB,sC];refine late_skip (i:=17) (some 167) rfl rfl (by kernel_rfl) (by kernel_rfl) (by kernel_rfl) (by kernel_rfl) (by kernel_rfl) (fun _ _ _ h=>h) (by rfl) hS7 ?_;simp only [Act.put,sA,sB,sC];refine ltk (i:=18) (some 168) rfl rfl (v:= ?v18p) ?hy18p hS7 ?rest18p
               case hy18p=>intro w0 hSw;obtain⟨a0,a1,a2,a3,a4,a5⟩:=hSw;go_simp;try with_reducible rfl
               simp only [Act.put,sA,sB,sC];refine ltk (i:=19) (some 169) rfl rfl (v:= ?v19p) ?hy19p hS7 ?rest19p
               case hy19p=>intro w0 hSw;obtain⟨a0,a1,a2,a3,a4,a5⟩:=hSw;go_simp;try with_reducible rfl
               simp only [Act.put,sA,sB,sC];refine late_skip (i:=20) (some 170) rfl rfl (by kernel_rfl) (by kernel_rfl) (by kernel_rfl) (by kernel_rfl) (by kernel_rfl) (fun _ _ _ h=>h) (by rfl) hS7 ?_;simp only [Act.put,sA,sB,sC];refine late_skip (i:=21) (some 171) rfl rfl (by kernel_rfl) (by kernel_rfl) (by kernel_rfl) (by kernel_rfl) (by kernel_rfl) (fun _ _ _ h=>h) (by rfl) hS7 ?_;simp only [Act.put,sA,sB,sC];refine late_skip (i:=22) (some 172) rfl rfl (by kernel_rfl) (by kernel_rfl) (by kernel_rfl) (by kernel_rfl) (by kernel_rfl) (fun _ _ _ h=>h) (by rfl) hS7 ?_;simp only [Act.put,sA,sB,sC];refine late_skip (i:=23) (some 173) rfl rfl (by kernel_rfl) (by kernel_rfl) (by kernel_rfl) (by kernel_rfl) (by kernel_rfl) (fun _ _ _ h=>h) (by rfl) hS7 ?_;simp only [Act.put,sA,sB,sC];refine late_skip (i:=24) (some 174) rfl rfl (by kernel_rfl) (by kernel_rfl) (by kernel_rfl) (by kernel_rfl) (by kernel_rfl) (fun _ _ _ h=>h) (by rfl) hS7 ?_;simp only [Act.put,sA,sB,sC];refine late_skip (i:=25) (some 175) rfl rfl (by kernel_rfl) (by kernel_rfl) (by kernel_rfl) (by kernel_rfl) (by kernel_rfl) (fun _ _ _ h=>h) (by rfl) hS7 ?_;simp only [Act.put,sA,sB,sC];refine late_skip (i:=26) (some 176) rfl rfl (by kernel_rfl) (by kernel_rfl) (by kernel_rfl) (by kernel_rfl) (by kernel_rfl) (fun _ _ _ h=>h) (by rfl) hS7 ?_;simp only [Act.put,sA,sB,sC];refine late_skip (i:=27) (some 177) rfl rfl (by kernel_rfl) (by kernel_rfl) (by kernel_rfl) (by kernel_rfl) (by kernel_rfl) (fun _ _ _ h=>h) (by rfl) hS7 ?_;simp only [Act.put,sA,sB,sC];refine late_skip (i:=28) (some 178) rfl rfl (by kernel_rfl) (by kernel_rfl) (by kernel_rfl) (by kernel_rfl) (by kernel_rfl) (fun _ _ _ h=>h) (by rfl) hS7 ?_;simp only [Act.put,sA,sB,sC];refine late_skip (i:=29) (some 179) rfl rfl (by kernel_rfl) (by kernel_rfl) (by kernel_rfl) (by kernel_rfl) (by kernel_rfl) (fun _ _ _ h=>h) (by rfl) hS7 ?_;simp only [Act.put,sA,sB,sC];refine ltk (i:=30) (some 180) rfl rfl (v:= ?v30p) ?hy30p hS7 ?rest30p
               case hy30p=>intro w0 hSw;obtain⟨a0,a1,a2,a3,a4,a5⟩:=hSw;go_simp;try with_reducible rfl
               simp only [Act.put,sA,sB,sC];refine late_done (by kernel_rfl) ?_ _;refine NoPanic.normal ?_;have hS9:=hS7;go_wp2;go_roundg (n-(i+1)+1)
               case measure=>omega
               case rel=>
                refine⟨i+1,by omega,rfl,by push_cast;go_num,fun j r hj hr h1 h2=>?_,HB34.out,HBr34.out⟩;rcases Nat.lt_succ_iff_lt_or_eq.1 hj with h6|rfl
                · exact HE.out j r h6 hr h1 h2
                · rw [map_r HX.out] at hr;injection hr with hr
                  subst hr;exact absurd h1 (of_decide_eq_false HS.out)
              |true=>
               have HHo:=hid (of_decide_eq_true HS.out);by_cases hpq:Sp=Sb
               · subst hpq;have HPe:=hid (show x.r.path=xb.r.path from str_inj (by rw [HSp.out,HSb.out]));by_cases hmn0:mn=0
                 · subst hmn0;have hmn0:True:=trivial;have HTk:=hid (show takesR x.r.ms method=true by unfold takesR;rw [List.eq_nil_of_length_eq_zero HMn.out];rfl);refine wp_region_noPanic ?_;refine any_begin 31 (by kernel_rfl) (by kernel_rfl) ?_;refine late_begin (fun U=>R34S U w.heap.size g1 (o1+bx*13+1) gp (op+bb*2) wr.heap.size (.slice (some ⟨g1,o1,none⟩) n c) Sq Sp Sh Sp (.slice x.q 0 x.k)) (fun _=>false) hS0 (fun hS=>?_);refine ltk (i:=0) (some 150) rfl rfl (v:= ?v0q) ?hy0q hS ?rest0q
                   case hy0q=>intro w0 hSw;obtain⟨a0,a1,a2,a3,a4,a5⟩:=hSw;go_simp;try with_reducible rfl
                   simp only [Act.put,sA,sB,sC];refine ltk (i:=1) (some 151) rfl rfl (v:= ?v1q) ?hy1q hS ?rest1q
                   case hy1q=>intro w0 hSw;obtain⟨a0,a1,a2,a3,a4,a5⟩:=hSw;go_simp;try with_reducible rfl
                   simp only [Act.put,sA,sB,sC];refine ltk (i:=2) (some 152) rfl rfl (v:= ?v2q) ?hy2q hS ?rest2q
                   case hy2q=>intro w0 hSw;obtain⟨a0,a1,a2,a3,a4,a5⟩:=hSw;go_simp;try with_reducible rfl
                   simp only [Act.put,sA,sB,sC];refine ltk (i:=3) (some 153) rfl rfl (v:= ?v3q) ?hy3q hS ?rest3q
                   case hy3q=>intro w0 hSw;obtain⟨a0,a1,a2,a3,a4,a5⟩:=hSw;go_simp;try with_reducible rfl
                   simp only [Act.put,sA,sB,sC];refine ltk (i:=4) (some 154) rfl rfl (v:= ?v4q) ?hy4q hS ?rest4q
                   case hy4q=>intro w0 hSw;obtain⟨a0,a1,a2,a3,a4,a5⟩:=hSw;go_simp;try with_reducible rfl
                   simp only [Act.put,sA,sB,sC];refine ltk (i:=5) (some 155) rfl rfl (v:= ?v5q) ?hy5q hS ?rest5q
                   case hy5q=>intro w0 hSw;obtain⟨a0,a1,a2,a3,a4,a5⟩:=hSw;go_simp;try with_reducible rfl
                   simp only [Act.put,sA,sB,sC];refine ltk (i:=6) (some 156) rfl rfl (v:= ?v6q) ?hy6q hS ?rest6q
                   case hy6q=>intro w0 hSw;obtain⟨a0,a1,a2,a3,a4,a5⟩:=hSw;go_simp;try with_reducible rfl
                   simp only [Act.put,sA,sB,sC];refine wpAnyD_one (i:=7) (by kernel_rfl) rfl (fun K hK=>?_);go_simp;go_at_call 37
                   (with_reducible refine(HSm.out _).mono ?_)
                   rintro e w7' ⟨rfl,hb7⟩;have hS7:=hS0.next hb7
                   have HB34:=hid ((HB9.out.next (below_drewH W9 1)).next hb7);have HBr34:=hid (below_out (below_out HBr9.out (below_drewH W9 1)) hb7);clear hb7;refine hK _ _ ⟨fun _=>hS7,?_⟩;clear hK K;try simp only [Act.put,sA,sB,sC]
                   refine ltk (i:=8) (some 158) rfl rfl (v:= ?v8q) ?hy8q hS7 ?rest8q
                   case hy8q=>intro w0 hSw;obtain⟨a0,a1,a2,a3,a4,a5⟩:=hSw;go_simp;try with_reducible rfl
                   simp only [Act.put,sA,sB,sC];refine ltk (i:=9) (some 159) rfl rfl (v:= ?v9q) ?hy9q hS7 ?rest9q
                   case hy9q=>intro w0 hSw;obtain⟨a0,a1,a2,a3,a4,a5⟩:=hSw;go_simp;try with_reducible rfl
                   simp only [Act.put,sA,sB,sC];refine ltk (i:=10) (some 160) rfl rfl (v:= ?v10q) ?hy10q hS7 ?rest10q
                   case hy10q=>intro w0 hSw;obtain⟨a0,a1,a2,a3,a4,a5⟩:=hSw;go_simp;try with_reducible rfl
                   simp only [Act.put,sA,sB,sC];refine ltk (i:=11) (some 161) rfl rfl (v:= ?v11q) ?hy11q hS7 ?rest11q
                   case hy11q=>intro w0 hSw;obtain⟨a0,a1,a2,a3,a4,a5⟩:=hSw;go_simp;try with_reducible rfl
                   simp only [Act.put,sA,sB,sC];refine ltk (i:=12) (some 162) rfl rfl (v:= ?v12q) ?hy12q hS7 ?rest12q
                   case hy12q=>intro w0 hSw;obtain⟨a0,a1,a2,a3,a4,a5⟩:=hSw;go_simp;try with_reducible rfl
                   simp only [Act.put,sA,sB,sC];refine ltk (i:=13) (some 163) rfl rfl (v:= ?v13q) ?hy13q hS7 ?rest13q
                   case hy13q=>intro w0 hSw;obtain⟨a0,a1,a2,a3,a4,a5⟩:=hSw;go_simp;try with_reducible rfl
                   simp only [Act.put,sA,sB,sC];refine ltk (i:=14) (some 164) rfl rfl (v:= ?v14q) ?hy14q hS7 ?rest14q
                   case hy14q=>intro w0 hSw;obtain⟨a0,a1,a2,a3,a4,a5⟩:=hSw;go_simp;try with_reducible rfl
                   simp only [Act.put,sA,sB,sC];refine ltk (i:=15) (some 165) rfl rfl (v:= ?v15q) ?hy15q hS7 ?rest15q
                   case hy15q=>intro w0 hSw;obtain⟨a0,a1,a2,a3,a4,a5⟩:=hSw;go_simp;try with_reducible rfl
                   simp only [Act.put,sA,sB,sC];refine ltk (i:=16) (some 166) rfl rfl (v:= ?v16q) ?hy16q hS7 ?rest16q
                   case hy16q=>intro w0 hSw;obtain⟨a0,a1,a2,a3,a4,a5⟩:=hSw;go_simp;try with_reducible rfl
                   simp only [Act.put,sA,sB,sC];refine late_take (i:=17) (some 167) rfl rfl (by kernel_rfl) (by kernel_rfl) (by kernel_rfl) (by kernel_rfl) (by kernel_rfl) (fun _ _ _ h=>h) (by rfl) (v:=.bool true) ?hy17q hS7 ?rest17q
                   case hy17q=>intro w0 hSw;obtain⟨a0,a1,a2,a3,a4,a5⟩:=hSw;go_simp;try simp
                   simp only [Act.put,sA,sB,sC];refine ltk (i:=18) (some 168) rfl rfl (v:= ?v18q) ?hy18q hS7 ?rest18q
                   case hy18q=>intro w0 hSw;obtain⟨a0,a1,a2,a3,a4,a5⟩:=hSw;go_simp;try with_reducible rfl
                   simp only [Act.put,sA,sB,sC];refine ltk (i:=19) (some 169) rfl rfl (v:= ?v19q) ?hy19q hS7 ?rest19q
                   case hy19q=>intro w0 hSw;obtain⟨a0,a1,a2,a3,a4,a5⟩:=hSw;go_simp;try with_reducible rfl
                   simp only [Act.put,sA,sB,sC];refine ltk (i:=20) (some 170) rfl rfl (v:= ?v20q) ?hy20q hS7 ?rest20q
                   case hy20q=>intro w0 hSw;obtain⟨a0,a1,a2,a3,a4,a5⟩:=hSw;go_simp;try with_reducible rfl
                   simp only [Act.put,sA,sB,sC];refine ltk (i:=21) (some 171) rfl rfl (v:= ?v21q) ?hy21q hS7 ?rest21q
                   case hy21q=>intro w0 hSw;obtain⟨a0,a1,a2,a3,a4,a5⟩:=hSw;go_simp;try with_reducible rfl
                   simp only [Act.put,sA,sB,sC];refine ltk (i:=22) (some 172) rfl rfl (v:= ?v22q) ?hy22q hS7 ?rest22q
                   case hy22q=>intro w0 hSw;obtain⟨a0,a1,a2,a3,a4,a5⟩:=hSw;go_simp;try with_reducible rfl
                   simp only [Act.put,sA,sB,sC];refine late_take (i:=23) (some 173) rfl rfl (by kernel_rfl) (by kernel_rfl) (by kernel_rfl) (by kernel_rfl) (by kernel_rfl) (fun _ _ _ h=>h) (by rfl) (v:=.bool true) ?hy23q hS7 ?rest23q
                   case hy23q=>intro w0 hSw;obtain⟨a0,a1,a2,a3,a4,a5⟩:=hSw;go_simp;try simp [hmn0]
                   simp only [Act.put,sA,sB,sC];refine ltk (i:=24) (some 174) rfl rfl (v:= ?v24q) ?hy24q hS7 ?rest24q
                   case hy24q=>intro w0 hSw;obtain⟨a0,a1,a2,a3,a4,a5⟩:=hSw;go_simp;try with_reducible rfl
                   simp only [Act.put,sA,sB,sC];refine late_skip (i:=25) (some 175) rfl rfl (by kernel_rfl) (by kernel_rfl) (by kernel_rfl) (by kernel_rfl) (by kernel_rfl) (fun _ _ _ h=>h) (by rfl) hS7 ?_;simp only [Act.put,sA,sB,sC];refine late_skip (i:=26) (some 176) rfl rfl (by kernel_rfl) (by kernel_rfl) (by kernel_rfl) (by kernel_rfl) (by kernel_rfl) (fun _ _ _ h=>h) (by rfl) hS7 ?_;simp only [Act.put,sA,sB,sC];refine late_skip (i:=27) (some 177) rfl rfl (by kernel_rfl) (by kernel_rfl) (by kernel_rfl) (by kernel_rfl) (by kernel_rfl) (fun _ _ _ h=>h) (by rfl) hS7 ?_;simp only [Act.put,sA,sB,sC];refine late_skip (i:=28) (some 178) rfl rfl (by kernel_rfl) (by kernel_rfl) (by kernel_rfl) (by kernel_rfl) (by kernel_rfl) (fun _ _ _ h=>h) (by rfl) hS7 ?_;simp only [Act.put,sA,sB,sC];refine ltk (i:=29) (some 179) rfl rfl (v:= ?v29q) ?hy29q hS7 ?rest29q
                   case hy29q=>intro w0 hSw;obtain⟨a0,a1,a2,a3,a4,a5⟩:=hSw;go_simp;try with_reducible rfl
                   simp only [Act.put,sA,sB,sC];refine ltk (i:=30) (some 180) rfl rfl (v:= ?v30q) ?hy30q hS7 ?rest30q
                   case hy30q=>intro w0 hSw;obtain⟨a0,a1,a2,a3,a4,a5⟩:=hSw;go_simp;try with_reducible rfl
                   simp only [Act.put,sA,sB,sC];refine late_done (by kernel_rfl) ?_ _;refine NoPanic.normal ?_;have hS9:=hS7;have HFp:=hid (show fitsT (cutT x.r.path.tail) (cutT m.tail)=some F by rw [HPe.out];exact HFF.out);rw [HFp.out] at HFx;unfold RFitsAns at HFx;dsimp only at HFx;have HYs:=hid (show FndYes (l.map RtX.r) host path method i F m from last_yes HCo.out HHm.out HWy.out (map_r HX.out) HHo.out (by rw [HPp.out];exact HPe.out) HTk.out);have n1:=hS9.c4;have y0:=cell0 HB34.out.a;go_wp2_with (go_at_call 22;(with_reducible refine(HFx.out _).mono ?_);rintro e w5 ⟨hb5,q5,d5,rfl,hO5⟩;have HB5:=hid (HB34.out.next hb5);have HO5:=hid (hO5.lowT HB34.out.low.size);obtain⟨z0,f0,z1,f1,z2,f2⟩:=fd_box HB5.out.b (.int .i64 (i:Int)) (.slice q5 F.length d5);clear hb5 hO5);refine bodyPost_ret (results_fdD rfl _ _ (w.heap.size+1) _ _ (0,0) rfl (heap_three HB5.out.b _ _ _) rfl) rfl ?_;exact⟨below_three HB5.out.low (by omega) _ _ _,.inr ⟨i,F,m,q5,d5,HYs.out,by unfold foundV;rw [HSY.out];rfl,OwnF.set3 HO5.out HB5.out.b⟩⟩
                 · obtain⟨v,hv⟩:∃ v,x.r.ms.contains method=v:=⟨_,rfl⟩;have hve:takesR x.r.ms method=v:=by
                    unfold takesR;rw [hv];cases hq:x.r.ms with
                    |nil=>exact absurd (by rw [←HMn.out,hq];rfl) hmn0
                    |cons a b=>rfl
                   rw [hv] at HHs;have HVe:=hid hve;clear hv hve;cases v with
                   |true=>
                    have HTk:=hid HVe.out;refine wp_region_noPanic ?_;refine any_begin 31 (by kernel_rfl) (by kernel_rfl) ?_;refine late_begin (fun U=>R34S U w.heap.size g1 (o1+bx*13+1) gp (op+bb*2) wr.heap.size (.slice (some ⟨g1,o1,none⟩) n c) Sq Sp Sh Sp (.slice x.q mn x.k)) (fun _=>false) hS0 (fun hS=>?_);refine ltk (i:=0) (some 150) rfl rfl (v:= ?v0r) ?hy0r hS ?rest0r
                    case hy0r=>intro w0 hSw;obtain⟨a0,a1,a2,a3,a4,a5⟩:=hSw;go_simp;try with_reducible rfl
                    simp only [Act.put,sA,sB,sC];refine ltk (i:=1) (some 151) rfl rfl (v:= ?v1r) ?hy1r hS ?rest1r
                    case hy1r=>intro w0 hSw;obtain⟨a0,a1,a2,a3,a4,a5⟩:=hSw;go_simp;try with_reducible rfl
                    simp only [Act.put,sA,sB,sC];refine ltk (i:=2) (some 152) rfl rfl (v:= ?v2r) ?hy2r hS ?rest2r
                    case hy2r=>intro w0 hSw;obtain⟨a0,a1,a2,a3,a4,a5⟩:=hSw;go_simp;try with_reducible rfl
                    simp only [Act.put,sA,sB,sC];refine ltk (i:=3) (some 153) rfl rfl (v:= ?v3r) ?hy3r hS ?rest3r
                    case hy3r=>intro w0 hSw;obtain⟨a0,a1,a2,a3,a4,a5⟩:=hSw;go_simp;try with_reducible rfl
                    simp only [Act.put,sA,sB,sC];refine ltk (i:=4) (some 154) rfl rfl (v:= ?v4r) ?hy4r hS ?rest4r
                    case hy4r=>intro w0 hSw;obtain⟨a0,a1,a2,a3,a4,a5⟩:=hSw;go_simp;try with_reducible rfl
                    simp only [Act.put,sA,sB,sC];refine ltk (i:=5) (some 155) rfl rfl (v:= ?v5r) ?hy5r hS ?rest5r
                    case hy5r=>intro w0 hSw;obtain⟨a0,a1,a2,a3,a4,a5⟩:=hSw;go_simp;try with_reducible rfl
                    simp only [Act.put,sA,sB,sC];refine ltk (i:=6) (some 156) rfl rfl (v:= ?v6r) ?hy6r hS ?rest6r
                    case hy6r=>intro w0 hSw;obtain⟨a0,a1,a2,a3,a4,a5⟩:=hSw;go_simp;try with_reducible rfl
                    simp only [Act.put,sA,sB,sC];refine wpAnyD_one (i:=7) (by kernel_rfl) rfl (fun K hK=>?_);go_simp;go_at_call 37
                    (with_reducible refine(HSm.out _).mono ?_)
                    rintro e w7' ⟨rfl,hb7⟩;have hS7:=hS0.next hb7
                    have HB7:=hid ((HB9.out.next (below_drewH W9 1)).next hb7);have HBr7:=hid (below_out (below_out HBr9.out (below_drewH W9 1)) hb7);clear hb7;refine hK _ _ ⟨fun _=>hS7,?_⟩;clear hK K;try simp only [Act.put,sA,sB,sC]
                    refine ltk (i:=8) (some 158) rfl rfl (v:= ?v8r) ?hy8r hS7 ?rest8r
                    case hy8r=>intro w0 hSw;obtain⟨a0,a1,a2,a3,a4,a5⟩:=hSw;go_simp;try with_reducible rfl
                    simp only [Act.put,sA,sB,sC];refine ltk (i:=9) (some 159) rfl rfl (v:= ?v9r) ?hy9r hS7 ?rest9r
                    case hy9r=>intro w0 hSw;obtain⟨a0,a1,a2,a3,a4,a5⟩:=hSw;go_simp;try with_reducible rfl
                    simp only [Act.put,sA,sB,sC];refine ltk (i:=10) (some 160) rfl rfl (v:= ?v10r) ?hy10r hS7 ?rest10r
                    case hy10r=>intro w0 hSw;obtain⟨a0,a1,a2,a3,a4,a5⟩:=hSw;go_simp;try with_reducible rfl
                    simp only [Act.put,sA,sB,sC];refine ltk (i:=11) (some 161) rfl rfl (v:= ?v11r) ?hy11r hS7 ?rest11r
                    case hy11r=>intro w0 hSw;obtain⟨a0,a1,a2,a3,a4,a5⟩:=hSw;go_simp;try with_reducible rfl
                    simp only [Act.put,sA,sB,sC];refine ltk (i:=12) (some 162) rfl rfl (v:= ?v12r) ?hy12r hS7 ?rest12r
                    case hy12r=>intro w0 hSw;obtain⟨a0,a1,a2,a3,a4,a5⟩:=hSw;go_simp;try with_reducible rfl
                    simp only [Act.put,sA,sB,sC];refine ltk (i:=13) (some 163) rfl rfl (v:= ?v13r) ?hy13r hS7 ?rest13r
                    case hy13r=>intro w0 hSw;obtain⟨a0,a1,a2,a3,a4,a5⟩:=hSw;go_simp;try with_reducible rfl
                    simp only [Act.put,sA,sB,sC];refine ltk (i:=14) (some 164) rfl rfl (v:= ?v14r) ?hy14r hS7 ?rest14r
                    case hy14r=>intro w0 hSw;obtain⟨a0,a1,a2,a3,a4,a5⟩:=hSw;go_simp;try with_reducible rfl
                    simp only [Act.put,sA,sB,sC];refine ltk (i:=15) (some 165) rfl rfl (v:= ?v15r) ?hy15r hS7 ?rest15r
                    case hy15r=>intro w0 hSw;obtain⟨a0,a1,a2,a3,a4,a5⟩:=hSw;go_simp;try with_reducible rfl
                    simp only [Act.put,sA,sB,sC];refine ltk (i:=16) (some 166) rfl rfl (v:= ?v16r) ?hy16r hS7 ?rest16r
                    case hy16r=>intro w0 hSw;obtain⟨a0,a1,a2,a3,a4,a5⟩:=hSw;go_simp;try with_reducible rfl
                    simp only [Act.put,sA,sB,sC];refine late_take (i:=17) (some 167) rfl rfl (by kernel_rfl) (by kernel_rfl) (by kernel_rfl) (by kernel_rfl) (by kernel_rfl) (fun _ _ _ h=>h) (by rfl) (v:=.bool true) ?hy17r hS7 ?rest17r
                    case hy17r=>intro w0 hSw;obtain⟨a0,a1,a2,a3,a4,a5⟩:=hSw;go_simp;try simp
                    simp only [Act.put,sA,sB,sC];refine ltk (i:=18) (some 168) rfl rfl (v:= ?v18r) ?hy18r hS7 ?rest18r
                    case hy18r=>intro w0 hSw;obtain⟨a0,a1,a2,a3,a4,a5⟩:=hSw;go_simp;try with_reducible rfl
                    simp only [Act.put,sA,sB,sC];refine ltk (i:=19) (some 169) rfl rfl (v:= ?v19r) ?hy19r hS7 ?rest19r
                    case hy19r=>intro w0 hSw;obtain⟨a0,a1,a2,a3,a4,a5⟩:=hSw;go_simp;try with_reducible rfl
                    simp only [Act.put,sA,sB,sC];refine ltk (i:=20) (some 170) rfl rfl (v:= ?v20r) ?hy20r hS7 ?rest20r
                    case hy20r=>intro w0 hSw;obtain⟨a0,a1,a2,a3,a4,a5⟩:=hSw;go_simp;try with_reducible rfl
                    simp only [Act.put,sA,sB,sC];refine ltk (i:=21) (some 171) rfl rfl (v:= ?v21r) ?hy21r hS7 ?rest21r
                    case hy21r=>intro w0 hSw;obtain⟨a0,a1,a2,a3,a4,a5⟩:=hSw;go_simp;try with_reducible rfl
                    simp only [Act.put,sA,sB,sC];refine ltk (i:=22) (some 172) rfl rfl (v:= ?v22r) ?hy22r hS7 ?rest22r
                    case hy22r=>intro w0 hSw;obtain⟨a0,a1,a2,a3,a4,a5⟩:=hSw;go_simp;try with_reducible rfl
                    simp only [Act.put,sA,sB,sC];refine late_take (i:=23) (some 173) rfl rfl (by kernel_rfl) (by kernel_rfl) (by kernel_rfl) (by kernel_rfl) (by kernel_rfl) (fun _ _ _ h=>h) (by rfl) (v:=.bool false) ?hy23r hS7 ?rest23r
                    case hy23r=>intro w0 hSw;obtain⟨a0,a1,a2,a3,a4,a5⟩:=hSw;go_simp;try simp [hmn0]
                    simp only [Act.put,sA,sB,sC];refine ltk (i:=24) (some 174) rfl rfl (v:= ?v24r) ?hy24r hS7 ?rest24r
                    case hy24r=>intro w0 hSw;obtain⟨a0,a1,a2,a3,a4,a5⟩:=hSw;go_simp;try with_reducible rfl
                    simp only [Act.put,sA,sB,sC];refine ltk (i:=25) (some 175) rfl rfl (v:= ?v25r) ?hy25r hS7 ?rest25r
                    case hy25r=>intro w0 hSw;obtain⟨a0,a1,a2,a3,a4,a5⟩:=hSw;go_simp;try with_reducible rfl
                    simp only [Act.put,sA,sB,sC];refine ltk (i:=26) (some 176) rfl rfl (v:= ?v26r) ?hy26r hS7 ?rest26r
                    case hy26r=>intro w0 hSw;obtain⟨a0,a1,a2,a3,a4,a5⟩:=hSw;go_simp;try with_reducible rfl
                    simp only [Act.put,sA,sB,sC];refine ltk (i:=27) (some 177) rfl rfl (v:= ?v27r) ?hy27r hS7 ?rest27r
                    case hy27r=>intro w0 hSw;obtain⟨a0,a1,a2,a3,a4,a5⟩:=hSw;go_simp;try with_reducible rfl
                    simp only [Act.put,sA,sB,sC];refine wpAnyD_one (i:=28) (by kernel_rfl) rfl (fun K hK=>?_);go_simp;go_at_call 39
                    (with_reducible refine(HHs.out _ HB7.out.low).mono ?_)
                    rintro e w8' ⟨rfl,hw8⟩;subst hw8;have hS9:=hS7;have HB34:=hid HB7.out;have HBr34:=hid HBr7.out;refine hK _ _ ⟨fun _=>hS7,?_⟩;clear hK K;try simp only [Act.put,sA,sB,sC]
                    refine ltk (i:=29) (some 179) rfl rfl (v:= ?v29r) ?hy29r hS7 ?rest29r
                    case hy29r=>intro w0 hSw;obtain⟨a0,a1,a2,a3,a4,a5⟩:=hSw;go_simp;try with_reducible rfl
                    simp only [Act.put,sA,sB,sC];refine ltk (i:=30) (some 180) rfl rfl (v:= ?v30r) ?hy30r hS7 ?rest30r
                    case hy30r=>intro w0 hSw;obtain⟨a0,a1,a2,a3,a4,a5⟩:=hSw;go_simp;try with_reducible rfl
                    simp only [Act.put,sA,sB,sC];refine late_done (by kernel_rfl) ?_ _;refine NoPanic.normal ?_;have HFp:=hid (show fitsT (cutT x.r.path.tail) (cutT m.tail)=some F by rw [HPe.out];exact HFF.out);rw [HFp.out] at HFx;unfold RFitsAns at HFx;dsimp only at HFx;have HYs:=hid (show FndYes (l.map RtX.r) host path method i F m from last_yes HCo.out HHm.out HWy.out (map_r HX.out) HHo.out (by rw [HPp.out];exact HPe.out) HTk.out);have n1:=hS9.c4;have y0:=cell0 HB34.out.a;go_wp2_with (go_at_call 22;(with_reducible refine(HFx.out _).mono ?_);rintro e w5 ⟨hb5,q5,d5,rfl,hO5⟩;have HB5:=hid (HB34.out.next hb5);have HO5:=hid (hO5.lowT HB34.out.low.size);obtain⟨z0,f0,z1,f1,z2,f2⟩:=fd_box HB5.out.b (.int .i64 (i:Int)) (.slice q5 F.length d5);clear hb5 hO5);refine bodyPost_ret (results_fdD rfl _ _ (w.heap.size+1) _ _ (0,0) rfl (heap_three HB5.out.b _ _ _) rfl) rfl ?_;exact⟨below_three HB5.out.low (by omega) _ _ _,.inr ⟨i,F,m,q5,d5,HYs.out,by unfold foundV;rw [HSY.out];rfl,OwnF.set3 HO5.out HB5.out.b⟩⟩
                   |false=>
                    refine wp_region_noPanic ?_;refine any_begin 31 (by kernel_rfl) (by kernel_rfl) ?_;refine late_begin (fun U=>R34S U w.heap.size g1 (o1+bx*13+1) gp (op+bb*2) wr.heap.size (.slice (some ⟨g1,o1,none⟩) n c) Sq Sp Sh Sp (.slice x.q mn x.k)) (fun _=>false) hS0 (fun hS=>?_);refine ltk (i:=0) (some 150) rfl rfl (v:= ?v0s) ?hy0s hS ?rest0s
                    case hy0s=>intro w0 hSw;obtain⟨a0,a1,a2,a3,a4,a5⟩:=hSw;go_simp;try with_reducible rfl
                    simp only [Act.put,sA,sB,sC];refine ltk (i:=1) (some 151) rfl rfl (v:= ?v1s) ?hy1s hS ?rest1s
                    case hy1s=>intro w0 hSw;obtain⟨a0,a1,a2,a3,a4,a5⟩:=hSw;go_simp;try with_reducible rfl
                    simp only [Act.put,sA,sB,sC];refine ltk (i:=2) (some 152) rfl rfl (v:= ?v2s) ?hy2s hS ?rest2s
                    case hy2s=>intro w0 hSw;obtain⟨a0,a1,a2,a3,a4,a5⟩:=hSw;go_simp;try with_reducible rfl
                    simp only [Act.put,sA,sB,sC];refine ltk (i:=3) (some 153) rfl rfl (v:= ?v3s) ?hy3s hS ?rest3s
                    case hy3s=>intro w0 hSw;obtain⟨a0,a1,a2,a3,a4,a5⟩:=hSw;go_simp;try with_reducible rfl
                    simp only [Act.put,sA,sB,sC];refine ltk (i:=4) (some 154) rfl rfl (v:= ?v4s) ?hy4s hS ?rest4s
                    case hy4s=>intro w0 hSw;obtain⟨a0,a1,a2,a3,a4,a5⟩:=hSw;go_simp;try with_reducible rfl
                    simp only [Act.put,sA,sB,sC];refine ltk (i:=5) (some 155) rfl rfl (v:= ?v5s) ?hy5s hS ?rest5s
                    case hy5s=>intro w0 hSw;obtain⟨a0,a1,a2,a3,a4,a5⟩:=hSw;go_simp;try with_reducible rfl
                    simp only [Act.put,sA,sB,sC];refine ltk (i:=6) (some 156) rfl rfl (v:= ?v6s) ?hy6s hS ?rest6s
                    case hy6s=>intro w0 hSw;obtain⟨a0,a1,a2,a3,a4,a5⟩:=hSw;go_simp;try with_reducible rfl
                    simp only [Act.put,sA,sB,sC];refine wpAnyD_one (i:=7) (by kernel_rfl) rfl (fun K hK=>?_);go_simp;go_at_call 37
                    (with_reducible refine(HSm.out _).mono ?_)
                    rintro e w7' ⟨rfl,hb7⟩;have hS7:=hS0.next hb7
                    have HB7:=hid ((HB9.out.next (below_drewH W9 1)).next hb7);have HBr7:=hid (below_out (below_out HBr9.out (below_drewH W9 1)) hb7);clear hb7;refine hK _ _ ⟨fun _=>hS7,?_⟩;clear hK K;try simp only [Act.put,sA,sB,sC]
                    refine ltk (i:=8) (some 158) rfl rfl (v:= ?v8s) ?hy8s hS7 ?rest8s
                    case hy8s=>intro w0 hSw;obtain⟨a0,a1,a2,a3,a4,a5⟩:=hSw;go_simp;try with_reducible rfl
                    simp only [Act.put,sA,sB,sC];refine ltk (i:=9) (some 159) rfl rfl (v:= ?v9s) ?hy9s hS7 ?rest9s
                    case hy9s=>intro w0 hSw;obtain⟨a0,a1,a2,a3,a4,a5⟩:=hSw;go_simp;try with_reducible rfl
                    simp only [Act.put,sA,sB,sC];refine ltk (i:=10) (some 160) rfl rfl (v:= ?v10s) ?hy10s hS7 ?rest10s
                    case hy10s=>intro w0 hSw;obtain⟨a0,a1,a2,a3,a4,a5⟩:=hSw;go_simp;try with_reducible rfl
                    simp only [Act.put,sA,sB,sC];refine ltk (i:=11) (some 161) rfl rfl (v:= ?v11s) ?hy11s hS7 ?rest11s
                    case hy11s=>intro w0 hSw;obtain⟨a0,a1,a2,a3,a4,a5⟩:=hSw;go_simp;try with_reducible rfl
                    simp only [Act.put,sA,sB,sC];refine ltk (i:=12) (some 162) rfl rfl (v:= ?v12s) ?hy12s hS7 ?rest12s
                    case hy12s=>intro w0 hSw;obtain⟨a0,a1,a2,a3,a4,a5⟩:=hSw;go_simp;try with_reducible rfl
                    simp only [Act.put,sA,sB,sC];refine ltk (i:=13) (some 163) rfl rfl (v:= ?v13s) ?hy13s hS7 ?rest13s
                    case hy13s=>intro w0 hSw;obtain⟨a0,a1,a2,a3,a4,a5⟩:=hSw;go_simp;try with_reducible rfl
                    simp only [Act.put,sA,sB,sC];refine ltk (i:=14) (some 164) rfl rfl (v:= ?v14s) ?hy14s hS7 ?rest14s
                    case hy14s=>intro w0 hSw;obtain⟨a0,a1,a2,a3,a4,a5⟩:=hSw;go_simp;try with_reducible rfl
                    simp only [Act.put,sA,sB,sC];refine ltk (i:=15) (some 165) rfl rfl (v:= ?v15s) ?hy15s hS7 ?rest15s
                    case hy15s=>intro w0 hSw;obtain⟨a0,a1,a2,a3,a4,a5⟩:=hSw;go_simp;try with_reducible rfl
                    simp only [Act.put,sA,sB,sC];refine ltk (i:=16) (some 166) rfl rfl (v:= ?v16s) ?hy16s hS7 ?rest16s
                    case hy16s=>intro w0 hSw;obtain⟨a0,a1,a2,a3,a4,a5⟩:=hSw;go_simp;try with_reducible rfl
                    simp only [Act.put,sA,sB,sC];refine late_take (i:=17) (some 167) rfl rfl (by kernel_rfl) (by kernel_rfl) (by kernel_rfl) (by kernel_rfl) (by kernel_rfl) (fun _ _ _ h=>h) (by rfl) (v:=.bool true) ?hy17s hS7 ?rest17s
                    case hy17s=>intro w0 hSw;obtain⟨a0,a1,a2,a3,a4,a5⟩:=hSw;go_simp;try simp
                    simp only [Act.put,sA,sB,sC];refine ltk (i:=18) (some 168) rfl rfl (v:= ?v18s) ?hy18s hS7 ?rest18s
                    case hy18s=>intro w0 hSw;obtain⟨a0,a1,a2,a3,a4,a5⟩:=hSw;go_simp;try with_reducible rfl
                    simp only [Act.put,sA,sB,sC];refine ltk (i:=19) (some 169) rfl rfl (v:= ?v19s) ?hy19s hS7 ?rest19s
                    case hy19s=>intro w0 hSw;obtain⟨a0,a1,a2,a3,a4,a5⟩:=hSw;go_simp;try with_reducible rfl
                    simp only [Act.put,sA,sB,sC];refine ltk (i:=20) (some 170) rfl rfl (v:= ?v20s) ?hy20s hS7 ?rest20s
                    case hy20s=>intro w0 hSw;obtain⟨a0,a1,a2,a3,a4,a5⟩:=hSw;go_simp;try with_reducible rfl
                    simp only [Act.put,sA,sB,sC];refine ltk (i:=21) (some 171) rfl rfl (v:= ?v21s) ?hy21s hS7 ?rest21s
                    case hy21s=>intro w0 hSw;obtain⟨a0,a1,a2,a3,a4,a5⟩:=hSw;go_simp;try with_reducible rfl
                    simp only [Act.put,sA,sB,sC];refine ltk (i:=22) (some 172) rfl rfl (v:= ?v22s) ?hy22s hS7 ?rest22s
                    case hy22s=>intro w0 hSw;obtain⟨a0,a1,a2,a3,a4,a5⟩:=hSw;go_simp;try with_reducible rfl
                    simp only [Act.put,sA,sB,sC];refine late_take (i:=23) (some 173) rfl rfl (by kernel_rfl) (by kernel_rfl) (by kernel_rfl) (by kernel_rfl) (by kernel_rfl) (fun _ _ _ h=>h) (by rfl) (v:=.bool false) ?hy23s hS7 ?rest23s
                    case hy23s=>intro w0 hSw;obtain⟨a0,a1,a2,a3,a4,a5⟩:=hSw;go_simp;try simp [hmn0]
                    simp only [Act.put,sA,sB,sC];refine ltk (i:=24) (some 174) rfl rfl (v:= ?v24s) ?hy24s hS7 ?rest24s
                    case hy24s=>intro w0 hSw;obtain⟨a0,a1,a2,a3,a4,a5⟩:=hSw;go_simp;try with_reducible rfl
                    simp only [Act.put,sA,sB,sC];refine ltk (i:=25) (some 175) rfl rfl (v:= ?v25s) ?hy25s hS7 ?rest25s
                    case hy25s=>intro w0 hSw;obtain⟨a0,a1,a2,a3,a4,a5⟩:=hSw;go_simp;try with_reducible rfl
                    simp only [Act.put,sA,sB,sC];refine ltk (i:=26) (some 176) rfl rfl (v:= ?v26s) ?hy26s hS7 ?rest26s
                    case hy26s=>intro w0 hSw;obtain⟨a0,a1,a2,a3,a4,a5⟩:=hSw;go_simp;try with_reducible rfl
                    simp only [Act.put,sA,sB,sC];refine ltk (i:=27) (some 177) rfl rfl (v:= ?v27s) ?hy27s hS7 ?rest27s
                    case hy27s=>intro w0 hSw;obtain⟨a0,a1,a2,a3,a4,a5⟩:=hSw;go_simp;try with_reducible rfl
                    simp only [Act.put,sA,sB,sC];refine wpAnyD_one (i:=28) (by kernel_rfl) rfl (fun K hK=>?_);go_simp;go_at_call 39
                    (with_reducible refine(HHs.out _ HB7.out.low).mono ?_)
                    rintro e w8' ⟨rfl,hw8⟩;subst hw8;have hS9:=hS7;have HB34:=hid HB7.out;have HBr34:=hid HBr7.out;refine hK _ _ ⟨fun _=>hS7,?_⟩;clear hK K;try simp only [Act.put,sA,sB,sC]
                    refine ltk (i:=29) (some 179) rfl rfl (v:= ?v29s) ?hy29s hS7 ?rest29s
                    case hy29s=>intro w0 hSw;obtain⟨a0,a1,a2,a3,a4,a5⟩:=hSw;go_simp;try with_reducible rfl
                    simp only [Act.put,sA,sB,sC];refine ltk (i:=30) (some 180) rfl rfl (v:= ?v30s) ?hy30s hS7 ?rest30s
                    case hy30s=>intro w0 hSw;obtain⟨a0,a1,a2,a3,a4,a5⟩:=hSw;go_simp;try with_reducible rfl
                    simp only [Act.put,sA,sB,sC];refine late_done (by kernel_rfl) ?_ _;refine NoPanic.normal ?_;go_wp2;go_roundg (n-(i+1)+1)
                    case measure=>omega
                    case rel=>
                     refine⟨i+1,by omega,rfl,by push_cast;go_num,fun j r hj hr h1 h2=>?_,HB34.out,HBr34.out⟩;rcases Nat.lt_succ_iff_lt_or_eq.1 hj with h6|rfl
                     · exact HE.out j r h6 hr h1 h2
                     · rw [map_r HX.out] at hr;injection hr with hr
                       subst hr;exact HVe.out
               · have hpb:=ne_list hpq;refine wp_region_noPanic ?_;refine any_begin 31 (by kernel_rfl) (by kernel_rfl) ?_;refine late_begin (fun U=>R34S U w.heap.size g1 (o1+bx*13+1) gp (op+bb*2) wr.heap.size (.slice (some ⟨g1,o1,none⟩) n c) Sq Sb Sh Sp (.slice x.q mn x.k)) (fun _=>false) hS0 (fun hS=>?_);refine ltk (i:=0) (some 150) rfl rfl (v:= ?v0t) ?hy0t hS ?rest0t
                 case hy0t=>intro w0 hSw;obtain⟨a0,a1,a2,a3,a4,a5⟩:=hSw;go_simp;try with_reducible rfl
                 simp only [Act.put,sA,sB,sC];refine ltk (i:=1) (some 151) rfl rfl (v:= ?v1t) ?hy1t hS ?rest1t
                 case hy1t=>intro w0 hSw;obtain⟨a0,a1,a2,a3,a4,a5⟩:=hSw;go_simp;try with_reducible rfl
                 simp only [Act.put,sA,sB,sC];refine ltk (i:=2) (some 152) rfl rfl (v:= ?v2t) ?hy2t hS ?rest2t
                 case hy2t=>intro w0 hSw;obtain⟨a0,a1,a2,a3,a4,a5⟩:=hSw;go_simp;try with_reducible rfl
                 simp only [Act.put,sA,sB,sC];refine ltk (i:=3) (some 153) rfl rfl (v:= ?v3t) ?hy3t hS ?rest3t
                 case hy3t=>intro w0 hSw;obtain⟨a0,a1,a2,a3,a4,a5⟩:=hSw;go_simp;try with_reducible rfl
                 simp only [Act.put,sA,sB,sC];refine ltk (i:=4) (some 154) rfl rfl (v:= ?v4t) ?hy4t hS ?rest4t
                 case hy4t=>intro w0 hSw;obtain⟨a0,a1,a2,a3,a4,a5⟩:=hSw;go_simp;try with_reducible rfl
                 simp only [Act.put,sA,sB,sC];refine ltk (i:=5) (some 155) rfl rfl (v:= ?v5t) ?hy5t hS ?rest5t
                 case hy5t=>intro w0 hSw;obtain⟨a0,a1,a2,a3,a4,a5⟩:=hSw;go_simp;try with_reducible rfl
                 simp only [Act.put,sA,sB,sC];refine ltk (i:=6) (some 156) rfl rfl (v:= ?v6t) ?hy6t hS ?rest6t
                 case hy6t=>intro w0 hSw;obtain⟨a0,a1,a2,a3,a4,a5⟩:=hSw;go_simp;try with_reducible rfl
                 simp only [Act.put,sA,sB,sC];refine wpAnyD_one (i:=7) (by kernel_rfl) rfl (fun K hK=>?_);go_simp;go_at_call 37
                 (with_reducible refine(HSm.out _).mono ?_)
                 rintro e w7' ⟨rfl,hb7⟩;have hS7:=hS0.next hb7
                 have HB34:=hid ((HB9.out.next (below_drewH W9 1)).next hb7);have HBr34:=hid (below_out (below_out HBr9.out (below_drewH W9 1)) hb7);clear hb7;refine hK _ _ ⟨fun _=>hS7,?_⟩;clear hK K;try simp only [Act.put,sA,sB,sC]
                 refine ltk (i:=8) (some 158) rfl rfl (v:= ?v8t) ?hy8t hS7 ?rest8t
                 case hy8t=>intro w0 hSw;obtain⟨a0,a1,a2,a3,a4,a5⟩:=hSw;go_simp;try with_reducible rfl
                 simp only [Act.put,sA,sB,sC];refine ltk (i:=9) (some 159) rfl rfl (v:= ?v9t) ?hy9t hS7 ?rest9t
                 case hy9t=>intro w0 hSw;obtain⟨a0,a1,a2,a3,a4,a5⟩:=hSw;go_simp;try with_reducible rfl
                 simp only [Act.put,sA,sB,sC];refine ltk (i:=10) (some 160) rfl rfl (v:= ?v10t) ?hy10t hS7 ?rest10t
                 case hy10t=>intro w0 hSw;obtain⟨a0,a1,a2,a3,a4,a5⟩:=hSw;go_simp;try with_reducible rfl
                 simp only [Act.put,sA,sB,sC];refine ltk (i:=11) (some 161) rfl rfl (v:= ?v11t) ?hy11t hS7 ?rest11t
                 case hy11t=>intro w0 hSw;obtain⟨a0,a1,a2,a3,a4,a5⟩:=hSw;go_simp;try with_reducible rfl
                 simp only [Act.put,sA,sB,sC];refine ltk (i:=12) (some 162) rfl rfl (v:= ?v12t) ?hy12t hS7 ?rest12t
                 case hy12t=>intro w0 hSw;obtain⟨a0,a1,a2,a3,a4,a5⟩:=hSw;go_simp;try with_reducible rfl
                 simp only [Act.put,sA,sB,sC];refine ltk (i:=13) (some 163) rfl rfl (v:= ?v13t) ?hy13t hS7 ?rest13t
                 case hy13t=>intro w0 hSw;obtain⟨a0,a1,a2,a3,a4,a5⟩:=hSw;go_simp;try with_reducible rfl
                 simp only [Act.put,sA,sB,sC];refine ltk (i:=14) (some 164) rfl rfl (v:= ?v14t) ?hy14t hS7 ?rest14t
                 case hy14t=>intro w0 hSw;obtain⟨a0,a1,a2,a3,a4,a5⟩:=hSw;go_simp;try with_reducible rfl
                 simp only [Act.put,sA,sB,sC];refine ltk (i:=15) (some 165) rfl rfl (v:= ?v15t) ?hy15t hS7 ?rest15t
                 case hy15t=>intro w0 hSw;obtain⟨a0,a1,a2,a3,a4,a5⟩:=hSw;go_simp;try with_reducible rfl
                 simp only [Act.put,sA,sB,sC];refine ltk (i:=16) (some 166) rfl rfl (v:= ?v16t) ?hy16t hS7 ?rest16t
                 case hy16t=>intro w0 hSw;obtain⟨a0,a1,a2,a3,a4,a5⟩:=hSw;go_simp;try with_reducible rfl
                 simp only [Act.put,sA,sB,sC];refine late_take (i:=17) (some 167) rfl rfl (by kernel_rfl) (by kernel_rfl) (by kernel_rfl) (by kernel_rfl) (by kernel_rfl) (fun _ _ _ h=>h) (by rfl) (v:=.bool false) ?hy17t hS7 ?rest17t
                 case hy17t=>intro w0 hSw;obtain⟨a0,a1,a2,a3,a4,a5⟩:=hSw;go_simp;try simp [hpb]
                 simp only [Act.put,sA,sB,sC];refine ltk (i:=18) (some 168) rfl rfl (v:= ?v18t) ?hy18t hS7 ?rest18t
                 case hy18t=>intro w0 hSw;obtain⟨a0,a1,a2,a3,a4,a5⟩:=hSw;go_simp;try with_reducible rfl
                 simp only [Act.put,sA,sB,sC];refine ltk (i:=19) (some 169) rfl rfl (v:= ?v19t) ?hy19t hS7 ?rest19t
                 case hy19t=>intro w0 hSw;obtain⟨a0,a1,a2,a3,a4,a5⟩:=hSw;go_simp;try with_reducible rfl
                 simp only [Act.put,sA,sB,sC];refine late_skip (i:=20) (some 170) rfl rfl (by kernel_rfl) (by kernel_rfl) (by kernel_rfl) (by kernel_rfl) (by kernel_rfl) (fun _ _ _ h=>h) (by rfl) hS7 ?_;simp only [Act.put,sA,sB,sC];refine late_skip (i:=21) (some 171) rfl rfl (by kernel_rfl) (by kernel_rfl) (by kernel_rfl) (by kernel_rfl) (by kernel_rfl) (fun _ _ _ h=>h) (by rfl) hS7 ?_;simp only [Act.put,sA,sB,sC];refine late_skip (i:=22) (some 172) rfl rfl (by kernel_rfl) (by kernel_rfl) (by kernel_rfl) (by kernel_rfl) (by kernel_rfl) (fun _ _ _ h=>h) (by rfl) hS7 ?_;simp only [Act.put,sA,sB,sC];refine late_skip (i:=23) (some 173) rfl rfl (by kernel_rfl) (by kernel_rfl) (by kernel_rfl) (by kernel_rfl) (by kernel_rfl) (fun _ _ _ h=>h) (by rfl) hS7 ?_;simp only [Act.put,sA,sB,sC];refine late_skip (i:=24) (some 174) rfl rfl (by kernel_rfl) (by kernel_rfl) (by kernel_rfl) (by kernel_rfl) (by kernel_rfl) (fun _ _ _ h=>h) (by rfl) hS7 ?_;simp only [Act.put,sA,sB,sC];refine late_skip (i:=25) (some 175) rfl rfl (by kernel_rfl) (by kernel_rfl) (by kernel_rfl) (by kernel_rfl) (by kernel_rfl) (fun _ _ _ h=>h) (by rfl) hS7 ?_;simp only [Act.put,sA,sB,sC];refine late_skip (i:=26) (some 176) rfl rfl (by kernel_rfl) (by kernel_rfl) (by kernel_rfl) (by kernel_rfl) (by kernel_rfl) (fun _ _ _ h=>h) (by rfl) hS7 ?_;simp only [Act.put,sA,sB,sC];refine late_skip (i:=27) (some 177) rfl rfl (by kernel_rfl) (by kernel_rfl) (by kernel_rfl) (by kernel_rfl) (by kernel_rfl) (fun _ _ _ h=>h) (by rfl) hS7 ?_;simp only [Act.put,sA,sB,sC];refine late_skip (i:=28) (some 178) rfl rfl (by kernel_rfl) (by kernel_rfl) (by kernel_rfl) (by kernel_rfl) (by kernel_rfl) (fun _ _ _ h=>h) (by rfl) hS7 ?_;simp only [Act.put,sA,sB,sC];refine late_skip (i:=29) (some 179) rfl rfl (by kernel_rfl) (by kernel_rfl) (by kernel_rfl) (by kernel_rfl) (by kernel_rfl) (fun _ _ _ h=>h) (by rfl) hS7 ?_;simp only [Act.put,sA,sB,sC];refine ltk (i:=30) (some 180) rfl rfl (v:= ?v30t) ?hy30t hS7 ?rest30t
                 case hy30t=>intro w0 hSw;obtain⟨a0,a1,a2,a3,a4,a5⟩:=hSw;go_simp;try with_reducible rfl
                 simp only [Act.put,sA,sB,sC];refine late_done (by kernel_rfl) ?_ _;refine NoPanic.normal ?_;have hS9:=hS7;go_wp2;go_roundg (n-(i+1)+1)
                 case measure=>omega
                 case rel=>
                  refine⟨i+1,by omega,rfl,by push_cast;go_num,fun j r hj hr h1 h2=>?_,HB34.out,HBr34.out⟩;rcases Nat.lt_succ_iff_lt_or_eq.1 hj with h6|rfl
                  · exact HE.out j r h6 hr h1 h2
                  · rw [map_r HX.out] at hr;injection hr with hr
                    subst hr;exact absurd (congrArg str (h2.trans HPp.out)) (fun e=>hpq (by rw [←HSp.out,←HSb.out];exact e))
            · obtain rfl:n=i:=by omega
              have HNo:=hid (show FndNo (l.map RtX.r) host path method 8 from last_no HCo.out HHm.out HWy.out (fun j r hj=>HE.out j r (by rw [←HLl.out];exact hj)));have z0:=cell0 HBi.out.a;obtain⟨y0,f0,y1,f1,y2,f2⟩:=fd_box HBi.out.b (.int .i64 0) (.slice none 0 0);go_wp2;refine bodyPost_ret (results_fdD rfl _ _ (w.heap.size+1) _ _ (0,0) rfl (heap_three HBi.out.b _ _ _) rfl) rfl ?_;exact⟨below_three HBi.out.low (by omega) _ _ _,.inl ⟨8,HNo.out,by decide,rfl⟩⟩
end Go.Proofs.YtlmlljlappjjjaaGreatDoor
