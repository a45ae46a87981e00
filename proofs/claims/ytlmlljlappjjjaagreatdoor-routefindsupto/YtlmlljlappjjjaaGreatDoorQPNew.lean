/- The document's New, each route being fine by itself. -/
import Derived.Test.YtlmlljlappjjjaaGreatDoorQNew2
namespace Go.Proofs.YtlmlljlappjjjaaGreatDoor
set_option maxRecDepth 20000
set_option maxHeartbeats 64000000
open Go.RowKit
theorem at_of {l:List RtX}{k i:Nat}{x y:RtX} (h1:l[k]?=some x) (h2:l[i]?=some y):clashAt (l.map RtX.r) k i=clashR x.r y.r:=by
 unfold clashAt;rw [map_r h1,map_r h2]
theorem lt_next {P:Nat→Prop}{i:Nat} (h:∀ k,k<i→P k) (hi:P i):∀ k,k<i+1→P k:=by
 intro k hk;rcases Nat.lt_or_ge k i with h1|h1
 · exact h k h1
 · have:k=i:=by omega
   subst this;exact hi
theorem rnew_good (l:List RtX) (p:Option Addr) (n c:Nat) (hn:l.length=n) (h64:n≤64) (hz:∀ x∈l,RtZ x) (hok:∀ x∈l,chkR x.r=0) (w:World) (hT:RtsAt w p l):Calls Tryz.prog 10 #[.slice p n c] w fun e w'=>e= .returned (rnewV (l.map RtX.r) (.slice p n c))∧Below w.heap.size w w':=by
 have HN:=hid hn;have HT:=hid hT;have HZ:=hid hz;have HOk:=hid hok;have HNe:=hid (newE_none (l:=l.map RtX.r) (by rw [List.length_map,hn];exact h64) (fun x hx=>by obtain⟨y,hy,rfl⟩:=List.mem_map.1 hx;exact hok y hy));have hG0:=heap_alloc_new w (.cells #[.slice none 0 0] 32 (0,0));have hB0:=below_new w (.cells #[.slice none 0 0] 32 (0,0));have HG0:=hid hG0;have HB0:=hid hB0;clear hn hT hz hok hG0 hB0;go_enter Tryz.func10,Tryz.ntmps10;go_wp2;go_loopg [4] (n+1) (fun gk s4 wr=>∃ i:Nat,i≤n∧gk=n-i+1∧s4= .int .i64 (i:Int)∧Below w.heap.size w wr∧wr.heap[w.heap.size]?=some (.cells #[.slice none 0 0] 32 (0,0)))
 case atStart=>exact⟨0,by omega,rfl,rfl,HB0.out,HG0.out⟩
 case round=>
  obtain⟨i,hi,rfl,rfl,hb,hg⟩:=hrel;have HB:=hid hb;have HG:=hid hg;clear hb hg;by_cases hin:i<n
  · have h1:i<l.length:=by rw [HN.out];exact hin
    obtain⟨x,hx⟩:∃ x,l[i]?=some x:=⟨_,List.getElem?_eq_getElem h1⟩;have HX:=hid hx;have hzx:=HZ.out x (List.mem_of_getElem? hx);have hkx:=HOk.out x (List.mem_of_getElem? hx);obtain⟨g1,o1,rfl,hC⟩:=(HT.out.next HB.out).at hx;have HC:=hid hC;have HMt:=hid (HT.out.ms x (List.mem_of_getElem? hx));have ha:checkN x.r.host=0:=by
     unfold chkR at hkx;split at hkx
     · exact hkx
     · rename_i h;simpa using h
    have hb:chkN x.r.path=0:=by
     unfold chkR at hkx;rw [if_neg (by simp [ha])] at hkx;split at hkx
     · exact hkx
     · rename_i h;simpa using h
    have hd:methE x.r.ms=0:=by
     unfold chkR at hkx;rw [if_neg (by simp [ha]),if_neg (by simp [hb])] at hkx;exact hkx
    have HH:=hid (fun (W:World) (_:Below w.heap.size w W)=>rcheckN x.r.host (Nat.le_trans hzx.host (by decide)) W);have HP:=hid (fun (W:World) (_:Below w.heap.size w W)=>chk_doc x.r.path hzx.path W);have HM:=hid (fun (W:World) (hb:Below w.heap.size w W)=>rmeth_any x.r.ms x.q x.r.ms.length x.k rfl hzx.cap hzx.each (Nat.le_trans hzx.ms (by decide)) W (HMt.out.next hb));rw [ha] at HH;rw [hb] at HP;rw [hd] at HM;clear h1 hx hzx hC ha hb hd hkx;obtain⟨Sh,hSh⟩:∃ S,str x.r.host=S:=⟨_,rfl⟩;obtain⟨Sp,hSp⟩:∃ S,str x.r.path=S:=⟨_,rfl⟩;have HEh:=hid hSh;have HEp:=hid hSp;rw [hSh] at HH;rw [hSp] at HP;clear hSh hSp;have q0:=HC.out.a0;have q1:=HC.out.a1;have q2:=HC.out.a2;rw [HEh.out] at q0;rw [HEp.out] at q1;have z0:=cell0 HG.out;have f0:=frozen_of_row wr w.heap.size 0 _ _ HG.out;go_wp2_with (first|(go_at_call 27;(with_reducible refine(HH.out _ HB.out).mono ?_);rintro e w1 ⟨rfl,hb⟩;replace HC:=hid (HC.out.next hb);replace HG:=hid (kB hb HG.out);replace HB:=hid (below_out HB.out hb);clear hb q0 q1 q2 z0 f0;have q0:=HC.out.a0;have q1:=HC.out.a1;have q2:=HC.out.a2;rw [HEh.out] at q0;rw [HEp.out] at q1;have z0:=cell0 HG.out;have f0:=frozen_of_row _ w.heap.size 0 _ _ HG.out)|(go_at_call 28;(with_reducible refine(HP.out _ HB.out).mono ?_);rintro e w1 ⟨rfl,hb⟩;replace HC:=hid (HC.out.next hb);replace HG:=hid (kB hb HG.out);replace HB:=hid (below_out HB.out hb);clear hb q0 q1 q2 z0 f0;have q0:=HC.out.a0;have q1:=HC.out.a1;have q2:=HC.out.a2;rw [HEh.out] at q0;rw [HEp.out] at q1;have z0:=cell0 HG.out;have f0:=frozen_of_row _ w.heap.size 0 _ _ HG.out)|(go_at_call 17;(with_reducible refine(HM.out _ HB.out).mono ?_);rintro e w1 ⟨rfl,hb⟩;replace HC:=hid (HC.out.next hb);replace HG:=hid (kB hb HG.out);replace HB:=hid (below_out HB.out hb);clear hb q0 q1 q2 z0 f0;have q0:=HC.out.a0;have q1:=HC.out.a1;have q2:=HC.out.a2;rw [HEh.out] at q0;rw [HEp.out] at q1;have z0:=cell0 HG.out;have f0:=frozen_of_row _ w.heap.size 0 _ _ HG.out));go_roundg (n-(i+1)+1)
    case measure=>omega
    case rel=>exact⟨i+1,by omega,by omega,by go_num,HB.out,HG.out⟩
  · have HB1:=hid HB.out;have HG1:=hid HG.out;obtain⟨w0,hw0⟩:∃ W,W=wr:=⟨_,rfl⟩;subst hw0;go_wp2;clear hin hi HB HG;go_loopg [6] (n+1) (fun gk s6 wr=>∃ i:Nat,i≤n∧gk=n-i+1∧s6= .int .i64 (i:Int)∧(∀ i',i'<i→∀ k,k<i'→clashAt (l.map RtX.r) k i'=false)∧Below w.heap.size w wr∧wr.heap[w.heap.size]?=some (.cells #[.slice none 0 0] 32 (0,0)))
    case atStart=>exact⟨0,by omega,rfl,rfl,fun _ h=>by omega,HB1.out,HG1.out⟩
    case round=>
     clear HB1 HG1;obtain⟨i,hi,rfl,rfl,hE,hb,hg⟩:=hrel;have HE:=hid hE;have HB:=hid hb;have HG:=hid hg;clear hE hb hg;by_cases hin:i<n
     · have HB1:=hid HB.out;have HG1:=hid HG.out;clear HB HG;go_wp2;go_loopg [7] (i+1) (fun gk s7 wr=>∃ k:Nat,k≤i∧gk=i-k+1∧s7= .int .i64 (k:Int)∧(∀ k',k'<k→clashAt (l.map RtX.r) k' i=false)∧Below w.heap.size w wr∧wr.heap[w.heap.size]?=some (.cells #[.slice none 0 0] 32 (0,0)))
       case atStart=>exact⟨0,by omega,rfl,rfl,fun _ h=>by omega,HB1.out,HG1.out⟩
       case round=>
        clear HB1 HG1;obtain⟨k,hk,rfl,rfl,hF,hb,hg⟩:=hrel;have HF:=hid hF;have HB:=hid hb;have HG:=hid hg;clear hF hb hg;by_cases hki:k<i
        · obtain⟨x,hx⟩:∃ x,l[k]?=some x:=⟨_,List.getElem?_eq_getElem (by rw [HN.out];omega)⟩;obtain⟨y,hy⟩:∃ y,l[i]?=some y:=⟨_,List.getElem?_eq_getElem (by rw [HN.out];exact hin)⟩;have hzx:=HZ.out x (List.mem_of_getElem? hx);have hzy:=HZ.out y (List.mem_of_getElem? hy);obtain⟨g1,o1,rfl,hC⟩:=(HT.out.next HB.out).at hx;obtain⟨g2,o2,e2,hD⟩:=(HT.out.next HB.out).at hy;cases e2;have HC:=hid hC;have HD:=hid hD;have HCl:=hid (fun (W:World) (hb:Below _ _ W)=>rclash_any x.r y.r x.q y.q x.r.ms.length x.k y.r.ms.length y.k rfl rfl (Nat.le_trans hzx.ms (by decide)) (Nat.le_trans hzy.ms (by decide)) hzx.host hzx.path hzy.host hzy.path x.v3 x.v4 x.v5 x.v6 x.v7 x.v8 x.v9 x.v10 x.v11 x.v12 y.v3 y.v4 y.v5 y.v6 y.v7 y.v8 y.v9 y.v10 y.v11 y.v12 W ((HT.out.ms x (List.mem_of_getElem? hx)).next (below_out HB.out hb)) ((HT.out.ms y (List.mem_of_getElem? hy)).next (below_out HB.out hb)));have HAt:=hid (at_of hx hy);obtain⟨b,hb⟩:∃ b,clashR x.r y.r=b:=⟨_,rfl⟩;rw [hb] at HCl HAt;clear hx hy hzx hzy hC hD hb;have q0:=HC.out.a0;have q1:=HC.out.a1;have q2:=HC.out.a2;have q3:=HC.out.a3;have q4:=HC.out.a4;have q5:=HC.out.a5;have q6:=HC.out.a6;have q7:=HC.out.a7;have q8:=HC.out.a8;have q9:=HC.out.a9;have q10:=HC.out.a10;have q11:=HC.out.a11;have q12:=HC.out.a12;have r0:=HD.out.a0;have r1:=HD.out.a1;have r2:=HD.out.a2;have r3:=HD.out.a3;have r4:=HD.out.a4;have r5:=HD.out.a5;have r6:=HD.out.a6;have r7:=HD.out.a7;have r8:=HD.out.a8;have r9:=HD.out.a9;have r10:=HD.out.a10;have r11:=HD.out.a11;have r12:=HD.out.a12;have z0:=cell0 HG.out;have f0:=frozen_of_row _ w.heap.size 0 _ _ HG.out;cases b with
          |true=>
           have HV:=hid (show Ending.returned (.tuple #[.agg #[.slice none 0 0],.int .i64 6])=Ending.returned (rnewV (l.map RtX.r) (.slice (some ⟨g1,o1,none⟩) n c)) from by rw [rnewV_ne (k:=6) (HNe.out.trans (if_pos (twice_yes (by rw [List.length_map,HN.out];exact hin) hki HAt.out))) (by decide)];rfl);go_wp2;go_region_with (go_at_call 29;(with_reducible refine(HCl.out _ (by first|exact(Below.refl _ _).drew|exact Below.refl _ _|exact below_drew (Below.refl _ _) _)).mono ?_);rintro e w1 ⟨rfl,hb⟩;have hbw:=below_out (by first|exact(Below.refl _ _).drew|exact Below.refl _ _|exact below_drew (Below.refl _ _) _) hb;have HB2:=hid (below_out HB.out hbw);have HG2:=hid (kB hbw HG.out);clear hb hbw);all_goals
            have z0:=cell0 HG2.out;have f0:=frozen_of_row _ w.heap.size 0 _ _ HG2.out;go_wp2;refine bodyPost_ret (results_rt rfl _ _ w.heap.size _ _ (0,0) rfl (heap_setCell_same _ _ _ _ _ _ HG2.out) rfl) rfl ?_;exact⟨HV.out,below_set1 HB2.out (Nat.le_refl _) HG2.out _⟩
          |false=>
           go_wp2;go_region_with (go_at_call 29;(with_reducible refine(HCl.out _ (by first|exact(Below.refl _ _).drew|exact Below.refl _ _|exact below_drew (Below.refl _ _) _)).mono ?_);rintro e w1 ⟨rfl,hb⟩;have hbw:=below_out (by first|exact(Below.refl _ _).drew|exact Below.refl _ _|exact below_drew (Below.refl _ _) _) hb;have HB2:=hid (below_out HB.out hbw);have HG2:=hid (kB hbw HG.out);clear hb hbw);all_goals
            go_wp2;go_roundg (i-(k+1)+1)
            case measure=>omega
            case rel=>exact⟨k+1,by omega,by omega,by go_num,lt_next HF.out HAt.out,HB2.out,HG2.out⟩
        · have HFi:=hid (show ∀ k',k'<i→clashAt (l.map RtX.r) k' i=false from fun k' h=>HF.out k' (by omega));go_wp2;go_roundg (n-(i+1)+1)
          case measure=>omega
          case rel=>exact⟨i+1,by omega,by omega,by go_num,lt_next HE.out HFi.out,HB.out,HG.out⟩
     · have HV:=hid (show Ending.returned (.tuple #[.agg #[.slice p n c],.int .i64 0])=Ending.returned (rnewV (l.map RtX.r) (.slice p n c)) from by
        unfold rnewV;rw [if_pos (HNe.out.trans (by rw [twice_no (fun i' h=>HE.out i' (by rw [List.length_map,HN.out] at h;omega))];rfl))])
       have z0:=cell0 HG.out;have f0:=frozen_of_row _ w.heap.size 0 _ _ HG.out;go_wp2;refine bodyPost_ret (results_rt rfl _ _ w.heap.size _ _ (0,0) rfl (heap_setCell_same _ _ _ _ _ _ HG.out) rfl) rfl ?_;exact⟨HV.out,below_set1 HB.out (Nat.le_refl _) HG.out _⟩
theorem rnew_any (l:List RtX) (p:Option Addr) (n c:Nat) (hn:l.length=n) (hz:∀ x∈l,RtZ x) (w:World) (hT:RtsAt w p l):Calls Tryz.prog 10 #[.slice p n c] w fun e w'=>e= .returned (rnewV (l.map RtX.r) (.slice p n c))∧Below w.heap.size w w':=by
  by_cases h64:64<n
  · exact rnew_long l p n c hn h64 w
  · by_cases hb:∃ x∈l,chkR x.r≠0
    · exact rnew_bad l p n c hn (by omega) hz hb w hT
    · exact rnew_good l p n c hn (by omega) hz (fun x hx=>by
        by_cases h:chkR x.r=0
        · exact h
        · exact absurd ⟨x,hx,h⟩ hb) w hT
open Go.RowKit Go.Maps
abbrev tblZ (gh m:Nat):Array Value:=#[.pointer (some ⟨gh,0,none⟩),.slice none 0 0,.map (some m),.slice none 0 0]
theorem tbl_start {b0:Nat}{w1:World}{gh:Nat} (h:Tab w1 gh [] none (.slice none 0 0) (.slice none 0 0) []) (hg:b0≤gh) (hb:b0≤w1.heap.size):
  TabQ b0 ((w1.alloc (.map #[] 0)).alloc (.cells (tblZ gh w1.heap.size) 82 (0,0))) (w1.heap.size+1) gh w1.heap.size (contQ [] 0):=by
 have hgl:=lt_of_heap h.tab.bx;have hz:(w1.alloc (.map #[] 0)).heap.size=w1.heap.size+1:=by simp
 have hb1:Below w1.heap.size w1 ((w1.alloc (.map #[] 0)).alloc (.cells (tblZ gh w1.heap.size) 82 (0,0))):=below_out (below_new w1 _) (below_new _ _);have hbx:=heap_alloc_new (w1.alloc (.map #[] 0)) (.cells (tblZ gh w1.heap.size) 82 (0,0));rw [hz] at hbx;have hm:=(WayM.made w1 0).keep ((below_new (w1.alloc (.map #[] 0)) (.cells (tblZ gh w1.heap.size) 82 (0,0))).block w1.heap.size (by rw [hz];omega));refine⟨fun b=>if b=w1.heap.size+1 then .tbl else if b=w1.heap.size then .map else if b=gh then .hst else .out,.slice none 0 0,.slice none 0 0,[],fun _ _=>.slice none 0 0,[],⟨hbx,if_pos rfl,⟨_,_,_,_,h.next hb1,fun i hi=>?_⟩,OwnR.nil _ _,fun b hb=>(by cases hb),fun i b hi=>(by cases hi),hm,?_,fun i p _=>⟨OwnR.nil _ _,fun b hb=>(by cases hb)⟩,OwnR.nil _ _,fun b hb=>(by cases hb),rfl,fun x hx=>(by cases hx),fun b hb=>?_,fun b hb=>?_⟩,rfl⟩
 · rw [ft_new hi];dsimp only;rw [if_neg (by omega),if_neg (by omega),if_pos rfl]
 · rw [if_neg (by omega),if_pos rfl]
 · simp;by_cases e1:b=w1.heap.size+1
   · omega
   · by_cases e2:b=w1.heap.size
     · omega
     · by_cases e3:b=gh
       · omega
       · rw [if_neg e1,if_neg e2,if_neg e3] at hb;exact absurd rfl hb
 · by_cases e1:b=w1.heap.size+1
   · omega
   · by_cases e2:b=w1.heap.size
     · omega
     · by_cases e3:b=gh
       · omega
       · rw [if_neg e1,if_neg e2,if_neg e3] at hb;exact absurd rfl hb
theorem TabQ.next {b0:Nat}{w w':World}{t gh m:Nat}{C:QC} (h:TabQ b0 w t gh m C) (hs:b0≤w.heap.size) (hb:Below w.heap.size w w'):TabQ b0 w' t gh m C:=by
 obtain⟨O,vp,vr,ts,wv,es,hI,hl⟩:=h;exact⟨O,vp,vr,ts,wv,es,hI.next hs hb,hl⟩
def PNewAns (w:World) (l:List RtC) (e:Ending) (w':World):Prop:=
 (newE l≠0∧e= .returned (.tuple #[.pointer none,.iface 74 (.int .i64 (newE l:Int))])∧Below w.heap.size w w')∨
 (newE l=0∧Below w.heap.size w w'∧∃ t gh m M,e= .returned (.tuple #[.pointer (some ⟨t,0,none⟩),.nilIface])∧w.heap.size≤t∧TabQ w.heap.size w' t gh m (contQ l M))
theorem addC_M (C:QC) (g:Nat) (r:RtC):(addC C g r).M≤C.M+2:=by
 unfold addC;dsimp only;split <;> omega
def RtV (x:RtX):Prop:=∃ (s3 s5 s6:ByteArray) (b4:Bool) (q7:Option Addr) (n7 c7:Nat) (i8 i9 i10 i11 i12:Int),x.v3= .string s3∧x.v4= .bool b4∧x.v5= .string s5∧x.v6= .string s6∧x.v7= .slice q7 n7 c7∧x.v8= .int .i64 i8∧x.v9= .int .i64 i9∧x.v10= .int .i64 i10∧x.v11= .int .i64 i11∧x.v12= .int .i64 i12
structure RtZP (x:RtX):Prop where
 val:RtV x
 z:RtZ x
 few:x.r.ms.length≤4398046511104
 each:∀ y∈x.r.ms,y.length≤281474976710656
theorem chk_parts {r:RtC} (h:chkR r=0):(∃ x,patH r.host=some x)∧checkP r.path=true:=by
 have ha:checkN r.host=0:=by
  unfold chkR at h;split at h
  · exact h
  · rename_i h1;simpa using h1
 have hb:chkN r.path=0:=by
  unfold chkR at h;rw [if_neg (by simp [ha])] at h;split at h
  · exact h
  · rename_i h1;simpa using h1
 constructor
 · unfold checkN at ha;cases hp:patH r.host with
   |some x=>exact⟨x,rfl⟩
   |none=>rw [hp] at ha;simp at ha
 · unfold chkN at hb;cases hp:checkP r.path with
   |true=>rfl
   |false=>rw [hp] at hb;simp at hb
theorem padd_cont {b0:Nat}{w:World}{t gh m:Nat}{L:List RtC}{M:Nat} (h:TabQ b0 w t gh m (contQ L M)) (hs:b0≤w.heap.size) (hx0:0<b0) (hmx:MxAt w) (x:RtX) (hck:chkR x.r=0) (hLc:∀ r∈L,chkR r=0) (hLm:∀ r∈L,r.ms.length≤140737488355328) (hno:∀ i,i<L.length→∀ k,k<i→clashAt L k i=false) (h64:L.length<64) (hM:M≤2*L.length) (hz:RtZP x) (hT:TxAt w x.q x.r.ms):
  Calls Tryz.prog 26 #[.pointer (some ⟨t,0,none⟩),.agg #[.string (str x.r.host),.string (str x.r.path),.slice x.q x.r.ms.length x.k,x.v3,x.v4,x.v5,x.v6,x.v7,x.v8,x.v9,x.v10,x.v11,x.v12]] w fun e w'=>∃ v,e= .returned v∧Below b0 w w'∧
   (((∃ r∈L,clashR r x.r=true)∧v= .iface 74 (.int .i64 6))∨
    ((¬∃ r∈L,clashR r x.r=true)∧v= .nilIface∧∃ M',M'≤2*(L.length+1)∧TabQ b0 w' t gh m (contQ (L++ [x.r]) M'))):=by
 obtain⟨O,vp,vr,ts,wv,es,hI,hl⟩:=h;obtain⟨⟨y,hy⟩,hcp⟩:=chk_parts hck;have hgl:=grps_len L;have hel:(contQ L M).es.length=L.length:=by unfold contQ;simp
 refine(padd_any hI hs hx0 hmx x.r hy hcp hl (fun _=>Nat.lt_of_le_of_lt hgl h64) (by show (grpsR L).length≤64;omega) (by unfold contQ;dsimp only;rw [List.getElem?_eq_none (Nat.le_refl _)];rfl) (by show M≤1000;omega) (fun i=>by have:=cont_tp_len L M i;omega) (fun i p=>by have:=cont_wy_len L M i p;omega) (by rw [hel];omega) (fun i p y hy=>cont_wy_at hy) (fun y hy=>?_) x.q x.r.ms.length x.k rfl hz.few hz.each hz.z.path x.v3 x.v4 x.v5 x.v6 x.v7 x.v8 x.v9 x.v10 x.v11 x.v12 hT).mono ?_
 · obtain⟨r,hr,rfl⟩:=List.mem_map.1 (show y∈L.map fun r=>(r.path,r.ms) from hy);exact hLm r hr
 · have hh:=hit_cont L M x.r (fun r hr=>(chk_parts (hLc r hr)).2) hcp hno;rintro e w' (⟨h1,h2,h3⟩|⟨h1,h2,h3,h4⟩)
   · exact⟨_,h2,h3,.inl ⟨hh.1 h1,rfl⟩⟩
   · refine⟨_,h2,h3,.inr ⟨fun hc=>?_,rfl,(addC (contQ L M) ((grpA (grpsR L) (lowH x.r.host)).idxOf (lowH x.r.host)) x.r).M,?_,?_⟩⟩
     · rw [show (contQ L M).gs=grpsR L from rfl,hh.2 hc] at h1;cases h1
     · have:=addC_M (contQ L M) ((grpA (grpsR L) (lowH x.r.host)).idxOf (lowH x.r.host)) x.r;rw [show (contQ L M).M=M from rfl] at this;omega
     · rw [←addC_cont L M x.r];exact h4
theorem clash_snoc {L:List RtC}{r:RtC} (hno:∀ i,i<L.length→∀ k,k<i→clashAt L k i=false) (hr:¬∃ x∈L,clashR x r=true):∀ i,i<(L++ [r]).length→∀ k,k<i→clashAt (L++ [r]) k i=false:=by
 intro i hi k hk;rw [List.length_append] at hi;have hi:i<L.length+1:=hi;unfold clashAt;rw [List.getElem?_append_left (show k<L.length by omega)];rcases Nat.lt_or_ge i L.length with h1|h1
 · rw [List.getElem?_append_left h1];exact hno i h1 k hk
 · have h2:i=L.length:=by omega
   subst h2;rw [List.getElem?_append_right (Nat.le_refl _),Nat.sub_self,List.getElem?_eq_getElem (show k<L.length by omega)];show clashR _ _=false;rw [←Bool.not_eq_true];exact fun h=>hr ⟨_,List.getElem_mem _,h⟩
theorem newE_twice {l:List RtC} (h64:l.length≤64) (hc:∀ x∈l,chkR x=0) {i:Nat}{r:RtC} (hi:l[i]?=some r) (h:∃ x∈l.take i,clashR x r=true):newE l=6:=by
 rw [newE_none h64 hc,if_pos];obtain⟨x,hx,h1⟩:=h;obtain⟨k,hk⟩:=List.mem_iff_getElem?.1 hx;have hki:k<i:=by
  have:=(List.getElem?_eq_some_iff.1 hk).1;rw [List.length_take] at this;omega
 refine twice_yes (i:=i) (k:=k) (List.getElem?_eq_some_iff.1 hi).1 hki ?_;unfold clashAt;rw [List.getElem?_take,if_pos hki] at hk;rw [hk,hi];exact h1
theorem pnew_any (l:List RtX) (p:Option Addr) (n c:Nat) (hn:l.length=n) (hz:∀ x∈l,RtZP x) (w:World) (hmx:MxAt w) (hT:RtsAt w p l):Calls Tryz.prog 9 #[.slice p n c] w fun e w'=>PNewAns w (l.map RtX.r) e w':=by
 have hx0:0<w.heap.size:=by obtain⟨q,hq⟩:=hmx;exact lt_of_cell hq
 by_cases h64:64<n
 · have hE:newE (l.map RtX.r)=9:=newE_long (by rw [List.length_map];omega);have HFin:=hid (show PNewAns w (l.map RtX.r) (.returned (.tuple #[.pointer none,.iface 74 (.int .i64 9)])) w from .inl ⟨by rw [hE];decide,by rw [hE];rfl,Below.refl _ _⟩);have h64':(64:Int)<(n:Int):=by omega
   clear hE hT hz hn hmx;go_enter Tryz.func9,Tryz.ntmps9;go_wp2;go_ret2;exact HFin.out
 have h64':¬(64:Int)<(n:Int):=by omega
 have HN:=hid hn;have HT:=hid hT;have HZ:=hid hz;have HMx:=hid hmx;have HHn:=hid (fun W:World=>new_any W);have hmm:=@run_makeMap Tryz.prog;clear hn hT hz hmx;go_enter Tryz.func9,Tryz.ntmps9;go_wp2;go_loopg [17] (n+1) (fun gk s17 wr=>∃ i:Nat,i≤n∧gk=n-i+1∧s17= .int .i64 (i:Int)∧(∀ z∈(l.map RtX.r).take i,chkR z=0)∧Below w.heap.size w wr)
 case atStart=>exact⟨0,by omega,rfl,rfl,by simp,Below.refl _ _⟩
 case round=>
  obtain⟨i,hi,rfl,rfl,hE,hb⟩:=hrel;have HE:=hid hE;have HB:=hid hb;clear hE hb;by_cases hin:i<n
  · have h1:i<l.length:=by rw [HN.out];exact hin
    obtain⟨x,hx⟩:∃ x,l[i]?=some x:=⟨_,List.getElem?_eq_getElem h1⟩;have HX:=hid hx;have hzx:=HZ.out x (List.mem_of_getElem? hx);obtain⟨g1,o1,rfl,hC⟩:=(HT.out.next HB.out).at hx;have HMt:=hid (HT.out.ms x (List.mem_of_getElem? hx));obtain⟨q0,q1,q2,q3,q4,q5,q6,q7,q8,q9,q10,q11,q12⟩:=hC;have HCk:=hid (fun (W:World) (hb:Below w.heap.size w W)=>pchk_any x.r x.q x.r.ms.length x.k rfl hzx.z.cap hzx.z.each (Nat.le_trans hzx.few (by decide)) (Nat.le_trans hzx.z.host (by decide)) hzx.z.path x.v3 x.v4 x.v5 x.v6 x.v7 x.v8 x.v9 x.v10 x.v11 x.v12 W (HMx.out.next hb) (HMt.out.next hb));have HVx:=hid (fun (hb:chkR x.r≠0)=>newE_bad (l:=l.map RtX.r) (by rw [List.length_map,HN.out];omega) (map_r HX.out) hb HE.out);have HNx:=hid (fun (h0:chkR x.r=0)=>all_next HE.out (map_r HX.out) h0);have HA:=hid (below_new wr (.cells #[.string (str x.r.host),.string (str x.r.path),.slice x.q x.r.ms.length x.k,x.v3,x.v4,x.v5,x.v6,x.v7,x.v8,x.v9,x.v10,x.v11,x.v12] 42 (0,0)));obtain⟨s3,s5,s6,b4,q7',n7,c7,i8,i9,i10,i11,i12,e3,e4,e5,e6,e7,e8,e9,e10,e11,e12⟩:=hzx.val;rw [e3,e4,e5,e6,e7,e8,e9,e10,e11,e12] at HCk HA;rw [e3] at q3;rw [e4] at q4;rw [e5] at q5;rw [e6] at q6;rw [e7] at q7;rw [e8] at q8;rw [e9] at q9;rw [e10] at q10;rw [e11] at q11;rw [e12] at q12;obtain⟨e,he⟩:∃ e,chkR x.r=e:=⟨_,rfl⟩;have HEq:=hid he;rw [he] at HCk;obtain⟨Sh,hSh⟩:∃ S,str x.r.host=S:=⟨_,rfl⟩;obtain⟨Sp,hSp⟩:∃ S,str x.r.path=S:=⟨_,rfl⟩;rw [hSh,hSp] at HCk HA;rw [hSh] at q0;rw [hSp] at q1;clear h1 hx hzx he hSh hSp e3 e4 e5 e6 e7 e8 e9 e10 e11 e12;by_cases h0:e=0
    · subst h0;have HNy:=hid (HNx.out HEq.out);rw [show errOf 0= .nilIface from rfl] at HCk;go_wp2_with (go_at_call 24;(with_reducible refine(HCk.out _ (below_out HB.out HA.out)).mono ?_);rintro e w1 ⟨rfl,hb1⟩;have HB1:=hid (below_out (below_out HB.out HA.out) hb1);clear hb1);go_roundg (n-(i+1)+1)
      case measure=>omega
      case rel=>exact⟨i+1,by omega,rfl,by push_cast;go_num,HNy.out,HB1.out⟩
    · rw [errOf_ne h0] at HCk;have HV:=hid (HVx.out (by rw [HEq.out];exact h0));go_wp2_with (go_at_call 24;(with_reducible refine(HCk.out _ (below_out HB.out HA.out)).mono ?_);rintro e w1 ⟨rfl,hb1⟩;have HB1:=hid (below_out (below_out HB.out HA.out) hb1);clear hb1);go_ret2;exact .inl ⟨by rw [HV.out,HEq.out];exact h0,by rw [HV.out,HEq.out];rfl,HB1.out⟩
  · obtain rfl:n=i:=by omega
    have HEa:=hid (show ∀ z∈l.map RtX.r,chkR z=0 from by
     have h9:=HE.out;rw [show n=(l.map RtX.r).length by rw [List.length_map,HN.out],List.take_length] at h9;exact h9)
    clear HE;go_wp2_with (go_at_call 25;(with_reducible refine(HHn.out wr).mono ?_);rintro e w1 ⟨rfl,hT1,hb1⟩;have HT1:=hid hT1;have HB1:=hid (below_out HB.out hb1);clear hT1 hb1);have hs1:=HB1.out.size;have HQ:=hid (tbl_start HT1.out HB.out.size HB1.out.size);have HBq:=hid (below_out (below_out HB1.out (below_new w1 (.map #[] 0))) (below_new _ (.cells (tblZ wr.heap.size w1.heap.size) 82 (0,0))));obtain⟨Wq,hWq⟩:∃ Wq,(w1.alloc (.map #[] 0)).alloc (.cells (tblZ wr.heap.size w1.heap.size) 82 (0,0))=Wq:=⟨_,rfl⟩;rw [hWq] at HQ HBq ⊢;obtain⟨t,ht⟩:∃ t,w1.heap.size+1=t:=⟨_,rfl⟩;obtain⟨gh,hgh⟩:∃ gh,wr.heap.size=gh:=⟨_,rfl⟩;obtain⟨m,hm⟩:∃ m,w1.heap.size=m:=⟨_,rfl⟩;have htl:w.heap.size≤t:=by omega
    rw [ht,hgh,hm] at HQ;rw [ht,hgh,hm];clear hWq ht hgh hm hs1 HT1 HB1 HB;go_loopg [33] (n+1) (fun gk s33 wr=>∃ i M:Nat,i≤n∧gk=n-i+1∧s33= .int .i64 (i:Int)∧M≤2*i∧TabQ w.heap.size wr t gh m (contQ ((l.map RtX.r).take i) M)∧(∀ j,j<((l.map RtX.r).take i).length→∀ k,k<j→clashAt ((l.map RtX.r).take i) k j=false)∧Below w.heap.size w wr)
    case atStart=>exact⟨0,0,Nat.zero_le _,rfl,rfl,Nat.le_refl _,HQ.out,fun j hj=>absurd hj (by simp),HBq.out⟩
    case round=>
     obtain⟨i,M,hi,rfl,rfl,hM,hQ,hno,hb⟩:=hrel;have HQi:=hid hQ;have HNo:=hid hno;have HBi:=hid hb;clear hQ hno hb HQ HBq;have HTi:=hid (show ((l.map RtX.r).take i).length=i from by rw [List.length_take,List.length_map,HN.out];omega);by_cases hin:i<n
     · have h1:i<l.length:=by rw [HN.out];exact hin
       obtain⟨x,hx⟩:∃ x,l[i]?=some x:=⟨_,List.getElem?_eq_getElem h1⟩;have HX:=hid hx;have hzx:=HZ.out x (List.mem_of_getElem? hx);obtain⟨g1,o1,rfl,hC⟩:=(HT.out.next HBi.out).at hx;have HMt:=hid (HT.out.ms x (List.mem_of_getElem? hx));obtain⟨q0,q1,q2,q3,q4,q5,q6,q7,q8,q9,q10,q11,q12⟩:=hC;have hck:=HEa.out x.r (List.mem_of_getElem? (map_r hx));have hsub:∀ r∈(l.map RtX.r).take i,chkR r=0∧r.ms.length≤140737488355328:=fun r hr=>by
        have hm:=List.mem_of_mem_take hr;refine⟨HEa.out r hm,?_⟩;obtain⟨y,hy,rfl⟩:=List.mem_map.1 hm;exact Nat.le_trans (HZ.out y hy).few (by decide)
       have HAd:=hid (fun (W:World) (hb:Below w.heap.size w W) (hQ:TabQ w.heap.size W t gh m (contQ ((l.map RtX.r).take i) M))=>padd_cont hQ hb.size hx0 (HMx.out.next hb) x hck (fun r hr=>(hsub r hr).1) (fun r hr=>(hsub r hr).2) HNo.out (by rw [HTi.out];omega) (by rw [HTi.out];exact hM) hzx (HMt.out.next hb));have HTw:=hid (fun (h:∃ r∈(l.map RtX.r).take i,clashR r x.r=true)=>newE_twice (l:=l.map RtX.r) (by rw [List.length_map,HN.out];omega) HEa.out (map_r hx) h);have HTk:=hid (show (l.map RtX.r).take (i+1)=(l.map RtX.r).take i++ [x.r] from by rw [List.take_add_one,map_r hx];rfl);have HA:=hid (below_new wr (.cells #[.string (str x.r.host),.string (str x.r.path),.slice x.q x.r.ms.length x.k,x.v3,x.v4,x.v5,x.v6,x.v7,x.v8,x.v9,x.v10,x.v11,x.v12] 42 (0,0)));obtain⟨s3,s5,s6,b4,q7',n7,c7,i8,i9,i10,i11,i12,e3,e4,e5,e6,e7,e8,e9,e10,e11,e12⟩:=hzx.val;rw [e3,e4,e5,e6,e7,e8,e9,e10,e11,e12] at HAd HA;rw [e3] at q3;rw [e4] at q4;rw [e5] at q5;rw [e6] at q6;rw [e7] at q7;rw [e8] at q8;rw [e9] at q9;rw [e10] at q10;rw [e11] at q11;rw [e12] at q12;obtain⟨Sh,hSh⟩:∃ S,str x.r.host=S:=⟨_,rfl⟩;obtain⟨Sp,hSp⟩:∃ S,str x.r.path=S:=⟨_,rfl⟩;rw [hSh,hSp] at HAd HA;rw [hSh] at q0;rw [hSp] at q1;clear h1 hx hzx hSh hSp e3 e4 e5 e6 e7 e8 e9 e10 e11 e12 hck hsub;go_upto_region 15 with (go_at_call 26;(with_reducible refine(HAd.out _ (below_out HBi.out HA.out) (HQi.out.next HBi.out.size HA.out)).mono ?_);rintro e w1 ⟨v,rfl,hb1,hAns⟩;have HB1:=hid ((below_out HBi.out HA.out).trans hb1);clear hb1)
       rcases hAns with ⟨hc,hev⟩|⟨hc,hev,M',hM',hQ'⟩
       · subst hev;have HC6:=hid (HTw.out hc);clear hc;go_wp2;go_ret2;exact .inl ⟨by rw [HC6.out];decide,by rw [HC6.out];rfl,HB1.out⟩
       · subst hev;have HCn:=hid hc;have HQn:=hid hQ';clear hc hQ';rw [HTi.out] at hM';go_wp2;go_roundg (n-(i+1)+1)
         case measure=>omega
         case rel=>exact⟨i+1,M',by omega,rfl,by push_cast;go_num,hM',by rw [HTk.out];exact HQn.out,by rw [HTk.out];exact clash_snoc HNo.out HCn.out,HB1.out⟩
     · obtain rfl:n=i:=by omega
       have HAll:=hid (show (l.map RtX.r).take n=l.map RtX.r from List.take_of_length_le (by rw [List.length_map,HN.out];exact Nat.le_refl _));rw [HAll.out] at HQi HNo;have HE0:=hid (show newE (l.map RtX.r)=0 from by rw [newE_none (by rw [List.length_map,HN.out];omega) HEa.out,if_neg (by rw [twice_no HNo.out];simp)]);go_wp2;go_ret2;exact .inr ⟨HE0.out,HBi.out,t,gh,m,M,rfl,htl,HQi.out⟩
end Go.Proofs.YtlmlljlappjjjaaGreatDoor
