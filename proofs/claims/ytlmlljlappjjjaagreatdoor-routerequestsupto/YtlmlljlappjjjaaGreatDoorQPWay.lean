/- The program: New. -/
import Derived.Test.YtlmlljlappjjjaaGreatDoorQNew4
namespace Go.Proofs.YtlmlljlappjjjaaGreatDoor
set_option maxRecDepth 20000
set_option maxHeartbeats 32000000
open Go.RowKit Go.Maps
abbrev tblZ (gh m:Nat):Array Value:=#[.pointer (some ⟨gh,0,none⟩),.slice none 0 0,.map (some m),.slice none 0 0]
theorem tbl_start {b0:Nat}{w1:World}{gh:Nat} (h:Tab w1 gh [] none (.slice none 0 0) (.slice none 0 0) []) (hg:b0≤gh) (hb:b0≤w1.heap.size):
  TabQ b0 ((w1.alloc (.map #[] 0)).alloc (.cells (tblZ gh w1.heap.size) 82 (0,0))) (w1.heap.size+1) gh w1.heap.size (contQ [] 0):=by
 have hgl:=lt_of_heap h.tab.bx;have hz:(w1.alloc (.map #[] 0)).heap.size=w1.heap.size+1:=by simp
 have hb1:Below w1.heap.size w1 ((w1.alloc (.map #[] 0)).alloc (.cells (tblZ gh w1.heap.size) 82 (0,0))):=below_out (below_new w1 _) (below_new _ _);have hbx:=heap_alloc_new (w1.alloc (.map #[] 0)) (.cells (tblZ gh w1.heap.size) 82 (0,0));rw [hz] at hbx;have hm:=(WayM.made w1 0).keep ((below_new (w1.alloc (.map #[] 0)) (.cells (tblZ gh w1.heap.size) 82 (0,0))).block w1.heap.size (by rw [hz];omega));refine⟨fun b=>if b=w1.heap.size+1 then .tbl else if b=w1.heap.size then .map else if b=gh then .hst else .out,.slice none 0 0,.slice none 0 0,[],fun _ _=>.slice none 0 0,[],⟨hbx,if_pos rfl,⟨_,_,_,_,h.next hb1,fun i hi=>?_⟩,OwnR.nil _ _,fun b hb=>(by cases hb),fun i b hi=>(by cases hi),hm,?_,fun i p _=>⟨OwnR.nil _ _,fun b hb=>(by cases hb)⟩,OwnR.nil _ _,fun b hb=>(by cases hb),rfl,fun x hx=>(by cases hx),fun b hb=>?_,fun b hb=>?_⟩,rfl⟩
 · rw [ft_new hi];dsimp only;rw [if_neg (by omega),if_neg (by omega),if_pos rfl]
 · rw [if_neg (by omega),if_pos rfl]
 · simp;by_cases e1:b=w1.heap.size+1
   · omega
   · by_cases e2:b=w1.heap.size
     · omega
     · by_cases e3:b=gh
       · omega
       · rw [if_neg e1,if_neg e2,if_neg e3] at hb;exact absurd rfl hb
 · by_cases e1:b=w1.heap.size+1
   · omega
   · by_cases e2:b=w1.heap.size
     · omega
     · by_cases e3:b=gh
       · omega
       · rw [if_neg e1,if_neg e2,if_neg e3] at hb;exact absurd rfl hb
theorem TabQ.next {b0:Nat}{w w':World}{t gh m:Nat}{C:QC} (h:TabQ b0 w t gh m C) (hs:b0≤w.heap.size) (hb:Below w.heap.size w w'):TabQ b0 w' t gh m C:=by
 obtain⟨O,vp,vr,ts,wv,es,hI,hl⟩:=h;exact⟨O,vp,vr,ts,wv,es,hI.next hs hb,hl⟩
def PNewAns (w:World) (l:List RtC) (e:Ending) (w':World):Prop:=
 (newE l≠0∧e= .returned (.tuple #[.pointer none,.iface 74 (.int .i64 (newE l:Int))])∧Below w.heap.size w w')∨
 (newE l=0∧Below w.heap.size w w'∧∃ t gh m M,e= .returned (.tuple #[.pointer (some ⟨t,0,none⟩),.nilIface])∧w.heap.size≤t∧TabQ w.heap.size w' t gh m (contQ l M))
theorem addC_M (C:QC) (g:Nat) (r:RtC):(addC C g r).M≤C.M+2:=by
 unfold addC;dsimp only;split <;> omega
def RtV (x:RtX):Prop:=∃ (s3 s5 s6:ByteArray) (b4:Bool) (q7:Option Addr) (n7 c7:Nat) (i8 i9 i10 i11 i12:Int),x.v3= .string s3∧x.v4= .bool b4∧x.v5= .string s5∧x.v6= .string s6∧x.v7= .slice q7 n7 c7∧x.v8= .int .i64 i8∧x.v9= .int .i64 i9∧x.v10= .int .i64 i10∧x.v11= .int .i64 i11∧x.v12= .int .i64 i12
structure RtZP (x:RtX):Prop where
 val:RtV x
 z:RtZ x
 few:x.r.ms.length≤4398046511104
 each:∀ y∈x.r.ms,y.length≤281474976710656
theorem chk_parts {r:RtC} (h:chkR r=0):(∃ x,patH r.host=some x)∧checkP r.path=true:=by
 have ha:checkN r.host=0:=by
  unfold chkR at h;split at h
  · exact h
  · rename_i h1;simpa using h1
 have hb:chkN r.path=0:=by
  unfold chkR at h;rw [if_neg (by simp [ha])] at h;split at h
  · exact h
  · rename_i h1;simpa using h1
 constructor
 · unfold checkN at ha;cases hp:patH r.host with
   |some x=>exact⟨x,rfl⟩
   |none=>rw [hp] at ha;simp at ha
 · unfold chkN at hb;cases hp:checkP r.path with
   |true=>rfl
   |false=>rw [hp] at hb;simp at hb
theorem padd_cont {b0:Nat}{w:World}{t gh m:Nat}{L:List RtC}{M:Nat} (h:TabQ b0 w t gh m (contQ L M)) (hs:b0≤w.heap.size) (hx0:0<b0) (hmx:MxAt w) (x:RtX) (hck:chkR x.r=0) (hLc:∀ r∈L,chkR r=0) (hLm:∀ r∈L,r.ms.length≤140737488355328) (hno:∀ i,i<L.length→∀ k,k<i→clashAt L k i=false) (h64:L.length<64) (hM:M≤2*L.length) (hz:RtZP x) (hT:TxAt w x.q x.r.ms):
  Calls Tryz.prog 26 #[.pointer (some ⟨t,0,none⟩),.agg #[.string (str x.r.host),.string (str x.r.path),.slice x.q x.r.ms.length x.k,x.v3,x.v4,x.v5,x.v6,x.v7,x.v8,x.v9,x.v10,x.v11,x.v12]] w fun e w'=>∃ v,e= .returned v∧Below b0 w w'∧
   (((∃ r∈L,clashR r x.r=true)∧v= .iface 74 (.int .i64 6))∨
    ((¬∃ r∈L,clashR r x.r=true)∧v= .nilIface∧∃ M',M'≤2*(L.length+1)∧TabQ b0 w' t gh m (contQ (L++ [x.r]) M'))):=by
 obtain⟨O,vp,vr,ts,wv,es,hI,hl⟩:=h;obtain⟨⟨y,hy⟩,hcp⟩:=chk_parts hck;have hgl:=grps_len L;have hel:(contQ L M).es.length=L.length:=by unfold contQ;simp
 refine(padd_any hI hs hx0 hmx x.r hy hcp hl (fun _=>Nat.lt_of_le_of_lt hgl h64) (by show (grpsR L).length≤64;omega) (by unfold contQ;dsimp only;rw [List.getElem?_eq_none (Nat.le_refl _)];rfl) (by show M≤1000;omega) (fun i=>by have:=cont_tp_len L M i;omega) (fun i p=>by have:=cont_wy_len L M i p;omega) (by rw [hel];omega) (fun i p y hy=>cont_wy_at hy) (fun y hy=>?_) x.q x.r.ms.length x.k rfl hz.few hz.each hz.z.path x.v3 x.v4 x.v5 x.v6 x.v7 x.v8 x.v9 x.v10 x.v11 x.v12 hT).mono ?_
 · obtain⟨r,hr,rfl⟩:=List.mem_map.1 (show y∈L.map fun r=>(r.path,r.ms) from hy);exact hLm r hr
 · have hh:=hit_cont L M x.r (fun r hr=>(chk_parts (hLc r hr)).2) hcp hno;rintro e w' (⟨h1,h2,h3⟩|⟨h1,h2,h3,h4⟩)
   · exact⟨_,h2,h3,.inl ⟨hh.1 h1,rfl⟩⟩
   · refine⟨_,h2,h3,.inr ⟨fun hc=>?_,rfl,(addC (contQ L M) ((grpA (grpsR L) (lowH x.r.host)).idxOf (lowH x.r.host)) x.r).M,?_,?_⟩⟩
     · rw [show (contQ L M).gs=grpsR L from rfl,hh.2 hc] at h1;cases h1
     · have:=addC_M (contQ L M) ((grpA (grpsR L) (lowH x.r.host)).idxOf (lowH x.r.host)) x.r;rw [show (contQ L M).M=M from rfl] at this;omega
     · rw [←addC_cont L M x.r];exact h4
theorem clash_snoc {L:List RtC}{r:RtC} (hno:∀ i,i<L.length→∀ k,k<i→clashAt L k i=false) (hr:¬∃ x∈L,clashR x r=true):∀ i,i<(L++ [r]).length→∀ k,k<i→clashAt (L++ [r]) k i=false:=by
 intro i hi k hk;rw [List.length_append] at hi;have hi:i<L.length+1:=hi;unfold clashAt;rw [List.getElem?_append_left (show k<L.length by omega)];rcases Nat.lt_or_ge i L.length with h1|h1
 · rw [List.getElem?_append_left h1];exact hno i h1 k hk
 · have h2:i=L.length:=by omega
   subst h2;rw [List.getElem?_append_right (Nat.le_refl _),Nat.sub_self,List.getElem?_eq_getElem (show k<L.length by omega)];show clashR _ _=false;rw [←Bool.not_eq_true];exact fun h=>hr ⟨_,List.getElem_mem _,h⟩
theorem newE_twice {l:List RtC} (h64:l.length≤64) (hc:∀ x∈l,chkR x=0) {i:Nat}{r:RtC} (hi:l[i]?=some r) (h:∃ x∈l.take i,clashR x r=true):newE l=6:=by
 rw [newE_none h64 hc,if_pos];obtain⟨x,hx,h1⟩:=h;obtain⟨k,hk⟩:=List.mem_iff_getElem?.1 hx;have hki:k<i:=by
  have:=(List.getElem?_eq_some_iff.1 hk).1;rw [List.length_take] at this;omega
 refine twice_yes (i:=i) (k:=k) (List.getElem?_eq_some_iff.1 hi).1 hki ?_;unfold clashAt;rw [List.getElem?_take,if_pos hki] at hk;rw [hk,hi];exact h1
theorem pnew_any (l:List RtX) (p:Option Addr) (n c:Nat) (hn:l.length=n) (hz:∀ x∈l,RtZP x) (w:World) (hmx:MxAt w) (hT:RtsAt w p l):Calls Tryz.prog 9 #[.slice p n c] w fun e w'=>PNewAns w (l.map RtX.r) e w':=by
 have hx0:0<w.heap.size:=by obtain⟨q,hq⟩:=hmx;exact lt_of_cell hq
 by_cases h64:64<n
 · have hE:newE (l.map RtX.r)=9:=newE_long (by rw [List.length_map];omega);have HFin:=hid (show PNewAns w (l.map RtX.r) (.returned (.tuple #[.pointer none,.iface 74 (.int .i64 9)])) w from .inl ⟨by rw [hE];decide,by rw [hE];rfl,Below.refl _ _⟩);have h64':(64:Int)<(n:Int):=by omega
   clear hE hT hz hn hmx;go_enter Tryz.func9,Tryz.ntmps9;go_wp2;go_ret2;exact HFin.out
 have h64':¬(64:Int)<(n:Int):=by omega
 have HN:=hid hn;have HT:=hid hT;have HZ:=hid hz;have HMx:=hid hmx;have HHn:=hid (fun W:World=>new_any W);have hmm:=@run_makeMap Tryz.prog;clear hn hT hz hmx;go_enter Tryz.func9,Tryz.ntmps9;go_wp2;go_loopg [17] (n+1) (fun gk s17 wr=>∃ i:Nat,i≤n∧gk=n-i+1∧s17= .int .i64 (i:Int)∧(∀ z∈(l.map RtX.r).take i,chkR z=0)∧Below w.heap.size w wr)
 case atStart=>exact⟨0,by omega,rfl,rfl,by simp,Below.refl _ _⟩
 case round=>
  obtain⟨i,hi,rfl,rfl,hE,hb⟩:=hrel;have HE:=hid hE;have HB:=hid hb;clear hE hb;by_cases hin:i<n
  · have h1:i<l.length:=by rw [HN.out];exact hin
    obtain⟨x,hx⟩:∃ x,l[i]?=some x:=⟨_,List.getElem?_eq_getElem h1⟩;have HX:=hid hx;have hzx:=HZ.out x (List.mem_of_getElem? hx);obtain⟨g1,o1,rfl,hC⟩:=(HT.out.next HB.out).at hx;have HMt:=hid (HT.out.ms x (List.mem_of_getElem? hx));obtain⟨q0,q1,q2,q3,q4,q5,q6,q7,q8,q9,q10,q11,q12⟩:=hC;have HCk:=hid (fun (W:World) (hb:Below w.heap.size w W)=>pchk_any x.r x.q x.r.ms.length x.k rfl hzx.z.cap hzx.z.each (Nat.le_trans hzx.few (by decide)) (Nat.le_trans hzx.z.host (by decide)) hzx.z.path x.v3 x.v4 x.v5 x.v6 x.v7 x.v8 x.v9 x.v10 x.v11 x.v12 W (HMx.out.next hb) (HMt.out.next hb));have HVx:=hid (fun (hb:chkR x.r≠0)=>newE_bad (l:=l.map RtX.r) (by rw [List.length_map,HN.out];omega) (map_r HX.out) hb HE.out);have HNx:=hid (fun (h0:chkR x.r=0)=>all_next HE.out (map_r HX.out) h0);have HA:=hid (below_new wr (.cells #[.string (str x.r.host),.string (str x.r.path),.slice x.q x.r.ms.length x.k,x.v3,x.v4,x.v5,x.v6,x.v7,x.v8,x.v9,x.v10,x.v11,x.v12] 42 (0,0)));obtain⟨s3,s5,s6,b4,q7',n7,c7,i8,i9,i10,i11,i12,e3,e4,e5,e6,e7,e8,e9,e10,e11,e12⟩:=hzx.val;rw [e3,e4,e5,e6,e7,e8,e9,e10,e11,e12] at HCk HA;rw [e3] at q3;rw [e4] at q4;rw [e5] at q5;rw [e6] at q6;rw [e7] at q7;rw [e8] at q8;rw [e9] at q9;rw [e10] at q10;rw [e11] at q11;rw [e12] at q12;obtain⟨e,he⟩:∃ e,chkR x.r=e:=⟨_,rfl⟩;have HEq:=hid he;rw [he] at HCk;obtain⟨Sh,hSh⟩:∃ S,str x.r.host=S:=⟨_,rfl⟩;obtain⟨Sp,hSp⟩:∃ S,str x.r.path=S:=⟨_,rfl⟩;rw [hSh,hSp] at HCk HA;rw [hSh] at q0;rw [hSp] at q1;clear h1 hx hzx he hSh hSp e3 e4 e5 e6 e7 e8 e9 e10 e11 e12;by_cases h0:e=0
    · subst h0;have HNy:=hid (HNx.out HEq.out);rw [show errOf 0= .nilIface from rfl] at HCk;go_wp2_with (go_at_call 24;(with_reducible refine(HCk.out _ (below_out HB.out HA.out)).mono ?_);rintro e w1 ⟨rfl,hb1⟩;have HB1:=hid (below_out (below_out HB.out HA.out) hb1);clear hb1);go_roundg (n-(i+1)+1)
      case measure=>omega
      case rel=>exact⟨i+1,by omega,rfl,by push_cast;go_num,HNy.out,HB1.out⟩
    · rw [errOf_ne h0] at HCk;have HV:=hid (HVx.out (by rw [HEq.out];exact h0));go_wp2_with (go_at_call 24;(with_reducible refine(HCk.out _ (below_out HB.out HA.out)).mono ?_);rintro e w1 ⟨rfl,hb1⟩;have HB1:=hid (below_out (below_out HB.out HA.out) hb1);clear hb1);go_ret2;exact .inl ⟨by rw [HV.out,HEq.out];exact h0,by rw [HV.out,HEq.out];rfl,HB1.out⟩
  · obtain rfl:n=i:=by omega
    have HEa:=hid (show ∀ z∈l.map RtX.r,chkR z=0 from by
     have h9:=HE.out;rw [show n=(l.map RtX.r).length by rw [List.length_map,HN.out],List.take_length] at h9;exact h9)
    clear HE;go_wp2_with (go_at_call 25;(with_reducible refine(HHn.out wr).mono ?_);rintro e w1 ⟨rfl,hT1,hb1⟩;have HT1:=hid hT1;have HB1:=hid (below_out HB.out hb1);clear hT1 hb1);have hs1:=HB1.out.size;have HQ:=hid (tbl_start HT1.out HB.out.size HB1.out.size);have HBq:=hid (below_out (below_out HB1.out (below_new w1 (.map #[] 0))) (below_new _ (.cells (tblZ wr.heap.size w1.heap.size) 82 (0,0))));obtain⟨Wq,hWq⟩:∃ Wq,(w1.alloc (.map #[] 0)).alloc (.cells (tblZ wr.heap.size w1.heap.size) 82 (0,0))=Wq:=⟨_,rfl⟩;rw [hWq] at HQ HBq ⊢;obtain⟨t,ht⟩:∃ t,w1.heap.size+1=t:=⟨_,rfl⟩;obtain⟨gh,hgh⟩:∃ gh,wr.heap.size=gh:=⟨_,rfl⟩;obtain⟨m,hm⟩:∃ m,w1.heap.size=m:=⟨_,rfl⟩;have htl:w.heap.size≤t:=by omega
    rw [ht,hgh,hm] at HQ;rw [ht,hgh,hm];clear hWq ht hgh hm hs1 HT1 HB1 HB;go_loopg [33] (n+1) (fun gk s33 wr=>∃ i M:Nat,i≤n∧gk=n-i+1∧s33= .int .i64 (i:Int)∧M≤2*i∧TabQ w.heap.size wr t gh m (contQ ((l.map RtX.r).take i) M)∧(∀ j,j<((l.map RtX.r).take i).length→∀ k,k<j→clashAt ((l.map RtX.r).take i) k j=false)∧Below w.heap.size w wr)
    case atStart=>exact⟨0,0,Nat.zero_le _,rfl,rfl,Nat.le_refl _,HQ.out,fun j hj=>absurd hj (by simp),HBq.out⟩
    case round=>
     obtain⟨i,M,hi,rfl,rfl,hM,hQ,hno,hb⟩:=hrel;have HQi:=hid hQ;have HNo:=hid hno;have HBi:=hid hb;clear hQ hno hb HQ HBq;have HTi:=hid (show ((l.map RtX.r).take i).length=i from by rw [List.length_take,List.length_map,HN.out];omega);by_cases hin:i<n
     · have h1:i<l.length:=by rw [HN.out];exact hin
       obtain⟨x,hx⟩:∃ x,l[i]?=some x:=⟨_,List.getElem?_eq_getElem h1⟩;have HX:=hid hx;have hzx:=HZ.out x (List.mem_of_getElem? hx);obtain⟨g1,o1,rfl,hC⟩:=(HT.out.next HBi.out).at hx;have HMt:=hid (HT.out.ms x (List.mem_of_getElem? hx));obtain⟨q0,q1,q2,q3,q4,q5,q6,q7,q8,q9,q10,q11,q12⟩:=hC;have hck:=HEa.out x.r (List.mem_of_getElem? (map_r hx));have hsub:∀ r∈(l.map RtX.r).take i,chkR r=0∧r.ms.length≤140737488355328:=fun r hr=>by
        have hm:=List.mem_of_mem_take hr;refine⟨HEa.out r hm,?_⟩;obtain⟨y,hy,rfl⟩:=List.mem_map.1 hm;exact Nat.le_trans (HZ.out y hy).few (by decide)
       have HAd:=hid (fun (W:World) (hb:Below w.heap.size w W) (hQ:TabQ w.heap.size W t gh m (contQ ((l.map RtX.r).take i) M))=>padd_cont hQ hb.size hx0 (HMx.out.next hb) x hck (fun r hr=>(hsub r hr).1) (fun r hr=>(hsub r hr).2) HNo.out (by rw [HTi.out];omega) (by rw [HTi.out];exact hM) hzx (HMt.out.next hb));have HTw:=hid (fun (h:∃ r∈(l.map RtX.r).take i,clashR r x.r=true)=>newE_twice (l:=l.map RtX.r) (by rw [List.length_map,HN.out];omega) HEa.out (map_r hx) h);have HTk:=hid (show (l.map RtX.r).take (i+1)=(l.map RtX.r).take i++ [x.r] from by rw [List.take_add_one,map_r hx];rfl);have HA:=hid (below_new wr (.cells #[.string (str x.r.host),.string (str x.r.path),.slice x.q x.r.ms.length x.k,x.v3,x.v4,x.v5,x.v6,x.v7,x.v8,x.v9,x.v10,x.v11,x.v12] 42 (0,0)));obtain⟨s3,s5,s6,b4,q7',n7,c7,i8,i9,i10,i11,i12,e3,e4,e5,e6,e7,e8,e9,e10,e11,e12⟩:=hzx.val;rw [e3,e4,e5,e6,e7,e8,e9,e10,e11,e12] at HAd HA;rw [e3] at q3;rw [e4] at q4;rw [e5] at q5;rw [e6] at q6;rw [e7] at q7;rw [e8] at q8;rw [e9] at q9;rw [e10] at q10;rw [e11] at q11;rw [e12] at q12;obtain⟨Sh,hSh⟩:∃ S,str x.r.host=S:=⟨_,rfl⟩;obtain⟨Sp,hSp⟩:∃ S,str x.r.path=S:=⟨_,rfl⟩;rw [hSh,hSp] at HAd HA;rw [hSh] at q0;rw [hSp] at q1;clear h1 hx hzx hSh hSp e3 e4 e5 e6 e7 e8 e9 e10 e11 e12 hck hsub;go_upto_region 15 with (go_at_call 26;(with_reducible refine(HAd.out _ (below_out HBi.out HA.out) (HQi.out.next HBi.out.size HA.out)).mono ?_);rintro e w1 ⟨v,rfl,hb1,hAns⟩;have HB1:=hid ((below_out HBi.out HA.out).trans hb1);clear hb1)
       rcases hAns with ⟨hc,hev⟩|⟨hc,hev,M',hM',hQ'⟩
       · subst hev;have HC6:=hid (HTw.out hc);clear hc;go_wp2;go_ret2;exact .inl ⟨by rw [HC6.out];decide,by rw [HC6.out];rfl,HB1.out⟩
       · subst hev;have HCn:=hid hc;have HQn:=hid hQ';clear hc hQ';rw [HTi.out] at hM';go_wp2;go_roundg (n-(i+1)+1)
         case measure=>omega
         case rel=>exact⟨i+1,M',by omega,rfl,by push_cast;go_num,hM',by rw [HTk.out];exact HQn.out,by rw [HTk.out];exact clash_snoc HNo.out HCn.out,HB1.out⟩
     · obtain rfl:n=i:=by omega
       have HAll:=hid (show (l.map RtX.r).take n=l.map RtX.r from List.take_of_length_le (by rw [List.length_map,HN.out];exact Nat.le_refl _));rw [HAll.out] at HQi HNo;have HE0:=hid (show newE (l.map RtX.r)=0 from by rw [newE_none (by rw [List.length_map,HN.out];omega) HEa.out,if_neg (by rw [twice_no HNo.out];simp)]);go_wp2;go_ret2;exact .inr ⟨HE0.out,HBi.out,t,gh,m,M,rfl,htl,HQi.out⟩
theorem trie_at (h:B):∀ (L:List RtC) (y:B×Int),y∈trieR L h→∃ (j:Nat) (r:RtC),y.2=(j:Int)∧L[j]?=some r∧lowH r.host=h∧r.path=y.1∧∀ (k:Nat) (u:RtC),k<j→L[k]?=some u→¬(lowH u.host=h∧u.path=y.1):=by
 refine snoc_ind (by simp [trieR]) fun L r ih y hy=>?_
 have old:y∈trieR L h→∃ (j:Nat) (x:RtC),y.2=(j:Int)∧(L++ [r])[j]?=some x∧lowH x.host=h∧x.path=y.1∧∀ (k:Nat) (u:RtC),k<j→(L++ [r])[k]?=some u→¬(lowH u.host=h∧u.path=y.1):=fun h1=>by
  obtain⟨j,x,h2,h3,h4,h5,h6⟩:=ih y h1;have hj:=(List.getElem?_eq_some_iff.1 h3).1;refine⟨j,x,h2,by rw [List.getElem?_append_left hj];exact h3,h4,h5,fun k u hk hu=>h6 k u hk ?_⟩
  rwa [List.getElem?_append_left (by omega)] at hu
 rw [trie_snoc] at hy;split at hy
 · rename_i hc
   rcases List.mem_append.1 hy with hy|hy
   · exact old hy
   · rw [List.mem_singleton] at hy;subst hy;refine⟨L.length,r,rfl,by simp,hc.1,rfl,fun k u hk hu hc2=>hc.2 ?_⟩;rw [List.getElem?_append_left hk] at hu;exact(mem_trie L h r.path).2 ⟨u,List.mem_of_getElem? hu,hc2.1,hc2.2⟩
 · exact old hy
def WayNo (L:List RtC) (host m:B) (k:Nat):Prop:=
 ((findN (idxP (grpsR L)) host).2≠0∧k=(findN (idxP (grpsR L)) host).2)∨
 ∃ (g:Nat) (h:B),findN (idxP (grpsR L)) host=((g:Int),0)∧(grpsR L)[g]?=some h∧((begB 47 m=false∧k=3)∨(begB 47 m=true∧(∀ p∈trieR L h,fitsT (cutT p.1.tail) (cutT m.tail)=none)∧k=8))
def WayYes (L:List RtC) (host m h:B) (p:B×Int) (F:List (B×B)):Prop:=
 ∃ g:Nat,findN (idxP (grpsR L)) host=((g:Int),0)∧(grpsR L)[g]?=some h∧begB 47 m=true∧p∈trieR L h∧fitsT (cutT p.1.tail) (cutT m.tail)=some F∧∀ r∈trieR L h,(fitsT (cutT r.1.tail) (cutT m.tail)).isSome=true→r=p∨betterT (cutT p.1.tail) (cutT r.1.tail)=true
def WayAns (L:List RtC) (host m:B) (w:World) (e:Ending) (w':World):Prop:=Below w.heap.size w w'∧
 ((∃ k,WayNo L host m k∧k≠0∧e= .returned (.tuple #[.slice none 0 0,.slice none 0 0,errOf k]))∨
  (∃ h p F q n c q2 d,WayYes L host m h p F∧e= .returned (.tuple #[.slice q n c,.slice q2 F.length d,.nilIface])∧OwnN w' 0 (.slice q n c) (numsR (waysR L h p.1))∧OwnF w' w.heap.size (.slice q2 F.length d) F))
theorem findN_at {gs:List B}{host:B} (h:(findN (idxP gs) host).2=0):∃ (g:Nat) (x:B),findN (idxP gs) host=((g:Int),0)∧gs[g]?=some x:=by
 unfold findN at h ⊢;cases hl:labsH false host with
 |none=>rw [hl] at h;cases h
 |some y=>
  rw [hl] at h;dsimp only at h ⊢;have hb:=best_spec y _ (idxP gs) rfl;cases hf:bestF y (idxP gs) with
  |none=>rw [hf] at h;cases h
  |some p=>
   rw [hf] at hb;obtain⟨i,h1,h2⟩:=idxP_of hb.1;exact⟨i,p.1,by dsimp only;rw [h2],h1⟩
structure RW7S (U:World) (t gr j m i:Nat) (SP:ByteArray) (vr V:Value):Prop where
 c2:U.cell? ⟨t,2,none⟩=some (.map (some m))
 c3:U.cell? ⟨t,3,none⟩=some vr
 x0:U.cell? ⟨gr,j*2,none⟩=some (.string SP)
 look:(Instr.lookup 78 (.map (some m)) (.agg #[.int .i64 (i:Int),.string SP]) false).run Tryz.prog U= .ok V U
theorem pway_any {b0:Nat}{w:World}{t gh m:Nat}{L:List RtC}{M:Nat} (h:TabQ b0 w t gh m (contQ L M)) (hs:b0≤w.heap.size) (hmx:MxAt w) (h64:L.length≤64) (hzp:∀ r∈L,r.path.length≤4398046511104) (host path:B) (hh:host.length≤9223372036854775807) (hp:path.length≤140737488355328):
  Calls Tryz.prog 31 #[.pointer (some ⟨t,0,none⟩),.string (str host),.string (str path)] w fun e w'=>WayAns L host path w e w':=by
 obtain⟨O,vp,vr,ts,wv,es,hI,hl⟩:=h;have HI:=hid hI;have HS:=hid hs;obtain⟨pp,np,cp,rfl⟩:=own_slice3 hI.pth;have hnp:np=ts.length:=row_lenH hI.pth;obtain⟨pr,nr,cr,rfl⟩:=own_slice3 hI.rts;have hnr:nr=es.length:=row_lenH hI.rts;have hel:es.length=L.length:=by
  have:=hI.esc;rw [show (contQ L M).es=L.map (fun r=>(r.path,r.ms)) from rfl] at this;have:=congrArg List.length this;simpa using this
 have hnr64:nr≤64:=by omega
 have HF:=hid (show Calls Tryz.prog 67 #[.pointer (some ⟨gh,0,none⟩),.string (str host)] w (fun e w'=>e= .returned (.tuple #[.int .i64 (findN (idxP (grpsR L)) host).1,errOf (findN (idxP (grpsR L)) host).2])∧Below w.heap.size w w') from by
  obtain⟨m1,v1,v2,L1,h1,_⟩:=hI.hst;exact find_num h1 hmx host hh)
 have HMx:=hid hmx;obtain⟨c0,c1,_,_,_⟩:=idx_cells hI.bx;have HB0:=hid (Below.refl w.heap.size w);by_cases hk:(findN (idxP (grpsR L)) host).2=0
 · obtain⟨g,hx,hfn,hgx⟩:=findN_at hk;rw [hfn] at HF;rw [show errOf 0= .nilIface from rfl] at HF;have hgl:g<ts.length:=by rw [hl];exact(List.getElem?_eq_some_iff.1 hgx).1
   obtain⟨tb,htb⟩:∃ tb,ts[g]?=some tb:=⟨_,List.getElem?_eq_getElem hgl⟩;obtain⟨gp,rfl,hpb⟩:=OwnA.cell hI.pth htb;obtain⟨Mi,_,G,es2,v2,hTr,_⟩:=hI.tri g tb htb;rw [show (contQ L M).tp g=trieR L hx from by unfold contQ;dsimp only;rw [hgx];rfl] at hTr;have HTf:=hid (fun (W:World) (hb:Below w.heap.size w W)=>find_any_r (hTr.next hb) (hmx.next hb) path hp);have hgnp:g<np:=by omega
   have HTb:=hid htb;have HFn:=hid hfn;have HGx:=hid hgx;have HPb:=hid hpb;have HEs:=hid (show es.map (fun x=>(x.path,x.ms))=L.map (fun r=>(r.path,r.ms)) from hI.esc);have HEl:=hid hel;have HNr:=hid hnr;obtain⟨SH,hSH⟩:∃ S,str host=S:=⟨_,rfl⟩;obtain⟨SM,hSM⟩:∃ S,str path=S:=⟨_,rfl⟩;rw [hSH] at HF;rw [hSM] at HTf;rw [hSH,hSM];clear hI hs hnp hnr hel hmx hk hfn hgx hgl htb hTr hSH hSM hpb c0 c1;have d0:=(idx_cells HI.out.bx).1;have HC1:=hid (fun (W:World) (hb:Below w.heap.size w W)=>cell_keep hb (idx_cells HI.out.bx).2.1);go_enter Tryz.func31,Tryz.ntmps31;go_upto_region 7 with (first|(go_at_call 67;(with_reducible refine HF.out.mono ?_);rintro e w1 ⟨rfl,hb1⟩;have HB1:=hid hb1;have d1:=HC1.out w1 hb1;have d2:=cell_keep hb1 HPb.out;clear hb1)|(go_at_call 68;(with_reducible refine(HTf.out _ HB1.out).mono ?_);rintro e w2 ⟨hb2,⟨hb,rfl⟩|⟨hb,hno,rfl⟩|⟨hb,p,F,q2,d2',hpm,hft,hbs,rfl,hof⟩⟩))
   · go_wp2;go_ret3;exact⟨below_out HB1.out hb2,.inl ⟨3,.inr ⟨g,hx,HFn.out,HGx.out,.inl ⟨hb,rfl⟩⟩,by decide,rfl⟩⟩
   · go_wp2;go_ret3;exact⟨below_out HB1.out hb2,.inl ⟨8,.inr ⟨g,hx,HFn.out,HGx.out,.inr ⟨hb,hno,rfl⟩⟩,by decide,rfl⟩⟩
   · obtain⟨j,r,hj,hr,hr1,hr2,_⟩:=trie_at hx L p hpm;have hjl:=(List.getElem?_eq_some_iff.1 hr).1;obtain⟨z,hz⟩:∃ z,es[j]?=some z:=⟨_,List.getElem?_eq_getElem (by rw [HEl.out];exact hjl)⟩;have hzp1:z.path=p.1:=by
      have h9:(es.map (fun x=>(x.path,x.ms)))[j]?=(L.map (fun r=>(r.path,r.ms)))[j]?:=by rw [HEs.out]
      rw [List.getElem?_map,List.getElem?_map,hz,hr] at h9;injection h9 with h9
      exact(congrArg Prod.fst h9).trans hr2
     have hb02:=below_out HB1.out hb2;have hI2:=HI.out.next HS.out hb02
     obtain⟨gr,rfl,z0,_⟩:=OwnE_q.cells hI2.rts hz;rw [hzp1] at z0;have hsh:shW g p.1:=⟨by have:=(List.getElem?_eq_some_iff.1 HGx.out).1;have:=grps_len L;omega,by rw [←hr2];exact hzp r (List.mem_of_getElem? hr)⟩;have hwy:=(hI2.way g p.1 hsh).1;obtain⟨q9,n9,c9,hv9⟩:=own_slice3 hwy;rw [hv9,show (contQ L M).wy g p.1=numsR (waysR L hx p.1) from by unfold contQ;dsimp only;rw [HGx.out];rfl] at hwy;have hlk:=(show WayM w2.drew m (contQ L M).M wv from hI2.map).look hsh;rw [hv9] at hlk;unfold wayV at hlk;have HW:=hid (show OwnN w2.drew 0 (.slice q9 n9 c9) (numsR (waysR L hx p.1)) from hwy);have HO:=hid (show OwnF w2.drew w.heap.size (.slice q2 F.length d2') F from hof.lowT HB1.out.size);have HYes:=hid (show WayYes L host path hx p F from⟨g,HFn.out,HGx.out,hb,hpm,hft,hbs⟩);have HB2:=hid (show Below w.heap.size w w2.drew from hb02.trans ((below_drewH w2 1).mono hb02.size));have hjn:j<nr:=by rw [HNr.out,HEl.out];exact hjl
     obtain⟨SP,hSP⟩:∃ S,str p.1=S:=⟨_,rfl⟩;rw [hSP] at z0 hlk;have hS0:RW7S w2.drew t gr j m g SP (.slice (some ⟨gr,0,none⟩) nr cr) (.slice q9 n9 c9):=⟨(idx_cells hI2.bx).2.2.1,(idx_cells hI2.bx).2.2.2.1,z0,hlk⟩;obtain⟨D,hD⟩:∃ D,w2.drew=D:=⟨_,rfl⟩;rw [hD] at HW HO HB2 hS0;rw [hj];clear hj hr hr1 hr2 hjl hz hzp1 hb02 hI2 z0 hsh hwy hv9 hlk hSP hb2 hpm hft hbs hof hb d0 d1 d2;refine wp_region_noPanic ?_;refine any_begin 19 (by kernel_rfl) (by kernel_rfl) ?_;rw [hD];refine late_begin (fun U=>RW7S U t gr j m g SP (.slice (some ⟨gr,0,none⟩) nr cr) (.slice q9 n9 c9)) (fun _=>false) hS0 (fun hS=>?_);refine ltk (i:=0) (some 41) rfl rfl (v:= ?v0a) ?hy0a hS ?rest0a
     case hy0a=>intro w0 hSw;obtain⟨a0,a1,a2,a3⟩:=hSw;go_simp;try with_reducible rfl
     simp only [Act.put,sA,sB,sC];refine ltk (i:=1) (some 42) rfl rfl (v:= ?v1a) ?hy1a hS ?rest1a
     case hy1a=>intro w0 hSw;obtain⟨a0,a1,a2,a3⟩:=hSw;go_simp;try with_reducible rfl
     simp only [Act.put,sA,sB,sC];refine ltk (i:=2) (some 43) rfl rfl (v:= ?v2a) ?hy2a hS ?rest2a
     case hy2a=>intro w0 hSw;obtain⟨a0,a1,a2,a3⟩:=hSw;go_simp;try with_reducible rfl
     simp only [Act.put,sA,sB,sC];refine ltk (i:=3) (some 44) rfl rfl (v:= ?v3a) ?hy3a hS ?rest3a
     case hy3a=>intro w0 hSw;obtain⟨a0,a1,a2,a3⟩:=hSw;go_simp;try with_reducible rfl
     simp only [Act.put,sA,sB,sC];refine ltk (i:=4) (some 45) rfl rfl (v:= ?v4a) ?hy4a hS ?rest4a
     case hy4a=>intro w0 hSw;obtain⟨a0,a1,a2,a3⟩:=hSw;go_simp;try with_reducible rfl
     simp only [Act.put,sA,sB,sC];refine ltk (i:=5) (some 46) rfl rfl (v:= ?v5a) ?hy5a hS ?rest5a
     case hy5a=>intro w0 hSw;obtain⟨a0,a1,a2,a3⟩:=hSw;go_simp;try with_reducible rfl
     simp only [Act.put,sA,sB,sC];refine ltk (i:=6) (some 47) rfl rfl (v:= ?v6a) ?hy6a hS ?rest6a
     case hy6a=>intro w0 hSw;obtain⟨a0,a1,a2,a3⟩:=hSw;go_simp;try with_reducible rfl
     simp only [Act.put,sA,sB,sC];refine ltk (i:=7) (some 48) rfl rfl (v:= ?v7a) ?hy7a hS ?rest7a
     case hy7a=>intro w0 hSw;obtain⟨a0,a1,a2,a3⟩:=hSw;go_simp;try with_reducible rfl
     simp only [Act.put,sA,sB,sC];refine ltk (i:=8) (some 49) rfl rfl (v:= ?v8a) ?hy8a hS ?rest8a
     case hy8a=>intro w0 hSw;obtain⟨a0,a1,a2,a3⟩:=hSw;go_simp;try with_reducible rfl
     simp only [Act.put,sA,sB,sC];refine ltk (i:=9) (some 50) rfl rfl (v:= ?v9a) ?hy9a hS ?rest9a
     case hy9a=>intro w0 hSw;obtain⟨a0,a1,a2,a3⟩:=hSw;go_simp;try with_reducible rfl
     simp only [Act.put,sA,sB,sC];refine ltk (i:=10) (some 51) rfl rfl (v:= ?v10a) ?hy10a hS ?rest10a
     case hy10a=>intro w0 hSw;obtain⟨a0,a1,a2,a3⟩:=hSw;go_simp;try with_reducible rfl
     simp only [Act.put,sA,sB,sC];refine ltk (i:=11) (some 52) rfl rfl (v:= ?v11a) ?hy11a hS ?rest11a
     case hy11a=>intro w0 hSw;obtain⟨a0,a1,a2,a3⟩:=hSw;go_simp;try with_reducible rfl
     simp only [Act.put,sA,sB,sC];refine ltk (i:=12) (some 53) rfl rfl (v:= ?v12a) ?hy12a hS ?rest12a
     case hy12a=>intro w0 hSw;obtain⟨a0,a1,a2,a3⟩:=hSw;go_simp;try with_reducible rfl
     simp only [Act.put,sA,sB,sC];refine ltk (i:=13) (some 54) rfl rfl (v:= ?v13a) ?hy13a hS ?rest13a
     case hy13a=>intro w0 hSw;obtain⟨a0,a1,a2,a3⟩:=hSw;go_simp;try with_reducible rfl
     simp only [Act.put,sA,sB,sC];refine late_take (i:=14) (some 55) rfl rfl (by kernel_rfl) (by kernel_rfl) (by kernel_rfl) (by kernel_rfl) (by kernel_rfl) (fun _ _ _ h=>h) (by rfl) (v:=.slice q9 n9 c9) ?hy14a hS ?rest14a
     case hy14a=>intro w0 hSw;exact exec_lookup rfl rfl rfl hSw.look
     simp only [Act.put,sA,sB,sC];refine ltk (i:=15) (some 56) rfl rfl (v:= ?v15a) ?hy15a hS ?rest15a
     case hy15a=>intro w0 hSw;obtain⟨a0,a1,a2,a3⟩:=hSw;go_simp;try with_reducible rfl
     simp only [Act.put,sA,sB,sC];refine ltk (i:=16) (some 6) rfl rfl (v:= ?v16a) ?hy16a hS ?rest16a
     case hy16a=>intro w0 hSw;obtain⟨a0,a1,a2,a3⟩:=hSw;go_simp;try with_reducible rfl
     simp only [Act.put,sA,sB,sC];refine ltk (i:=17) (some 7) rfl rfl (v:= ?v17a) ?hy17a hS ?rest17a
     case hy17a=>intro w0 hSw;obtain⟨a0,a1,a2,a3⟩:=hSw;go_simp;try with_reducible rfl
     simp only [Act.put,sA,sB,sC];refine ltk (i:=18) (some 8) rfl rfl (v:= ?v18a) ?hy18a hS ?rest18a
     case hy18a=>intro w0 hSw;obtain⟨a0,a1,a2,a3⟩:=hSw;go_simp;try with_reducible rfl
     simp only [Act.put,sA,sB,sC];refine late_done (by kernel_rfl) ?_ _;refine NoPanic.normal ?_;go_wp2;go_ret3;exact⟨HB2.out,.inr ⟨hx,p,F,q9,n9,c9,q2,d2',HYes.out,rfl,HW.out,HO.out⟩⟩
 · have HNo:=hid (show WayNo L host path (findN (idxP (grpsR L)) host).2 from .inl ⟨hk,rfl⟩);have HK:=hid hk;obtain⟨k,hkk⟩:∃ k,(findN (idxP (grpsR L)) host).2=k:=⟨_,rfl⟩;obtain⟨v,hvv⟩:∃ v,(findN (idxP (grpsR L)) host).1=v:=⟨_,rfl⟩;rw [hkk] at HF HNo HK;rw [hvv] at HF;rw [errOf_ne HK.out] at HF;have HEr:=hid (errOf_ne HK.out);obtain⟨SH,hSH⟩:∃ S,str host=S:=⟨_,rfl⟩;obtain⟨SM,hSM⟩:∃ S,str path=S:=⟨_,rfl⟩;rw [hSH] at HF;rw [hSH,hSM];clear hI hs hnp hnr hel hmx hk hkk hvv hSH hSM c1;go_enter Tryz.func31,Tryz.ntmps31;go_wp2_with (go_at_call 67;(with_reducible refine HF.out.mono ?_);rintro e w1 ⟨rfl,hb1⟩;have HB1:=hid hb1;clear hb1);go_ret3;exact⟨HB1.out,.inl ⟨k,HNo.out,HK.out,by rw [HEr.out];rfl⟩⟩
end Go.Proofs.YtlmlljlappjjjaaGreatDoor
