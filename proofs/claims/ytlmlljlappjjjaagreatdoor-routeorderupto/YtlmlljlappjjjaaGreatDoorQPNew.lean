/- What a table holds of a list of routes; one more route. -/
import Derived.Test.YtlmlljlappjjjaaGreatDoorQAdd
import Derived.Laws.CopyOwn
namespace Go.Proofs.YtlmlljlappjjjaaGreatDoor
open Go.RowKit
def numsR (l:List Nat):List Int:=l.map fun k:Nat=>(k:Int)
def contQ (L:List RtC) (M:Nat):QC where
 gs:=grpsR L
 tp:=fun i=>((grpsR L)[i]?.map fun h=>trieR L h).getD []
 wy:=fun i p=>((grpsR L)[i]?.map fun h=>numsR (waysR L h p)).getD []
 es:=L.map fun r=>(r.path,r.ms)
 M:=M
theorem trie_out {L:List RtC}{h:B} (hn:h∉grpsR L):trieR L h= []:=by
 refine List.eq_nil_iff_forall_not_mem.2 fun y hy=>hn ?_
 obtain⟨r,h1,h2,_⟩:=(mem_trie L h y.1).1 ⟨y,hy,rfl⟩;exact(mem_grps L h).2 ⟨r,h1,h2⟩
theorem ways_out {L:List RtC}{h p:B} (hn:h∉grpsR L):waysR L h p= []:=by
 refine List.eq_nil_iff_forall_not_mem.2 fun i hi=>hn ?_
 obtain⟨r,h1,h2,_⟩:=(mem_ways h p L i).1 hi;exact(mem_grps L h).2 ⟨r,List.mem_of_getElem? h1,h2⟩
theorem grps_add (L:List RtC) (r:RtC):grpsR (L++ [r])=grpA (grpsR L) (lowH r.host):=by
 rw [grps_snoc];rfl
theorem grpA_in {G:List B}{h:B} (hm:h∈G):grpA G h=G:=if_pos hm
theorem grpA_out {G:List B}{h:B} (hm:h∉G):grpA G h=G++ [h]:=if_neg hm
theorem cont_at (L:List RtC) (M:Nat) (h p:B):(contQ L M).tp ((grpA (grpsR L) h).idxOf h)=trieR L h∧(contQ L M).wy ((grpA (grpsR L) h).idxOf h) p=numsR (waysR L h p):=by
 by_cases hm:h∈grpsR L
 · have e:(grpsR L)[(grpA (grpsR L) h).idxOf h]?=some h:=by
    have:=grpA_at (grpsR L) h;rw [grpA_in hm] at this ⊢;exact this
   unfold contQ;dsimp only;rw [e];exact⟨rfl,rfl⟩
 · rw [grp_new hm,trie_out hm,ways_out hm];unfold contQ;dsimp only;rw [List.getElem?_eq_none (Nat.le_refl _)];exact⟨rfl,rfl⟩
theorem grp_other {G:List B} (hd:G.Nodup) {h:B}{i:Nat} (hi:i≠(grpA G h).idxOf h):(grpA G h)[i]?=G[i]? ∧G[i]? ≠some h:=by
 by_cases hm:h∈G
 · rw [grpA_in hm] at hi ⊢;refine⟨rfl,fun e=>hi ?_⟩;have h1:=List.getElem?_eq_getElem (List.idxOf_lt_length_of_mem hm);rw [List.getElem_idxOf] at h1;exact(List.getElem?_inj (List.getElem?_eq_some_iff.1 e).1 hd).1 (e.trans h1.symm)
 · rw [grp_new hm] at hi;rw [grpA_out hm];refine⟨?_,fun e=>hm (List.mem_of_getElem? e)⟩;rcases Nat.lt_or_ge i G.length with hl|hl
   · rw [List.getElem?_append_left hl]
   · rw [List.getElem?_eq_none hl,List.getElem?_eq_none (by rw [List.length_append];simp;omega)]
theorem nums_nil {l:List Nat}:numsR l= []↔l= []:=by
 unfold numsR;simp
theorem ways_trie {L:List RtC}{h p:B}:waysR L h p= []↔¬∃ y∈trieR L h,y.1=p:=by
 rw [mem_trie];constructor
 · rintro e ⟨r,h1,h2,h3⟩;obtain⟨i,hi⟩:=List.mem_iff_getElem?.1 h1;have:=(mem_ways h p L i).2 ⟨r,hi,h2,h3⟩;rw [e] at this;cases this
 · intro hn;refine List.eq_nil_iff_forall_not_mem.2 fun i hi=>hn ?_
   obtain⟨r,h1,h2,h3⟩:=(mem_ways h p L i).1 hi;exact⟨r,List.mem_of_getElem? h1,h2,h3⟩
theorem addC_cont (L:List RtC) (M:Nat) (r:RtC):addC (contQ L M) ((grpA (grpsR L) (lowH r.host)).idxOf (lowH r.host)) r=contQ (L++ [r]) (addC (contQ L M) ((grpA (grpsR L) (lowH r.host)).idxOf (lowH r.host)) r).M:=by
 obtain⟨c1,c2⟩:=cont_at L M (lowH r.host) r.path;have hga:=grpA_at (grpsR L) (lowH r.host);have hot:=fun i=>@grp_other (grpsR L) (nodup_grps L) (lowH r.host) i
 obtain⟨g,hg⟩:∃ g,(grpA (grpsR L) (lowH r.host)).idxOf (lowH r.host)=g:=⟨_,rfl⟩;rw [hg] at c1 c2 hga hot ⊢;have hes:(contQ L M).es.length=L.length:=by unfold contQ;simp
 unfold addC;rw [QC.mk.injEq];refine⟨(grps_add L r).symm,?_,?_,?_,rfl⟩
 · funext i;rw [show (contQ (L++ [r]) _).tp i=((grpA (grpsR L) (lowH r.host))[i]?.map fun h=>trieR (L++ [r]) h).getD [] from by unfold contQ;dsimp only;rw [grps_add]];by_cases e:i=g
   · subst e;rw [hga,c1,c2,hes];show _=trieR (L++ [r]) (lowH r.host);rw [trie_snoc];by_cases hw:waysR L (lowH r.host) r.path= []
     · rw [if_pos (nums_nil.2 hw),if_pos rfl,if_pos ⟨rfl,ways_trie.1 hw⟩]
     · rw [if_neg (fun h=>hw (nums_nil.1 h)),if_neg (fun h=>hw (ways_trie.2 h.2))];exact c1
   · obtain⟨h1,h2⟩:=hot i e;rw [h1];have e1:(if (contQ L M).wy g r.path= [] then (fun j=>if j=g then (contQ L M).tp g++ [(r.path,((contQ L M).es.length:Int))] else (contQ L M).tp j) else (contQ L M).tp) i=(contQ L M).tp i:=by
      split
      · dsimp only;rw [if_neg e]
      · rfl
     rw [e1];unfold contQ;dsimp only;cases hx:(grpsR L)[i]? with
     |none=>rfl
     |some k=>
      show trieR L k=trieR (L++ [r]) k;rw [trie_snoc,if_neg (fun h=>h2 (by rw [hx,h.1]))]
 · funext i p;rw [show (contQ (L++ [r]) _).wy i p=((grpA (grpsR L) (lowH r.host))[i]?.map fun h=>numsR (waysR (L++ [r]) h p)).getD [] from by unfold contQ;dsimp only;rw [grps_add]];by_cases e:i=g
   · subst e;rw [hga];show _=numsR (waysR (L++ [r]) (lowH r.host) p);rw [ways_snoc];by_cases hp:p=r.path
     · subst hp;rw [if_pos ⟨rfl,rfl⟩,if_pos ⟨rfl,rfl⟩,c2,hes];unfold numsR;rw [List.map_append];rfl
     · rw [if_neg (fun h=>hp h.2),if_neg (fun h=>hp h.2.symm),List.append_nil];have:=(cont_at L M (lowH r.host) p).2;rw [hg] at this;exact this
   · obtain⟨h1,h2⟩:=hot i e;rw [h1,if_neg (fun h=>e h.1)];unfold contQ;dsimp only;cases hx:(grpsR L)[i]? with
     |none=>rfl
     |some k=>
      show numsR (waysR L k p)=numsR (waysR (L++ [r]) k p);rw [ways_snoc,if_neg (fun h=>h2 (by rw [hx,h.1])),List.append_nil]
 · unfold contQ;dsimp only;rw [List.map_append];rfl
theorem hit_cont (L:List RtC) (M:Nat) (r:RtC) (hL:∀ x∈L,checkP x.path=true) (hr:checkP r.path=true) (hno:∀ i,i<L.length→∀ k,k<i→clashAt L k i=false):
  addHit (contQ L M) ((grpA (grpsR L) (lowH r.host)).idxOf (lowH r.host)) r=true↔∃ x∈L,clashR x r=true:=by
 rw [add_clash L r hL hr hno];obtain⟨c1,c2⟩:=cont_at L M (lowH r.host) r.path;unfold addHit;rw [c1,c2];by_cases hw:waysR L (lowH r.host) r.path= []
 · rw [if_pos (nums_nil.2 hw),if_pos hw,decide_eq_true_iff]
 · rw [if_neg (fun h=>hw (nums_nil.1 h)),if_neg hw];unfold hitW numsR;rw [List.any_map,List.any_eq_true];have hat:∀ (i:Nat) (x:RtC),L[i]?=some x→hit1 (contQ L M).es r.ms (i:Int)=meetR r.ms x.ms:=fun i x hx=>by
    unfold hit1 contQ;dsimp only;rw [show ((i:Int)).toNat=i from rfl,List.getElem?_map,hx];rfl
   constructor
   · rintro ⟨i,hi,h1⟩;obtain⟨x,hx,_⟩:=(mem_ways _ _ L i).1 hi;refine⟨i,hi,x,hx,?_⟩;rw [←hat i x hx];exact h1
   · rintro ⟨i,hi,x,hx,h1⟩;refine⟨i,hi,?_⟩;show hit1 _ _ _=true;rw [hat i x hx];exact h1
theorem trie_len (h:B):∀ L:List RtC,(trieR L h).length≤L.length:=by
 refine snoc_ind (by simp [trieR]) fun L r ih=>?_
 rw [trie_snoc];split
 · rw [List.length_append,List.length_append];simp;exact ih
 · rw [List.length_append];omega
theorem grps_len:∀ L:List RtC,(grpsR L).length≤L.length:=by
 refine snoc_ind (by simp [grpsR]) fun L r ih=>?_
 rw [grps_snoc];split
 · rw [List.length_append];omega
 · rw [List.length_append,List.length_append];simp;exact ih
theorem ways_len (h p:B):∀ L:List RtC,(waysR L h p).length≤L.length:=by
 refine snoc_ind (by simp [waysR]) fun L r ih=>?_
 rw [ways_snoc,List.length_append,List.length_append];split <;> simp <;> omega
theorem cont_tp_len (L:List RtC) (M i:Nat):((contQ L M).tp i).length≤L.length:=by
 unfold contQ;dsimp only;cases (grpsR L)[i]? with
 |none=>exact Nat.zero_le _
 |some h=>exact trie_len h L
theorem cont_wy_len (L:List RtC) (M i:Nat) (p:B):((contQ L M).wy i p).length≤L.length:=by
 unfold contQ;dsimp only;cases (grpsR L)[i]? with
 |none=>exact Nat.zero_le _
 |some h=>
  show (numsR _).length≤_;unfold numsR;rw [List.length_map];exact ways_len h p L
theorem cont_wy_at {L:List RtC}{M i:Nat}{p:B}{y:Int} (hy:y∈(contQ L M).wy i p):∃ k:Nat,y=(k:Int)∧k<(contQ L M).es.length:=by
 unfold contQ at hy ⊢;dsimp only at hy ⊢;rw [List.length_map];cases hx:(grpsR L)[i]? with
 |none=>rw [hx] at hy;cases hy
 |some h=>
  rw [hx] at hy;obtain⟨k,hk,rfl⟩:=List.mem_map.1 (show y∈numsR (waysR L h p) from hy);obtain⟨r,hr,_⟩:=(mem_ways h p L k).1 hk;exact⟨k,rfl,(List.getElem?_eq_some_iff.1 hr).1⟩
open Go.RowKit Go.Maps
abbrev tblZ (gh m:Nat):Array Value:=#[.pointer (some ⟨gh,0,none⟩),.slice none 0 0,.map (some m),.slice none 0 0]
theorem tbl_start {b0:Nat}{w1:World}{gh:Nat} (h:Tab w1 gh [] none (.slice none 0 0) (.slice none 0 0) []) (hg:b0≤gh) (hb:b0≤w1.heap.size):
  TabQ b0 ((w1.alloc (.map #[] 0)).alloc (.cells (tblZ gh w1.heap.size) 82 (0,0))) (w1.heap.size+1) gh w1.heap.size (contQ [] 0):=by
 have hgl:=lt_of_heap h.tab.bx;have hz:(w1.alloc (.map #[] 0)).heap.size=w1.heap.size+1:=by simp
 have hb1:Below w1.heap.size w1 ((w1.alloc (.map #[] 0)).alloc (.cells (tblZ gh w1.heap.size) 82 (0,0))):=below_out (below_new w1 _) (below_new _ _);have hbx:=heap_alloc_new (w1.alloc (.map #[] 0)) (.cells (tblZ gh w1.heap.size) 82 (0,0));rw [hz] at hbx;have hm:=(WayM.made w1 0).keep ((below_new (w1.alloc (.map #[] 0)) (.cells (tblZ gh w1.heap.size) 82 (0,0))).block w1.heap.size (by rw [hz];omega));refine⟨fun b=>if b=w1.heap.size+1 then .tbl else if b=w1.heap.size then .map else if b=gh then .hst else .out,.slice none 0 0,.slice none 0 0,[],fun _ _=>.slice none 0 0,[],⟨hbx,if_pos rfl,⟨_,_,_,_,h.next hb1,fun i hi=>?_⟩,OwnR.nil _ _,fun b hb=>(by cases hb),fun i b hi=>(by cases hi),hm,?_,fun i p _=>⟨OwnR.nil _ _,fun b hb=>(by cases hb)⟩,OwnR.nil _ _,fun b hb=>(by cases hb),rfl,fun x hx=>(by cases hx),fun b hb=>?_,fun b hb=>?_⟩,rfl⟩
 · rw [ft_new hi];dsimp only;rw [if_neg (by omega),if_neg (by omega),if_pos rfl]
 · rw [if_neg (by omega),if_pos rfl]
 · simp;by_cases e1:b=w1.heap.size+1
   · omega
   · by_cases e2:b=w1.heap.size
     · omega
     · by_cases e3:b=gh
       · omega
       · rw [if_neg e1,if_neg e2,if_neg e3] at hb;exact absurd rfl hb
 · by_cases e1:b=w1.heap.size+1
   · omega
   · by_cases e2:b=w1.heap.size
     · omega
     · by_cases e3:b=gh
       · omega
       · rw [if_neg e1,if_neg e2,if_neg e3] at hb;exact absurd rfl hb
theorem TabQ.next {b0:Nat}{w w':World}{t gh m:Nat}{C:QC} (h:TabQ b0 w t gh m C) (hs:b0≤w.heap.size) (hb:Below w.heap.size w w'):TabQ b0 w' t gh m C:=by
 obtain⟨O,vp,vr,ts,wv,es,hI,hl⟩:=h;exact⟨O,vp,vr,ts,wv,es,hI.next hs hb,hl⟩
def PNewAns (w:World) (l:List RtC) (e:Ending) (w':World):Prop:=
 (newE l≠0∧e= .returned (.tuple #[.pointer none,.iface 74 (.int .i64 (newE l:Int))])∧Below w.heap.size w w')∨
 (newE l=0∧Below w.heap.size w w'∧∃ t gh m M,e= .returned (.tuple #[.pointer (some ⟨t,0,none⟩),.nilIface])∧w.heap.size≤t∧TabQ w.heap.size w' t gh m (contQ l M))
theorem addC_M (C:QC) (g:Nat) (r:RtC):(addC C g r).M≤C.M+2:=by
 unfold addC;dsimp only;split <;> omega
def RtV (x:RtX):Prop:=∃ (s3 s5 s6:ByteArray) (b4:Bool) (q7:Option Addr) (n7 c7:Nat) (i8 i9 i10 i11 i12:Int),x.v3= .string s3∧x.v4= .bool b4∧x.v5= .string s5∧x.v6= .string s6∧x.v7= .slice q7 n7 c7∧x.v8= .int .i64 i8∧x.v9= .int .i64 i9∧x.v10= .int .i64 i10∧x.v11= .int .i64 i11∧x.v12= .int .i64 i12
structure RtZP (x:RtX):Prop where
 val:RtV x
 z:RtZ x
 few:x.r.ms.length≤4398046511104
 each:∀ y∈x.r.ms,y.length≤281474976710656
theorem chk_parts {r:RtC} (h:chkR r=0):(∃ x,patH r.host=some x)∧checkP r.path=true:=by
 have ha:checkN r.host=0:=by
  unfold chkR at h;split at h
  · exact h
  · rename_i h1;simpa using h1
 have hb:chkN r.path=0:=by
  unfold chkR at h;rw [if_neg (by simp [ha])] at h;split at h
  · exact h
  · rename_i h1;simpa using h1
 constructor
 · unfold checkN at ha;cases hp:patH r.host with
   |some x=>exact⟨x,rfl⟩
   |none=>rw [hp] at ha;simp at ha
 · unfold chkN at hb;cases hp:checkP r.path with
   |true=>rfl
   |false=>rw [hp] at hb;simp at hb
theorem padd_cont {b0:Nat}{w:World}{t gh m:Nat}{L:List RtC}{M:Nat} (h:TabQ b0 w t gh m (contQ L M)) (hs:b0≤w.heap.size) (hx0:0<b0) (hmx:MxAt w) (x:RtX) (hck:chkR x.r=0) (hLc:∀ r∈L,chkR r=0) (hLm:∀ r∈L,r.ms.length≤140737488355328) (hno:∀ i,i<L.length→∀ k,k<i→clashAt L k i=false) (h64:L.length<64) (hM:M≤2*L.length) (hz:RtZP x) (hT:TxAt w x.q x.r.ms):
  Calls Tryz.prog 26 #[.pointer (some ⟨t,0,none⟩),.agg #[.string (str x.r.host),.string (str x.r.path),.slice x.q x.r.ms.length x.k,x.v3,x.v4,x.v5,x.v6,x.v7,x.v8,x.v9,x.v10,x.v11,x.v12]] w fun e w'=>∃ v,e= .returned v∧Below b0 w w'∧
   (((∃ r∈L,clashR r x.r=true)∧v= .iface 74 (.int .i64 6))∨
    ((¬∃ r∈L,clashR r x.r=true)∧v= .nilIface∧∃ M',M'≤2*(L.length+1)∧TabQ b0 w' t gh m (contQ (L++ [x.r]) M'))):=by
 obtain⟨O,vp,vr,ts,wv,es,hI,hl⟩:=h;obtain⟨⟨y,hy⟩,hcp⟩:=chk_parts hck;have hgl:=grps_len L;have hel:(contQ L M).es.length=L.length:=by unfold contQ;simp
 refine(padd_any hI hs hx0 hmx x.r hy hcp hl (fun _=>Nat.lt_of_le_of_lt hgl h64) (by show (grpsR L).length≤64;omega) (by unfold contQ;dsimp only;rw [List.getElem?_eq_none (Nat.le_refl _)];rfl) (by show M≤1000;omega) (fun i=>by have:=cont_tp_len L M i;omega) (fun i p=>by have:=cont_wy_len L M i p;omega) (by rw [hel];omega) (fun i p y hy=>cont_wy_at hy) (fun y hy=>?_) x.q x.r.ms.length x.k rfl hz.few hz.each hz.z.path x.v3 x.v4 x.v5 x.v6 x.v7 x.v8 x.v9 x.v10 x.v11 x.v12 hT).mono ?_
 · obtain⟨r,hr,rfl⟩:=List.mem_map.1 (show y∈L.map fun r=>(r.path,r.ms) from hy);exact hLm r hr
 · have hh:=hit_cont L M x.r (fun r hr=>(chk_parts (hLc r hr)).2) hcp hno;rintro e w' (⟨h1,h2,h3⟩|⟨h1,h2,h3,h4⟩)
   · exact⟨_,h2,h3,.inl ⟨hh.1 h1,rfl⟩⟩
   · refine⟨_,h2,h3,.inr ⟨fun hc=>?_,rfl,(addC (contQ L M) ((grpA (grpsR L) (lowH x.r.host)).idxOf (lowH x.r.host)) x.r).M,?_,?_⟩⟩
     · rw [show (contQ L M).gs=grpsR L from rfl,hh.2 hc] at h1;cases h1
     · have:=addC_M (contQ L M) ((grpA (grpsR L) (lowH x.r.host)).idxOf (lowH x.r.host)) x.r;rw [show (contQ L M).M=M from rfl] at this;omega
     · rw [←addC_cont L M x.r];exact h4
theorem clash_snoc {L:List RtC}{r:RtC} (hno:∀ i,i<L.length→∀ k,k<i→clashAt L k i=false) (hr:¬∃ x∈L,clashR x r=true):∀ i,i<(L++ [r]).length→∀ k,k<i→clashAt (L++ [r]) k i=false:=by
 intro i hi k hk;rw [List.length_append] at hi;have hi:i<L.length+1:=hi;unfold clashAt;rw [List.getElem?_append_left (show k<L.length by omega)];rcases Nat.lt_or_ge i L.length with h1|h1
 · rw [List.getElem?_append_left h1];exact hno i h1 k hk
 · have h2:i=L.length:=by omega
   subst h2;rw [List.getElem?_append_right (Nat.le_refl _),Nat.sub_self,List.getElem?_eq_getElem (show k<L.length by omega)];show clashR _ _=false;rw [←Bool.not_eq_true];exact fun h=>hr ⟨_,List.getElem_mem _,h⟩
theorem newE_twice {l:List RtC} (h64:l.length≤64) (hc:∀ x∈l,chkR x=0) {i:Nat}{r:RtC} (hi:l[i]?=some r) (h:∃ x∈l.take i,clashR x r=true):newE l=6:=by
 rw [newE_none h64 hc,if_pos];obtain⟨x,hx,h1⟩:=h;obtain⟨k,hk⟩:=List.mem_iff_getElem?.1 hx;have hki:k<i:=by
  have:=(List.getElem?_eq_some_iff.1 hk).1;rw [List.length_take] at this;omega
 refine twice_yes (i:=i) (k:=k) (List.getElem?_eq_some_iff.1 hi).1 hki ?_;unfold clashAt;rw [List.getElem?_take,if_pos hki] at hk;rw [hk,hi];exact h1
set_option maxRecDepth 20000 in
set_option maxHeartbeats 32000000 in
theorem pnew_any (l:List RtX) (p:Option Addr) (n c:Nat) (hn:l.length=n) (hz:∀ x∈l,RtZP x) (w:World) (hmx:MxAt w) (hT:RtsAt w p l):Calls Tryz.prog 9 #[.slice p n c] w fun e w'=>PNewAns w (l.map RtX.r) e w':=by
 have hx0:0<w.heap.size:=by obtain⟨q,hq⟩:=hmx;exact lt_of_cell hq
 by_cases h64:64<n
 · have hE:newE (l.map RtX.r)=9:=newE_long (by rw [List.length_map];omega);have HFin:=hid (show PNewAns w (l.map RtX.r) (.returned (.tuple #[.pointer none,.iface 74 (.int .i64 9)])) w from .inl ⟨by rw [hE];decide,by rw [hE];rfl,Below.refl _ _⟩);have h64':(64:Int)<(n:Int):=by omega
   clear hE hT hz hn hmx;go_enter Tryz.func9,Tryz.ntmps9;go_wp2;go_ret2;exact HFin.out
 have h64':¬(64:Int)<(n:Int):=by omega
 have HN:=hid hn;have HT:=hid hT;have HZ:=hid hz;have HMx:=hid hmx;have HHn:=hid (fun W:World=>new_any W);have hmm:=@run_makeMap Tryz.prog;clear hn hT hz hmx;go_enter Tryz.func9,Tryz.ntmps9;go_wp2;go_loopg [17] (n+1) (fun gk s17 wr=>∃ i:Nat,i≤n∧gk=n-i+1∧s17= .int .i64 (i:Int)∧(∀ z∈(l.map RtX.r).take i,chkR z=0)∧Below w.heap.size w wr)
 case atStart=>exact⟨0,by omega,rfl,rfl,by simp,Below.refl _ _⟩
 case round=>
  obtain⟨i,hi,rfl,rfl,hE,hb⟩:=hrel;have HE:=hid hE;have HB:=hid hb;clear hE hb;by_cases hin:i<n
  · have h1:i<l.length:=by rw [HN.out];exact hin
    obtain⟨x,hx⟩:∃ x,l[i]?=some x:=⟨_,List.getElem?_eq_getElem h1⟩;have HX:=hid hx;have hzx:=HZ.out x (List.mem_of_getElem? hx);obtain⟨g1,o1,rfl,hC⟩:=(HT.out.next HB.out).at hx;have HMt:=hid (HT.out.ms x (List.mem_of_getElem? hx));obtain⟨q0,q1,q2,q3,q4,q5,q6,q7,q8,q9,q10,q11,q12⟩:=hC;have HCk:=hid (fun (W:World) (hb:Below w.heap.size w W)=>pchk_any x.r x.q x.r.ms.length x.k rfl hzx.z.cap hzx.z.each (Nat.le_trans hzx.few (by decide)) (Nat.le_trans hzx.z.host (by decide)) hzx.z.path x.v3 x.v4 x.v5 x.v6 x.v7 x.v8 x.v9 x.v10 x.v11 x.v12 W (HMx.out.next hb) (HMt.out.next hb));have HVx:=hid (fun (hb:chkR x.r≠0)=>newE_bad (l:=l.map RtX.r) (by rw [List.length_map,HN.out];omega) (map_r HX.out) hb HE.out);have HNx:=hid (fun (h0:chkR x.r=0)=>all_next HE.out (map_r HX.out) h0);have HA:=hid (below_new wr (.cells #[.string (str x.r.host),.string (str x.r.path),.slice x.q x.r.ms.length x.k,x.v3,x.v4,x.v5,x.v6,x.v7,x.v8,x.v9,x.v10,x.v11,x.v12] 42 (0,0)));obtain⟨s3,s5,s6,b4,q7',n7,c7,i8,i9,i10,i11,i12,e3,e4,e5,e6,e7,e8,e9,e10,e11,e12⟩:=hzx.val;rw [e3,e4,e5,e6,e7,e8,e9,e10,e11,e12] at HCk HA;rw [e3] at q3;rw [e4] at q4;rw [e5] at q5;rw [e6] at q6;rw [e7] at q7;rw [e8] at q8;rw [e9] at q9;rw [e10] at q10;rw [e11] at q11;rw [e12] at q12;obtain⟨e,he⟩:∃ e,chkR x.r=e:=⟨_,rfl⟩;have HEq:=hid he;rw [he] at HCk;obtain⟨Sh,hSh⟩:∃ S,str x.r.host=S:=⟨_,rfl⟩;obtain⟨Sp,hSp⟩:∃ S,str x.r.path=S:=⟨_,rfl⟩;rw [hSh,hSp] at HCk HA;rw [hSh] at q0;rw [hSp] at q1;clear h1 hx hzx he hSh hSp e3 e4 e5 e6 e7 e8 e9 e10 e11 e12;by_cases h0:e=0
    · subst h0;have HNy:=hid (HNx.out HEq.out);rw [show errOf 0= .nilIface from rfl] at HCk;go_wp2_with (go_at_call 24;(with_reducible refine(HCk.out _ (below_out HB.out HA.out)).mono ?_);rintro e w1 ⟨rfl,hb1⟩;have HB1:=hid (below_out (below_out HB.out HA.out) hb1);clear hb1);go_roundg (n-(i+1)+1)
      case measure=>omega
      case rel=>exact⟨i+1,by omega,rfl,by push_cast;go_num,HNy.out,HB1.out⟩
    · rw [errOf_ne h0] at HCk;have HV:=hid (HVx.out (by rw [HEq.out];exact h0));go_wp2_with (go_at_call 24;(with_reducible refine(HCk.out _ (below_out HB.out HA.out)).mono ?_);rintro e w1 ⟨rfl,hb1⟩;have HB1:=hid (below_out (below_out HB.out HA.out) hb1);clear hb1);go_ret2;exact .inl ⟨by rw [HV.out,HEq.out];exact h0,by rw [HV.out,HEq.out];rfl,HB1.out⟩
  · obtain rfl:n=i:=by omega
    have HEa:=hid (show ∀ z∈l.map RtX.r,chkR z=0 from by
     have h9:=HE.out;rw [show n=(l.map RtX.r).length by rw [List.length_map,HN.out],List.take_length] at h9;exact h9)
    clear HE;go_wp2_with (go_at_call 25;(with_reducible refine(HHn.out wr).mono ?_);rintro e w1 ⟨rfl,hT1,hb1⟩;have HT1:=hid hT1;have HB1:=hid (below_out HB.out hb1);clear hT1 hb1);have hs1:=HB1.out.size;have HQ:=hid (tbl_start HT1.out HB.out.size HB1.out.size);have HBq:=hid (below_out (below_out HB1.out (below_new w1 (.map #[] 0))) (below_new _ (.cells (tblZ wr.heap.size w1.heap.size) 82 (0,0))));obtain⟨Wq,hWq⟩:∃ Wq,(w1.alloc (.map #[] 0)).alloc (.cells (tblZ wr.heap.size w1.heap.size) 82 (0,0))=Wq:=⟨_,rfl⟩;rw [hWq] at HQ HBq ⊢;obtain⟨t,ht⟩:∃ t,w1.heap.size+1=t:=⟨_,rfl⟩;obtain⟨gh,hgh⟩:∃ gh,wr.heap.size=gh:=⟨_,rfl⟩;obtain⟨m,hm⟩:∃ m,w1.heap.size=m:=⟨_,rfl⟩;have htl:w.heap.size≤t:=by omega
    rw [ht,hgh,hm] at HQ;rw [ht,hgh,hm];clear hWq ht hgh hm hs1 HT1 HB1 HB;go_loopg [33] (n+1) (fun gk s33 wr=>∃ i M:Nat,i≤n∧gk=n-i+1∧s33= .int .i64 (i:Int)∧M≤2*i∧TabQ w.heap.size wr t gh m (contQ ((l.map RtX.r).take i) M)∧(∀ j,j<((l.map RtX.r).take i).length→∀ k,k<j→clashAt ((l.map RtX.r).take i) k j=false)∧Below w.heap.size w wr)
    case atStart=>exact⟨0,0,Nat.zero_le _,rfl,rfl,Nat.le_refl _,HQ.out,fun j hj=>absurd hj (by simp),HBq.out⟩
    case round=>
     obtain⟨i,M,hi,rfl,rfl,hM,hQ,hno,hb⟩:=hrel;have HQi:=hid hQ;have HNo:=hid hno;have HBi:=hid hb;clear hQ hno hb HQ HBq;have HTi:=hid (show ((l.map RtX.r).take i).length=i from by rw [List.length_take,List.length_map,HN.out];omega);by_cases hin:i<n
     · have h1:i<l.length:=by rw [HN.out];exact hin
       obtain⟨x,hx⟩:∃ x,l[i]?=some x:=⟨_,List.getElem?_eq_getElem h1⟩;have HX:=hid hx;have hzx:=HZ.out x (List.mem_of_getElem? hx);obtain⟨g1,o1,rfl,hC⟩:=(HT.out.next HBi.out).at hx;have HMt:=hid (HT.out.ms x (List.mem_of_getElem? hx));obtain⟨q0,q1,q2,q3,q4,q5,q6,q7,q8,q9,q10,q11,q12⟩:=hC;have hck:=HEa.out x.r (List.mem_of_getElem? (map_r hx));have hsub:∀ r∈(l.map RtX.r).take i,chkR r=0∧r.ms.length≤140737488355328:=fun r hr=>by
        have hm:=List.mem_of_mem_take hr;refine⟨HEa.out r hm,?_⟩;obtain⟨y,hy,rfl⟩:=List.mem_map.1 hm;exact Nat.le_trans (HZ.out y hy).few (by decide)
       have HAd:=hid (fun (W:World) (hb:Below w.heap.size w W) (hQ:TabQ w.heap.size W t gh m (contQ ((l.map RtX.r).take i) M))=>padd_cont hQ hb.size hx0 (HMx.out.next hb) x hck (fun r hr=>(hsub r hr).1) (fun r hr=>(hsub r hr).2) HNo.out (by rw [HTi.out];omega) (by rw [HTi.out];exact hM) hzx (HMt.out.next hb));have HTw:=hid (fun (h:∃ r∈(l.map RtX.r).take i,clashR r x.r=true)=>newE_twice (l:=l.map RtX.r) (by rw [List.length_map,HN.out];omega) HEa.out (map_r hx) h);have HTk:=hid (show (l.map RtX.r).take (i+1)=(l.map RtX.r).take i++ [x.r] from by rw [List.take_add_one,map_r hx];rfl);have HA:=hid (below_new wr (.cells #[.string (str x.r.host),.string (str x.r.path),.slice x.q x.r.ms.length x.k,x.v3,x.v4,x.v5,x.v6,x.v7,x.v8,x.v9,x.v10,x.v11,x.v12] 42 (0,0)));obtain⟨s3,s5,s6,b4,q7',n7,c7,i8,i9,i10,i11,i12,e3,e4,e5,e6,e7,e8,e9,e10,e11,e12⟩:=hzx.val;rw [e3,e4,e5,e6,e7,e8,e9,e10,e11,e12] at HAd HA;rw [e3] at q3;rw [e4] at q4;rw [e5] at q5;rw [e6] at q6;rw [e7] at q7;rw [e8] at q8;rw [e9] at q9;rw [e10] at q10;rw [e11] at q11;rw [e12] at q12;obtain⟨Sh,hSh⟩:∃ S,str x.r.host=S:=⟨_,rfl⟩;obtain⟨Sp,hSp⟩:∃ S,str x.r.path=S:=⟨_,rfl⟩;rw [hSh,hSp] at HAd HA;rw [hSh] at q0;rw [hSp] at q1;clear h1 hx hzx hSh hSp e3 e4 e5 e6 e7 e8 e9 e10 e11 e12 hck hsub;go_upto_region 15 with (go_at_call 26;(with_reducible refine(HAd.out _ (below_out HBi.out HA.out) (HQi.out.next HBi.out.size HA.out)).mono ?_);rintro e w1 ⟨v,rfl,hb1,hAns⟩;have HB1:=hid ((below_out HBi.out HA.out).trans hb1);clear hb1)
       rcases hAns with ⟨hc,hev⟩|⟨hc,hev,M',hM',hQ'⟩
       · subst hev;have HC6:=hid (HTw.out hc);clear hc;go_wp2;go_ret2;exact .inl ⟨by rw [HC6.out];decide,by rw [HC6.out];rfl,HB1.out⟩
       · subst hev;have HCn:=hid hc;have HQn:=hid hQ';clear hc hQ';rw [HTi.out] at hM';go_wp2;go_roundg (n-(i+1)+1)
         case measure=>omega
         case rel=>exact⟨i+1,M',by omega,rfl,by push_cast;go_num,hM',by rw [HTk.out];exact HQn.out,by rw [HTk.out];exact clash_snoc HNo.out HCn.out,HB1.out⟩
     · obtain rfl:n=i:=by omega
       have HAll:=hid (show (l.map RtX.r).take n=l.map RtX.r from List.take_of_length_le (by rw [List.length_map,HN.out];exact Nat.le_refl _));rw [HAll.out] at HQi HNo;have HE0:=hid (show newE (l.map RtX.r)=0 from by rw [newE_none (by rw [List.length_map,HN.out];omega) HEa.out,if_neg (by rw [twice_no HNo.out];simp)]);go_wp2;go_ret2;exact .inr ⟨HE0.out,HBi.out,t,gh,m,M,rfl,htl,HQi.out⟩
end Go.Proofs.YtlmlljlappjjjaaGreatDoor
