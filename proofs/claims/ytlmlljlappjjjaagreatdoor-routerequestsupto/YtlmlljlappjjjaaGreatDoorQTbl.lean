/- The document: may two routes not stand in one table. -/
import Derived.Test.YtlmlljlappjjjaaGreatDoorQLike
namespace Go.Proofs.YtlmlljlappjjjaaGreatDoor
open Go.RowKit
def clashR (a b:RtC):Bool:=decide (lowH a.host=lowH b.host) && likeR a.path b.path && (decide (a.path≠b.path) || meetR a.ms b.ms)
theorem same_low_q (a b:B):sameB (str a) (str b)=decide (lowH a=lowH b):=by
 unfold sameB;rw [lowS_strH,lowS_strH];exact decide_eq_decide.2 ⟨str_inj,fun h=>by rw [h]⟩
structure BxR (w W:World) (O1 O2:Obj):Prop where
 low:Below w.heap.size w W
 a:W.heap[w.heap.size]?=some O1
 b:W.heap[w.heap.size+1]?=some O2
theorem BxR.next {w W W':World}{O1 O2:Obj} (h:BxR w W O1 O2) (hb:Below W.heap.size W W'):BxR w W' O1 O2:=⟨below_out h.low hb,kB hb h.a,kB hb h.b⟩
theorem BxR.new (w:World) (O1 O2:Obj):BxR w ((w.alloc O1).alloc O2) O1 O2:=by
 have hs:(w.alloc O1).heap.size=w.heap.size+1:=by simp
 have h1:=heap_alloc_new (w.alloc O1) O2;rw [hs] at h1;exact⟨below_out (below_new w O1) (below_new _ _),((below_new (w.alloc O1) O2).block _ (by rw [hs];omega)).trans (heap_alloc_new w O1),h1⟩
set_option maxRecDepth 20000 in
set_option maxHeartbeats 16000000 in
theorem rclash_any (a b:RtC) (p q:Option Addr) (n c m d:Nat) (hn:a.ms.length=n) (hm:b.ms.length=m) (hnn:n≤140737488355328) (hmm:m≤140737488355328) (h1:a.host.length≤140737488351232) (h2:a.path.length≤4398046511104) (h3:b.host.length≤140737488351232) (h4:b.path.length≤4398046511104) (v3 v4 v5 v6 v7 v8 v9 v10 v11 v12 u3 u4 u5 u6 u7 u8 u9 u10 u11 u12:Value) (w:World) (hT:TxAt w p a.ms) (hU:TxAt w q b.ms):Calls Tryz.prog 29 #[.agg #[.string (str a.host),.string (str a.path),.slice p n c,v3,v4,v5,v6,v7,v8,v9,v10,v11,v12],.agg #[.string (str b.host),.string (str b.path),.slice q m d,u3,u4,u5,u6,u7,u8,u9,u10,u11,u12]] w fun e w'=>e= .returned (.bool (clashR a b))∧Below w.heap.size w w':=by
 have HS:=hid (fun W:World=>rsame_any (str a.host) (str b.host) W (by rw [str_size];exact h1) (by rw [str_size];exact h3));have HL:=hid (fun W:World=>rlike_any a.path b.path h2 h4 W);have HM:=hid (fun (W:World) (hb:Below w.heap.size w W)=>rmeet_any a.ms b.ms p q n c m d hn hm hnn hmm W (hT.next hb) (hU.next hb));simp only [same_low_q] at HS;unfold clashR;obtain⟨s,hs⟩:∃ s,decide (lowH a.host=lowH b.host)=s:=⟨_,rfl⟩;obtain⟨k,hk⟩:∃ s,likeR a.path b.path=s:=⟨_,rfl⟩;obtain⟨t,ht⟩:∃ s,meetR a.ms b.ms=s:=⟨_,rfl⟩;rw [hs] at HS ⊢;rw [hk] at HL ⊢;rw [ht] at HM ⊢;have HPq:=hid (show ∀ S1 S2,str a.path=S1→str b.path=S2→(decide (a.path≠b.path)=decide (¬S1=S2)) from fun S1 S2 e1 e2=>by rw [←e1,←e2];exact decide_eq_decide.2 ⟨fun h e=>h (str_inj e),fun h e=>h (by rw [e])⟩);obtain⟨A1,hA1⟩:∃ S,str a.host=S:=⟨_,rfl⟩;obtain⟨A2,hA2⟩:∃ S,str a.path=S:=⟨_,rfl⟩;obtain⟨B1,hB1⟩:∃ S,str b.host=S:=⟨_,rfl⟩;obtain⟨B2,hB2⟩:∃ S,str b.path=S:=⟨_,rfl⟩;rw [HPq.out A2 B2 hA2 hB2];rw [hA1,hB1] at HS ⊢;rw [hA2,hB2] at HL ⊢;have HB:=hid (BxR.new w (.cells #[.string A1,.string A2,.slice p n c,v3,v4,v5,v6,v7,v8,v9,v10,v11,v12] 42 (0,0)) (.cells #[.string B1,.string B2,.slice q m d,u3,u4,u5,u6,u7,u8,u9,u10,u11,u12] 42 (0,0)));clear hs hk ht HPq hA1 hA2 hB1 hB2 hn hm hT hU h1 h2 h3 h4;have fin:∀ {x y:Bool}{W:World},x=y→Below w.heap.size w W→Ending.returned (.bool x)=Ending.returned (.bool y)∧Below w.heap.size w W:=fun h1 h2=>⟨ret_bool h1,h2⟩
 cases s with
 |false=>
  go_enter Tryz.func29,Tryz.ntmps29;go_wp2_with (go_at_call 37;(with_reducible refine(HS.out _).mono ?_);rintro e w1 ⟨rfl,hb⟩;replace HB:=hid (HB.out.next hb);obtain⟨x0,x1,x2⟩:=cells_r3 HB.out.a;obtain⟨y0,y1,y2⟩:=cells_r3 HB.out.b;clear hb);go_ret;exact fin rfl HB.out.low
 |true=>
  cases k with
  |false=>
   go_enter Tryz.func29,Tryz.ntmps29;go_wp2_with (first|(go_at_call 37;(with_reducible refine(HS.out _).mono ?_);rintro e w1 ⟨rfl,hb⟩;replace HB:=hid (HB.out.next hb);obtain⟨x0,x1,x2⟩:=cells_r3 HB.out.a;obtain⟨y0,y1,y2⟩:=cells_r3 HB.out.b;clear hb)|(go_at_call 64;(with_reducible refine(HL.out _).mono ?_);rintro e w1 ⟨rfl,hb⟩;replace HB:=hid (HB.out.next hb);obtain⟨x0,x1,x2⟩:=cells_r3 HB.out.a;obtain⟨y0,y1,y2⟩:=cells_r3 HB.out.b;clear hb));go_ret;exact fin rfl HB.out.low
  |true=>
   by_cases hp:A2=B2
   · subst hp;go_enter Tryz.func29,Tryz.ntmps29;go_wp2_with (first|(go_at_call 37;(with_reducible refine(HS.out _).mono ?_);rintro e w1 ⟨rfl,hb⟩;replace HB:=hid (HB.out.next hb);obtain⟨x0,x1,x2⟩:=cells_r3 HB.out.a;obtain⟨y0,y1,y2⟩:=cells_r3 HB.out.b;clear hb)|(go_at_call 64;(with_reducible refine(HL.out _).mono ?_);rintro e w1 ⟨rfl,hb⟩;replace HB:=hid (HB.out.next hb);obtain⟨x0,x1,x2⟩:=cells_r3 HB.out.a;obtain⟨y0,y1,y2⟩:=cells_r3 HB.out.b;clear hb)|(go_at_call 65;(with_reducible refine(HM.out _ HB.out.low).mono ?_);rintro e w2 ⟨rfl,hw2⟩;subst w2));go_ret;exact fin (by simp) HB.out.low
   · have hbf:=ne_list hp;go_enter Tryz.func29,Tryz.ntmps29;go_wp2_with (first|(go_at_call 37;(with_reducible refine(HS.out _).mono ?_);rintro e w1 ⟨rfl,hb⟩;replace HB:=hid (HB.out.next hb);obtain⟨x0,x1,x2⟩:=cells_r3 HB.out.a;obtain⟨y0,y1,y2⟩:=cells_r3 HB.out.b;clear hb)|(go_at_call 64;(with_reducible refine(HL.out _).mono ?_);rintro e w1 ⟨rfl,hb⟩;replace HB:=hid (HB.out.next hb);obtain⟨x0,x1,x2⟩:=cells_r3 HB.out.a;obtain⟨y0,y1,y2⟩:=cells_r3 HB.out.b;clear hb));go_ret;exact fin (by simp [hp]) HB.out.low
structure RtX where
 r:RtC
 q:Option Addr
 k:Nat
 (v3 v4 v5 v6 v7 v8 v9 v10 v11 v12:Value)
abbrev rtXF (x:RtX):List Value:=[.string (str x.r.host),.string (str x.r.path),.slice x.q x.r.ms.length x.k,x.v3,x.v4,x.v5,x.v6,x.v7,x.v8,x.v9,x.v10,x.v11,x.v12]
structure RtsAt (w:World) (p:Option Addr) (l:List RtX):Prop where
 row:∀ (j:Nat) (x:RtX),l[j]?=some x→∃ g o,p=some ⟨g,o,none⟩∧∀ (t:Nat) (u:Value),(rtXF x)[t]?=some u→w.cell? ⟨g,o+j*13+t,none⟩=some u
 ms:∀ x∈l,TxAt w x.q x.r.ms
theorem RtsAt.next {w w':World}{p:Option Addr}{l:List RtX} (h:RtsAt w p l) (hb:Below w.heap.size w w'):RtsAt w' p l:=by
 refine⟨fun j x hj=>?_,fun x hx=>(h.ms x hx).next hb⟩;obtain⟨g,o,e,hc⟩:=h.row j x hj;exact⟨g,o,e,fun t u hu=>cell_keep hb (hc t u hu)⟩
structure RtZ (x:RtX):Prop where
 host:x.r.host.length≤140737488351232
 path:x.r.path.length≤4398046511104
 ms:x.r.ms.length≤140737488351232
 cap:x.r.ms.length≤x.k
 each:∀ y∈x.r.ms,y.length≤maxLen
structure RtC13 (w:World) (g o:Nat) (x:RtX):Prop where
 a0:w.cell? ⟨g,o,none⟩=some (.string (str x.r.host))
 a1:w.cell? ⟨g,o+1,none⟩=some (.string (str x.r.path))
 a2:w.cell? ⟨g,o+2,none⟩=some (.slice x.q x.r.ms.length x.k)
 a3:w.cell? ⟨g,o+3,none⟩=some x.v3
 a4:w.cell? ⟨g,o+4,none⟩=some x.v4
 a5:w.cell? ⟨g,o+5,none⟩=some x.v5
 a6:w.cell? ⟨g,o+6,none⟩=some x.v6
 a7:w.cell? ⟨g,o+7,none⟩=some x.v7
 a8:w.cell? ⟨g,o+8,none⟩=some x.v8
 a9:w.cell? ⟨g,o+9,none⟩=some x.v9
 a10:w.cell? ⟨g,o+10,none⟩=some x.v10
 a11:w.cell? ⟨g,o+11,none⟩=some x.v11
 a12:w.cell? ⟨g,o+12,none⟩=some x.v12
theorem RtsAt.at {w:World}{p:Option Addr}{l:List RtX} (h:RtsAt w p l) {j:Nat}{x:RtX} (hj:l[j]?=some x):∃ g o,p=some ⟨g,o,none⟩∧RtC13 w g (o+j*13) x:=by
 obtain⟨g,o,e,hc⟩:=h.row j x hj;exact⟨g,o,e,hc 0 _ rfl,hc 1 _ rfl,hc 2 _ rfl,hc 3 _ rfl,hc 4 _ rfl,hc 5 _ rfl,hc 6 _ rfl,hc 7 _ rfl,hc 8 _ rfl,hc 9 _ rfl,hc 10 _ rfl,hc 11 _ rfl,hc 12 _ rfl⟩
def clashAt (l:List RtC) (k i:Nat):Bool:=match l[k]?,l[i]? with
 |some a,some b=>clashR a b
 |_,_=>false
def twiceR (l:List RtC):Bool:=(List.range l.length).any fun i=>(List.range i).any fun k=>clashAt l k i
def newE (l:List RtC):Nat:=if 64<l.length then 9 else match l.find? (fun r=>decide (chkR r≠0)) with
 |some r=>chkR r
 |none=>if twiceR l then 6 else 0
theorem newE_long {l:List RtC} (h:64<l.length):newE l=9:=if_pos h
theorem newE_bad {l:List RtC} (h:l.length≤64) {i:Nat}{r:RtC} (hi:l[i]?=some r) (hb:chkR r≠0) (ha:∀ x∈l.take i,chkR x=0):newE l=chkR r:=by
 unfold newE;rw [if_neg (by omega)];have e:l.find? (fun r=>decide (chkR r≠0))=some r:=by
  obtain⟨h1,h2⟩:=List.getElem?_eq_some_iff.1 hi;rw [List.find?_eq_some_iff_append];refine⟨by simpa using hb,l.take i,l.drop (i+1),?_,fun x hx=>by simpa using ha x hx⟩;rw [←h2,←List.drop_eq_getElem_cons h1,List.take_append_drop]
 rw [e]
theorem newE_none {l:List RtC} (h:l.length≤64) (ha:∀ x∈l,chkR x=0):newE l=if twiceR l then 6 else 0:=by
 unfold newE;rw [if_neg (by omega)];have e:l.find? (fun r=>decide (chkR r≠0))=none:=by
  rw [List.find?_eq_none];intro x hx;simpa using ha x hx
 rw [e]
theorem twice_yes {l:List RtC}{i k:Nat} (hi:i<l.length) (hk:k<i) (h:clashAt l k i=true):twiceR l=true:=by
 unfold twiceR;rw [List.any_eq_true];exact⟨i,List.mem_range.2 hi,List.any_eq_true.2 ⟨k,List.mem_range.2 hk,h⟩⟩
theorem twice_no {l:List RtC} (h:∀ i,i<l.length→∀ k,k<i→clashAt l k i=false):twiceR l=false:=by
 rw [←Bool.not_eq_true];intro h2;unfold twiceR at h2;rw [List.any_eq_true] at h2;obtain⟨i,hi,h3⟩:=h2;rw [List.any_eq_true] at h3;obtain⟨k,hk,h4⟩:=h3;rw [h i (List.mem_range.1 hi) k (List.mem_range.1 hk)] at h4;cases h4
theorem map_r {l:List RtX}{i:Nat}{x:RtX} (h:l[i]?=some x):(l.map RtX.r)[i]?=some x.r:=by rw [List.getElem?_map,h];rfl
theorem all_next {l:List RtC}{i:Nat}{r:RtC} (h:∀ x∈l.take i,chkR x=0) (hi:l[i]?=some r) (hr:chkR r=0):∀ x∈l.take (i+1),chkR x=0:=by
 intro z hz;rw [List.take_add_one,hi,List.mem_append] at hz;rcases hz with hz|hz
 · exact h z hz
 · rw [List.mem_singleton.1 (show z∈ [r] from hz)];exact hr
def grpsR (L:List RtC):List B:=L.foldl (fun g r=>if lowH r.host∈g then g else g++ [lowH r.host]) []
theorem grps_snoc (L:List RtC) (r:RtC):grpsR (L++ [r])=if lowH r.host∈grpsR L then grpsR L else grpsR L++ [lowH r.host]:=by
 unfold grpsR;rw [List.foldl_append];rfl
def waysR (L:List RtC) (h p:B):List Nat:=(L.zipIdx.filter fun x=>decide (lowH x.1.host=h∧x.1.path=p)).map Prod.snd
theorem ways_snoc (L:List RtC) (r:RtC) (h p:B):waysR (L++ [r]) h p=waysR L h p++(if lowH r.host=h∧r.path=p then [L.length] else []):=by
 unfold waysR;rw [List.zipIdx_append,List.filter_append,List.map_append];congr 1;by_cases hc:lowH r.host=h∧r.path=p
 · simp [hc]
 · rw [if_neg hc];simp only [List.zipIdx_cons,List.zipIdx_nil,List.filter_cons,decide_eq_false hc];rfl
def trieR (L:List RtC) (h:B):List (B×Int):=L.zipIdx.foldl (fun t x=>if lowH x.1.host=h∧¬∃ y∈t,y.1=x.1.path then t++ [(x.1.path,(x.2:Int))] else t) []
theorem trie_snoc (L:List RtC) (r:RtC) (h:B):trieR (L++ [r]) h=if lowH r.host=h∧¬∃ y∈trieR L h,y.1=r.path then trieR L h++ [(r.path,(L.length:Int))] else trieR L h:=by
 unfold trieR;rw [List.zipIdx_append,List.foldl_append];simp
theorem snoc_ind {P:List RtC→Prop} (h0:P []) (h1:∀ L r,P L→P (L++ [r])):∀ L,P L:=by
 intro L;have h:∀ M:List RtC,P M.reverse:=by
  intro M
  induction M with
  |nil=>exact h0
  |cons x M ih=>rw [List.reverse_cons];exact h1 _ _ ih
 have:=h L.reverse
 rwa [List.reverse_reverse] at this
theorem mem_grps:∀ (L:List RtC) (h:B),h∈grpsR L↔∃ r∈L,lowH r.host=h:=by
 refine snoc_ind ?_ ?_
 · simp [grpsR]
 · intro L r ihh h;have ih:=ihh h;have ih0:∀ k,k∈grpsR L→∃ r∈L,lowH r.host=k:=fun k hk=>(ihh k).1 hk
   rw [grps_snoc];split
   · rename_i hm
     rw [ih];constructor
     · rintro ⟨x,hx,rfl⟩;exact⟨x,List.mem_append_left _ hx,rfl⟩
     · rintro ⟨x,hx,rfl⟩;rcases List.mem_append.1 hx with hx|hx
       · exact⟨x,hx,rfl⟩
       · rw [List.mem_singleton.1 hx];exact(ih0 _ hm)
   · rw [List.mem_append,List.mem_singleton,ih];constructor
     · rintro (⟨x,hx,rfl⟩|rfl)
       · exact⟨x,List.mem_append_left _ hx,rfl⟩
       · exact⟨r,by simp,rfl⟩
     · rintro ⟨x,hx,rfl⟩;rcases List.mem_append.1 hx with hx|hx
       · exact .inl ⟨x,hx,rfl⟩
       · exact .inr (by rw [List.mem_singleton.1 hx])
theorem nodup_grps:∀ L:List RtC,(grpsR L).Nodup:=by
 refine snoc_ind ?_ ?_
 · simp [grpsR]
 · intro L r ih;rw [grps_snoc];split
   · exact ih
   · rename_i hm
     rw [List.nodup_append];refine⟨ih,by simp,fun a ha b hb=>?_⟩;rw [List.mem_singleton.1 hb];exact fun e=>hm (e ▸ ha)
theorem mem_ways (h p:B):∀ (L:List RtC) (i:Nat),i∈waysR L h p↔∃ r,L[i]?=some r∧lowH r.host=h∧r.path=p:=by
 intro L i;unfold waysR;rw [List.mem_map];constructor
 · rintro ⟨⟨r,j⟩,hm,rfl⟩;rw [List.mem_filter] at hm;exact⟨r,by have:=List.mem_zipIdx' hm.1;exact List.getElem?_eq_some_iff.2 ⟨this.1,this.2.symm⟩,by simpa using hm.2⟩
 · rintro ⟨r,hr,h1,h2⟩;refine⟨(r,i),List.mem_filter.2 ⟨?_,by simp [h1,h2]⟩,rfl⟩;exact List.mem_zipIdx_iff_getElem?.2 hr
theorem mem_trie:∀ (L:List RtC) (h p:B),(∃ y∈trieR L h,y.1=p)↔∃ r∈L,lowH r.host=h∧r.path=p:=by
 refine snoc_ind ?_ ?_
 · simp [trieR]
 · intro L r ih h p;rw [trie_snoc];split
   · rename_i hc
     constructor
     · rintro ⟨y,hy,rfl⟩;rcases List.mem_append.1 hy with hy|hy
       · obtain⟨x,hx,h1⟩:=(ih h y.1).1 ⟨y,hy,rfl⟩;exact⟨x,List.mem_append_left _ hx,h1⟩
       · rw [List.mem_singleton.1 hy];exact⟨r,by simp,hc.1,rfl⟩
     · rintro ⟨x,hx,h1,h2⟩;rcases List.mem_append.1 hx with hx|hx
       · obtain⟨y,hy,h3⟩:=(ih h p).2 ⟨x,hx,h1,h2⟩;exact⟨y,List.mem_append_left _ hy,h3⟩
       · rw [List.mem_singleton.1 hx] at h2;exact⟨_,List.mem_append_right _ (List.mem_singleton.2 rfl),h2⟩
   · rename_i hc
     constructor
     · intro hy;obtain⟨x,hx,h1⟩:=(ih h p).1 hy;exact⟨x,List.mem_append_left _ hx,h1⟩
     · rintro ⟨x,hx,h1,h2⟩;rcases List.mem_append.1 hx with hx|hx
       · exact(ih h p).2 ⟨x,hx,h1,h2⟩
       · rw [List.mem_singleton.1 hx] at h1 h2;have hq:∃ y∈trieR L h,y.1=r.path:=Classical.byContradiction fun hn=>hc ⟨h1,hn⟩
         rw [h2] at hq;exact hq
theorem meet_comm (a b:List B):meetR a b=meetR b a:=by
 unfold meetR;rw [Bool.eq_iff_iff];simp only [Bool.or_eq_true,List.any_eq_true,List.contains_iff_mem];constructor
 · rintro ((h|h)|⟨x,h1,h2⟩)
   · exact .inl (.inr h)
   · exact .inl (.inl h)
   · exact .inr ⟨x,h2,h1⟩
 · rintro ((h|h)|⟨x,h1,h2⟩)
   · exact .inl (.inr h)
   · exact .inl (.inl h)
   · exact .inr ⟨x,h2,h1⟩
theorem like_iff (a b:B):likeR a b=true↔checkP a=true∧checkP b=true∧keysP a=keysP b:=by
 unfold likeR;simp [and_assoc]
theorem clash_iff (a b:RtC):clashR a b=true↔lowH a.host=lowH b.host∧likeR a.path b.path=true∧(a.path≠b.path∨meetR a.ms b.ms=true):=by
 unfold clashR;simp [and_assoc]
theorem addE_iff (T:List (B×Int)) (p:B) (hp:checkP p=true):addE_r T p≠0↔∃ y∈T,keysP y.1=keysP p:=by
 unfold addE_r;rw [if_pos hp];by_cases h:(T.any fun q=>decide (keysP q.1=keysP p))=true
 · rw [if_pos h];rw [List.any_eq_true] at h;obtain⟨y,h1,h2⟩:=h;exact⟨fun _=>⟨y,h1,of_decide_eq_true h2⟩,fun _=>by decide⟩
 · rw [if_neg h];refine⟨fun h1=>absurd rfl h1,?_⟩;rintro ⟨y,h1,h2⟩;exact absurd (List.any_eq_true.2 ⟨y,h1,decide_eq_true h2⟩) h
theorem clash_of_at {L:List RtC} (hno:∀ i,i<L.length→∀ k,k<i→clashAt L k i=false) {x y:RtC}{k i:Nat} (hk:L[k]?=some x) (hi:L[i]?=some y) (hki:k<i):clashR x y=false:=by
 have h:=hno i (List.getElem?_eq_some_iff.1 hi).1 k hki;unfold clashAt at h;rw [hk,hi] at h;exact h
theorem add_clash (L:List RtC) (r:RtC) (hL:∀ x∈L,checkP x.path=true) (hr:checkP r.path=true) (hno:∀ i,i<L.length→∀ k,k<i→clashAt L k i=false):
  (∃ x∈L,clashR x r=true)↔(if waysR L (lowH r.host) r.path= [] then addE_r (trieR L (lowH r.host)) r.path≠0 else ∃ i∈waysR L (lowH r.host) r.path,∃ x,L[i]?=some x∧meetR r.ms x.ms=true):=by
 split
 · rename_i hw
   rw [addE_iff _ _ hr];constructor
   · rintro ⟨x,hx,hc⟩;obtain⟨h1,h2, -⟩:=(clash_iff x r).1 hc;obtain⟨y,hy,h3⟩:=(mem_trie L (lowH r.host) x.path).2 ⟨x,hx,h1,rfl⟩;exact⟨y,hy,by rw [h3];exact((like_iff _ _).1 h2).2.2⟩
   · rintro ⟨y,hy,hk⟩;obtain⟨x,hx,h1,h2⟩:=(mem_trie L (lowH r.host) y.1).1 ⟨y,hy,rfl⟩;refine⟨x,hx,(clash_iff x r).2 ⟨h1,(like_iff _ _).2 ⟨hL x hx,hr,by rw [h2];exact hk⟩,.inl fun he=>?_⟩⟩;obtain⟨i,hi⟩:=List.mem_iff_getElem?.1 hx;have hm:=(mem_ways (lowH r.host) r.path L i).2 ⟨x,hi,h1,he⟩;rw [hw] at hm;cases hm
 · rename_i hw
   obtain⟨i0,hi0⟩:=List.exists_mem_of_ne_nil _ hw;obtain⟨x0,hx0,g1,g2⟩:=(mem_ways (lowH r.host) r.path L i0).1 hi0;constructor
   · rintro ⟨x,hx,hc⟩;obtain⟨h1,h2,h3⟩:=(clash_iff x r).1 hc;obtain⟨k,hk⟩:=List.mem_iff_getElem?.1 hx;by_cases he:x.path=r.path
     · refine⟨k,(mem_ways _ _ L k).2 ⟨x,hk,h1,he⟩,x,hk,?_⟩;rw [meet_comm];rcases h3 with h3|h3
       · exact absurd he h3
       · exact h3
     · exfalso;have hne:x.path≠x0.path:=by rw [g2];exact he
       obtain⟨l1,l2,l3⟩:=(like_iff _ _).1 h2;rcases Nat.lt_trichotomy k i0 with hl|hl|hl
       · have:=clash_of_at hno hk hx0 hl;rw [(clash_iff x x0).2 ⟨by rw [h1,g1],(like_iff _ _).2 ⟨l1,by rw [g2];exact l2,by rw [g2];exact l3⟩,.inl hne⟩] at this;cases this
       · subst hl;rw [hk] at hx0;exact hne (by rw [Option.some.inj hx0])
       · have:=clash_of_at hno hx0 hk hl;rw [(clash_iff x0 x).2 ⟨by rw [h1,g1],(like_iff _ _).2 ⟨by rw [g2];exact l2,l1,by rw [g2];exact l3.symm⟩,.inl (fun e=>hne e.symm)⟩] at this;cases this
   · rintro ⟨i,hi,x,hx,hm⟩;obtain⟨x',hx',h1,h2⟩:=(mem_ways _ _ L i).1 hi;rw [hx] at hx';cases hx';exact⟨x,List.mem_of_getElem? hx,(clash_iff x r).2 ⟨h1,(like_iff _ _).2 ⟨by rw [h2];exact hr,hr,by rw [h2]⟩,.inr (by rw [meet_comm];exact hm)⟩⟩
open Go.RowKit Go.Maps
def wayV (i:Nat) (p:B):Value:=.agg #[.int .i64 (i:Int),.string (str p)]
def wayL (i:Nat) (p:B):Lit:=.string (keyBytes [.int .i64 (i:Int),.string p])
theorem lawW:Keyed Tryz.prog 127:=Keyed.of_law (deep_law_laid laidT (m:=2) (by omega) (of_decide_eq_true (by kernel_rfl)) (by kernel_rfl) (by kernel_rfl))
def shW (i:Nat) (p:B):Prop:=i≤1000∧p.length≤4398046511104
theorem way_type:Tryz.prog.keyType 127=true:=by kernel_rfl
theorem way_cells:Tryz.prog.cellsOf 127=2:=by kernel_rfl
theorem int_one:Tryz.prog.cellsOf 3=1:=by kernel_rfl
theorem way_str : ∃ fs, Tryz.prog.underlying 127 = some (.struct fs) ∧ (fs.all fun f => f.name != "_") = true ∧ fs.toList.map (fun f => (f.type, f.offset)) = [(3, 0), (9, 1)] := ⟨_, Tryz.underlying127, by kernel_rfl, rfl⟩
theorem way_formed (a b:Value):(Value.agg #[a,b]).formed Tryz.prog 127=true:=by
 obtain⟨fs,hu,_⟩:=way_str;simp [Value.formed,hu,way_cells]
theorem lit_int (d:Nat) {k:Int} (h:(Lit.int .i64 k).wf=true):Tryz.prog.keyLits (d+1) 3 [.int .i64 k]=some [.int .i64 k]:=by
 unfold Program.keyLits;rw [Tryz.underlying3];simp only [];rw [if_pos ⟨trivial,h⟩]
theorem lit_way (d:Nat) {k:Int}{t:ByteArray} (h:(Lit.int .i64 k).wf=true) (g:t.size≤maxLen):Tryz.prog.keyLits (d+1+1) 127 [.int .i64 k,.string t]=some [.int .i64 k,.string t.data.toList]:=by
 obtain⟨fs,hu,hn,hf⟩:=way_str;unfold Program.keyLits;rw [hu];simp only [];rw [if_pos ⟨by rw [way_cells];rfl,hn⟩];obtain⟨l,hl⟩:∃ l,fs.toList=l:=⟨_,rfl⟩;rw [hl] at hf ⊢;clear hl;rcases l with _|⟨p,_|⟨q,_|⟨r,l⟩⟩⟩
 · exact absurd (congrArg List.length hf) (by simp)
 · exact absurd (congrArg List.length hf) (by simp)
 · simp only [List.map_cons,List.map_nil,List.cons.injEq,Prod.mk.injEq] at hf;obtain⟨⟨p1,p2⟩,⟨q1,q2⟩,_⟩:=hf;rw [mapM_two _ p q (u:=[.int .i64 k]) (v:=[.string t.data.toList]) (by rw [p1,p2,int_one];exact lit_int d h) (by rw [q1,q2,k_one];exact lit_str d g)];rfl
 · exact absurd (congrArg List.length hf) (by simp)
theorem way_wf {i:Nat} (h:i≤1000):(Lit.int .i64 (i:Int)).wf=true:=by
 show (decide (IntKind.i64.min≤(i:Int)) && decide ((i:Int)≤IntKind.i64.max))=true;rw [show IntKind.i64.min= -9223372036854775808 from rfl,show IntKind.i64.max=9223372036854775807 from rfl];simp;omega
theorem way_lit {i:Nat}{p:B} (h:shW i p):keyOf Tryz.prog 127 (wayV i p)=some (wayL i p):=by
 have hb:(str p).size≤maxLen:=by rw [str_size];have:=h.2;unfold maxLen;omega
 obtain⟨fs,hu,_⟩:=way_str;unfold keyOf;rw [hu];simp only [];rw [way_type,show (wayV i p).formed Tryz.prog 127=true from way_formed _ _,if_pos (show (true && true)=true from rfl),k_size];have h1:=lit_way (262-1) (way_wf h.1) hb;rw [show (262-1+1+1:Nat)=262+1 from rfl] at h1;have h2:(wayV i p).cells.toList= [.int .i64 (i:Int),.string (str p)]:=rfl;rw [h2,h1];rfl
theorem wayL_inj {i j:Nat}{p q:B} (h:shW i p) (g:shW j q) (e:wayL i p=wayL j q):i=j∧p=q:=by
 have h1:=way_lit h;rw [e] at h1;have h2:=lawW.inj h1 (way_lit g);unfold wayV at h2;injection h2 with h2
 have h3:=congrArg Array.toList h2;simp only [List.cons.injEq,Value.string.injEq,Value.int.injEq] at h3;exact⟨by have:=h3.1.2;omega,str_inj h3.2.1⟩
theorem wayL_is {i:Nat}{p:B} (h:shW i p):WideAt.IsKeyLit (wayL i p):=lawW.key (way_lit h)
def slcR:Value→Option (DataW Value×List MemPlace)
 | .slice p n c=>some (.held (.slice p n c),[])
 |_=>none
theorem slcR_inv {v u:Value}{ps:List MemPlace} (h:slcR v=some (.held u,ps)):v=u:=by
 cases v <;> simp [slcR] at h;exact h.1
theorem zeroS (w:World):(zeroValue 87).run Tryz.prog w= .ok (.slice none 0 0) w:=by kernel_rfl
def WayM (w:World) (m M:Nat) (v:Nat→B→Value):Prop:=∃ n D,w.ownsMap Tryz.prog 127 slcR m n D∧n≤M∧∀ i p,shW i p→D.atKey (wayL i p) (.held (.slice none 0 0))= .held (v i p)
theorem WayM.keep {w w':World}{m M:Nat}{v:Nat→B→Value} (h:WayM w m M v) (hk:w'.heap[m]?=w.heap[m]?):WayM w' m M v:=by
 obtain⟨n,D,⟨es,clock,h1,r⟩,h2⟩:=h;exact⟨n,D,⟨es,clock,hk.trans h1,r⟩,h2⟩
theorem WayM.lt {w:World}{m M:Nat}{v:Nat→B→Value} (h:WayM w m M v):m<w.heap.size:=by
 obtain⟨n,D,h1,_⟩:=h;exact World.ownsMap.lt h1
theorem WayM.made (w:World) (M:Nat):WayM (w.alloc (.map #[] 0)) w.heap.size M (fun _ _=>.slice none 0 0):=⟨0,.map [],World.ownsMap_made w Tryz.prog 127 _,Nat.zero_le _,fun _ _ _=>rfl⟩
theorem WayM.look {w:World}{m M:Nat}{v:Nat→B→Value} (h:WayM w m M v) {i:Nat}{p:B} (hs:shW i p):(Instr.lookup 78 (.map (some m)) (wayV i p) false).run Tryz.prog w= .ok (v i p) w:=by
 obtain⟨n,D,ho,_,hf⟩:=h;obtain⟨u,ps,h1,h2⟩:=ho.lookup lawW Tryz.underlying78 (zeroS w) (zd:=.held (.slice none 0 0)) (zp:=[]) rfl (way_lit hs);rw [hf i p hs] at h2;rw [h1,slcR_inv h2]
theorem WayM.put {w:World}{m M:Nat}{v:Nat→B→Value} (h:WayM w m M v) (hM:M<1000000) {i:Nat}{p:B} (hs:shW i p) {q:Option Addr}{n c:Nat}:
  ∃ w',(Instr.mapUpdate 78 (.map (some m)) (wayV i p) (.slice q n c)).run Tryz.prog w= .ok () w'∧WayM w' m (M+1) (fun j r=>if j=i∧r=p then .slice q n c else v j r)∧w.grownBy w' (some m):=by
 obtain⟨k,D,ho,hk,hf⟩:=h;obtain⟨w',hr,ho',ht⟩:=ho.store lawW Tryz.underlying78 (by unfold maxLen;omega) (way_lit hs) (d:=.held (.slice q n c)) (ps:=[]) (val:=.slice q n c) (by rfl);refine⟨w',hr,⟨k+1,_,ho',by omega,fun j r hjr=>?_⟩,ht.grown⟩;dsimp only;by_cases e:j=i∧r=p
 · rw [if_pos e];obtain⟨rfl,rfl⟩:=e;exact Maps.atKey_put_same ho.isMap (wayL_is hs) _ _
 · rw [if_neg e,Maps.atKey_put_other (fun e1=>e (wayL_inj hjr hs e1))];exact hf j r hjr
def TabX (w:World) (X:Nat→Prop) (t:Nat) (P:List (B×Int)):Prop:=∃ m v1 v2 L,Tab w t P m v1 v2 L∧∀ i,Ft t m v1 v2 i→X i
theorem TabX.keep {w w':World}{X:Nat→Prop}{t:Nat}{P:List (B×Int)} (h:TabX w X t P) (hk:∀ i,X i→i<w.heap.size→w'.heap[i]?=w.heap[i]?):TabX w' X t P:=by
 obtain⟨m,v1,v2,L,h1,h2⟩:=h;exact⟨m,v1,v2,L,h1.keep (fun i hi hl=>hk i (h2 i hi) hl),h2⟩
theorem addX_any {w:World}{X:Nat→Prop}{t:Nat}{P:List (B×Int)} (h:TabX w X t P) (hmx:MxAt w) (p:B) (hp:p.length≤9223372036854775807) (id:Int) (hw:(Lit.int .i64 id).wf=true):
  Calls Tryz.prog 102 #[.pointer (some ⟨t,0,none⟩),.string (str p),.int .i64 id] w fun e w'=>e= .returned (errOf (addE P p))∧TabX w' (fun i=>X i∨(w.heap.size≤i∧i<w'.heap.size)) t (addP P p id)∧Kept X w w':=by
 obtain⟨m,v1,v2,L,h1,h2⟩:=h;refine(add_any h1 hmx p hp id hw).mono ?_;rintro e w' ⟨he,m',v1',v2',L',k1,k2⟩;exact⟨he,⟨m',v1',v2',L',k1,fun i hi=>(k2.fp i hi).elim (fun h=>.inl (h2 i h)) (fun e1=>.inr ⟨e1,k1.tab.lt hi⟩)⟩,k2.kept.mono (fun i _ h=>h2 i h)⟩
abbrev OwnN:=OwnR 3 1 (fun x:Int=>[.int .i64 x])
theorem infoN:(Tryz.prog.info? 3).map (fun i=>(i.zero,i.size,i.bytes))=some (some (.int .i64 0),1,8):=by kernel_rfl
theorem OwnN.num {w:World}{b n c j:Nat}{p:Option Addr}{l:List Int}{x:Int} (h:OwnN w b (.slice p n c) l) (hj:l[j]?=some x):∃ g,p=some ⟨g,0,none⟩∧w.cell? ⟨g,j,none⟩=some (.int .i64 x):=by
 obtain⟨g,e,hc⟩:=OwnR.at (sz:=1) (f:=fun x:Int=>[Value.int .i64 x]) (fun _=>rfl) h hj;refine⟨g,e,?_⟩;have:=hc 0 _ rfl
 rwa [Nat.one_mul,Nat.add_zero] at this
inductive OwQ where
 |out|tbl|hst|pth|tri (i:Nat)|map|way (i:Nat) (p:B)|rts|loc
structure EntX where
 path:B
 ms:List B
 q:Option Addr
 k:Nat
abbrev entF (x:EntX):List Value:=[.string (str x.path),.slice x.q x.ms.length x.k]
abbrev OwnE_q:=OwnR 91 2 entF
abbrev OwnA:=OwnR 128 1 (fun b:Nat=>[.pointer (some ⟨b,0,none⟩)])
structure QC where
 gs:List B
 tp:Nat→List (B×Int)
 wy:Nat→B→List Int
 es:List (B×List B)
 M:Nat
structure TblI (b0:Nat) (w:World) (O:Nat→OwQ) (t gh m:Nat) (vp vr:Value) (ts:List Nat) (wv:Nat→B→Value) (es:List EntX) (C:QC):Prop where
 bx:w.heap[t]?=some (.cells #[.pointer (some ⟨gh,0,none⟩),vp,.map (some m),vr] 82 (0,0))
 ot:O t= .tbl
 hst:TabX w (fun b=>O b= .hst) gh (idxP C.gs)
 pth:OwnA w 0 vp ts
 opt:∀ b,vp.ownBlock=some b→O b= .pth
 tri:∀ i b,ts[i]?=some b→∃ Mi,Mi≤64*C.M∧TrX w (fun k=>O k= .tri i) b (C.tp i) Mi
 map:WayM w m C.M wv
 om:O m= .map
 way:∀ i p,shW i p→OwnN w 0 (wv i p) (C.wy i p)∧∀ b,(wv i p).ownBlock=some b→O b= .way i p
 rts:OwnE_q w 0 vr es
 ort:∀ b,vr.ownBlock=some b→O b= .rts
 esc:es.map (fun x=>(x.path,x.ms))=C.es
 ems:∀ x∈es,TxAt w x.q x.ms∧∀ g o,x.q=some ⟨g,o,none⟩→O g= .loc
 lt:∀ b,O b≠ .out→b<w.heap.size
 lo:∀ b,O b≠ .out→b0≤b
structure Chg (O O':Nat→OwQ) (w w':World) (F:OwQ→Prop):Prop where
 kept:Kept (fun b=>F (O b)) w w'
 own:∀ b,O b≠ .out→O' b=O b
 lt:∀ b,O' b≠ .out→b<w'.heap.size
 new:∀ b,O' b≠ .out→O b= .out→w.heap.size≤b
section
variable {O O' O'' : Nat → OwQ} {w w' w'' : World} {F G : OwQ → Prop} {b0 t gh m : Nat} {vp vr : Value} {ts : List Nat} {wv : Nat → B → Value} {es : List EntX} {C : QC}
theorem Chg.same (c:Chg O O' w w' F) {i:Nat} (hi:i<w.heap.size):O' i=O i:=by
 by_cases h:O i= .out
 · rw [h];refine Classical.byContradiction fun h2=>?_
   have:=c.new i h2 h;omega
 · exact c.own i h
theorem Chg.trans (c:Chg O O' w w' F) (d:Chg O' O'' w' w'' F):Chg O O'' w w'' F where
 kept:=c.kept.trans d.kept (fun i hi h=>by rw [c.same hi] at h;exact h)
 own:=fun b hb=>(d.own b (by rw [c.own b hb];exact hb)).trans (c.own b hb)
 lt:=d.lt
 new:=fun b hb hb2=>by
  by_cases h:O' b= .out
  · exact Nat.le_trans c.kept.size (d.new b hb h)
  · exact c.new b h hb2
theorem Chg.mono (c:Chg O O' w w' F) (h:∀ x,F x→G x):Chg O O' w w' G:=⟨c.kept.mono (fun _ _ hf=>h _ hf),c.own,c.lt,c.new⟩
theorem Chg.below (c:Chg O O' w w' F) (hs:b0≤w.heap.size) (hlo:∀ b,O b≠ .out→b0≤b) (hF:¬F .out):Below b0 w w':=c.kept.below hs (fun i hi=>hlo i (fun e=>hF (by rw [←e];exact hi)))
theorem Chg.of_below (hb:Below w.heap.size w w') (hlt:∀ b,O b≠ .out→b<w.heap.size):Chg O O w w' F:=
 ⟨Below.kept hb,fun _ _=>rfl,fun b h=>Nat.lt_of_lt_of_le (hlt b h) hb.size,fun _ h h2=>absurd h2 h⟩
theorem Chg.blk (c:Chg O O' w w' F) {b:Nat}{x:OwQ} (hb:b<w.heap.size) (ho:O b=x) (hx:¬F x):w'.heap[b]?=w.heap[b]?:=c.kept.block b hb (by rw [ho];exact hx)
theorem TabX.wide {X Y:Nat→Prop}{P:List (B×Int)} (h:TabX w X t P) (hXY:∀ i,X i→Y i):TabX w Y t P:=by
 obtain⟨m,v1,v2,L,h1,h2⟩:=h;exact⟨m,v1,v2,L,h1,fun i hi=>hXY i (h2 i hi)⟩
theorem TrX.wide {X Y:Nat→Prop}{P:List (B×Int)}{M:Nat} (h:TrX w X t P M) (hXY:∀ i,X i→Y i):TrX w Y t P M:=by
 obtain⟨G,es,v,h1,h2⟩:=h;exact⟨G,es,v,h1,fun i hi=>hXY i (h2 i hi)⟩
theorem tx_keepB {p:Option Addr}{l:List B} (h:TxAt w p l) (hk:∀ g o,p=some ⟨g,o,none⟩→w'.heap[g]?=w.heap[g]?):TxAt w' p l:=by
 intro j x hj;obtain⟨g,o,e,hc⟩:=h j x hj;exact⟨g,o,e,cell_same hc (hk g o e)⟩
theorem tx_lt {p:Option Addr}{l:List B} (h:TxAt w p l) {g o:Nat} (e:p=some ⟨g,o,none⟩) (hl:l≠ []):g<w.heap.size:=by
 obtain⟨x,r,rfl⟩:=List.exists_cons_of_ne_nil hl;obtain⟨g1,o1,e1,hc⟩:=h 0 x rfl;rw [e] at e1;injection e1 with e1
 injection e1 with e1 _ _
 subst e1;exact lt_of_cell hc
section
variable (h : TblI b0 w O t gh m vp vr ts wv es C) (c : Chg O O' w w' F)
include h c
theorem TblI.kBx (hF:¬F .tbl):w'.heap[t]?=some (.cells #[.pointer (some ⟨gh,0,none⟩),vp,.map (some m),vr] 82 (0,0)):=(c.blk (lt_of_heap h.bx) h.ot hF).trans h.bx
theorem TblI.kOt:O' t= .tbl:=(c.own t (by rw [h.ot];simp)).trans h.ot
theorem TblI.kHst (hF:¬F .hst):TabX w' (fun b=>O' b= .hst) gh (idxP C.gs):=
 (h.hst.keep (fun i hi hl=>c.blk hl hi hF)).wide (fun i hi=>(c.own i (by rw [show O i= .hst from hi];simp)).trans hi)
theorem TblI.kPth (hF:¬F .pth):OwnA w' 0 vp ts:=h.pth.keepB (fun g e=>c.blk (h.pth.lt e) (h.opt g e) hF)
theorem TblI.kOpt:∀ b,vp.ownBlock=some b→O' b= .pth:=fun b e=>(c.own b (by rw [h.opt b e];simp)).trans (h.opt b e)
theorem TblI.kTri {i b:Nat} (hb:ts[i]?=some b) (hF:¬F (.tri i)):∃ Mi,Mi≤64*C.M∧TrX w' (fun k=>O' k= .tri i) b (C.tp i) Mi:=by
 obtain⟨Mi,h1,h2⟩:=h.tri i b hb;exact⟨Mi,h1,(h2.keep (fun k hk hl=>c.blk hl hk hF)).wide (fun k hk=>(c.own k (by rw [show O k= .tri i from hk];simp)).trans hk)⟩
theorem TblI.kMap (hF:¬F .map):WayM w' m C.M wv:=h.map.keep (c.blk h.map.lt h.om hF)
theorem TblI.kOm:O' m= .map:=(c.own m (by rw [h.om];simp)).trans h.om
theorem TblI.kWay {i:Nat}{p:B} (hs:shW i p) (hF:¬F (.way i p)):OwnN w' 0 (wv i p) (C.wy i p)∧∀ b,(wv i p).ownBlock=some b→O' b= .way i p:=
 ⟨(h.way i p hs).1.keepB (fun g e=>c.blk ((h.way i p hs).1.lt e) ((h.way i p hs).2 g e) hF),fun b e=>(c.own b (by rw [(h.way i p hs).2 b e];simp)).trans ((h.way i p hs).2 b e)⟩
theorem TblI.kRts (hF:¬F .rts):OwnE_q w' 0 vr es:=h.rts.keepB (fun g e=>c.blk (h.rts.lt e) (h.ort g e) hF)
theorem TblI.kOrt:∀ b,vr.ownBlock=some b→O' b= .rts:=fun b e=>(c.own b (by rw [h.ort b e];simp)).trans (h.ort b e)
theorem TblI.kEms (hF:¬F .loc):∀ x∈es,TxAt w' x.q x.ms∧∀ g o,x.q=some ⟨g,o,none⟩→O' g= .loc:=fun x hx=>by
 obtain⟨h1,h2⟩:=h.ems x hx;exact⟨tx_keepB h1 (fun g o e=>c.blk (h.lt g (by rw [h2 g o e];simp)) (h2 g o e) hF),fun g o e=>(c.own g (by rw [h2 g o e];simp)).trans (h2 g o e)⟩
theorem TblI.kLo (hs:b0≤w.heap.size):∀ b,O' b≠ .out→b0≤b:=fun b hb=>by
 by_cases e:O b= .out
 · exact Nat.le_trans hs (c.new b hb e)
 · exact h.lo b e
theorem TblI.step (hs:b0≤w.heap.size) (hF:∀ x,x≠ .out→¬F x):TblI b0 w' O' t gh m vp vr ts wv es C:=
 ⟨h.kBx c (hF _ (by simp)),h.kOt c,h.kHst c (hF _ (by simp)),h.kPth c (hF _ (by simp)),h.kOpt c,fun _ _ hb=>h.kTri c hb (hF _ (by simp)),h.kMap c (hF _ (by simp)),h.kOm c,fun _ _ hp=>h.kWay c hp (hF _ (by simp)),h.kRts c (hF _ (by simp)),h.kOrt c,h.esc,h.kEms c (hF _ (by simp)),c.lt,h.kLo c hs⟩
end
theorem TblI.next (h:TblI b0 w O t gh m vp vr ts wv es C) (hs:b0≤w.heap.size) (hb:Below w.heap.size w w'):TblI b0 w' O t gh m vp vr ts wv es C:=
 h.step (F:=fun _=>False) (Chg.of_below hb h.lt) hs (fun _ _ h=>h)
theorem TblI.claim (h:TblI b0 w O t gh m vp vr ts wv es C) (own:∀ b,O b≠ .out→O' b=O b) (lt:∀ b,O' b≠ .out→b<w.heap.size) (lo:∀ b,O' b≠ .out→b0≤b):TblI b0 w O' t gh m vp vr ts wv es C where
 bx:=h.bx
 ot:=(own t (by rw [h.ot];simp)).trans h.ot
 hst:=h.hst.wide (fun i hi=>(own i (by rw [show O i= .hst from hi];simp)).trans hi)
 pth:=h.pth
 opt:=fun b e=>(own b (by rw [h.opt b e];simp)).trans (h.opt b e)
 tri:=fun i b hb=>by
  obtain⟨Mi,h1,h2⟩:=h.tri i b hb;exact⟨Mi,h1,h2.wide (fun k hk=>(own k (by rw [show O k= .tri i from hk];simp)).trans hk)⟩
 map:=h.map
 om:=(own m (by rw [h.om];simp)).trans h.om
 way:=fun i p hs=>⟨(h.way i p hs).1,fun b e=>(own b (by rw [(h.way i p hs).2 b e];simp)).trans ((h.way i p hs).2 b e)⟩
 rts:=h.rts
 ort:=fun b e=>(own b (by rw [h.ort b e];simp)).trans (h.ort b e)
 esc:=h.esc
 ems:=fun x hx=>⟨(h.ems x hx).1,fun g o e=>(own g (by rw [(h.ems x hx).2 g o e];simp)).trans ((h.ems x hx).2 g o e)⟩
 lt:=lt
 lo:=lo
def takeQ (O:Nat→OwQ) (n n':Nat) (x:OwQ):Nat→OwQ:=fun b=>if n≤b∧b<n' then x else O b
theorem Chg.take (hk:Kept (fun b=>F (O b)) w w') (hlt:∀ b,O b≠ .out→b<w.heap.size) (x:OwQ):Chg O (takeQ O w.heap.size w'.heap.size x) w w' F where
 kept:=hk
 own:=fun b hb=>if_neg (fun h=>by have:=hlt b hb;omega)
 lt:=fun b hb=>by
  unfold takeQ at hb;split at hb
  · omega
  · exact Nat.lt_of_lt_of_le (hlt b hb) hk.size
 new:=fun b hb h=>by
  unfold takeQ at hb;split at hb
  · omega
  · exact absurd h hb
theorem take_new (O:Nat→OwQ) {n n':Nat} (x:OwQ) {b:Nat} (h1:n≤b) (h2:b<n'):takeQ O n n' x b=x:=if_pos ⟨h1,h2⟩
end
end Go.Proofs.YtlmlljlappjjjaaGreatDoor
