/- The document: are two patterns alike; may two routes not stand in one table. -/
import Derived.Test.YtlmlljlappjjjaaGreatDoorQChk
namespace Go.Proofs.YtlmlljlappjjjaaGreatDoor
set_option maxRecDepth 20000
set_option maxHeartbeats 16000000
open Go.RowKit
theorem radd_one (p:B) (hp:p.length≤4398046511104) (id:Int) (w:World):Calls Tryz.prog 106 #[.slice none 0 0,.string (str p),.int .i64 id] w fun e w'=>((checkP p=false∧e= .returned (.tuple #[.slice none 0 0,.int .i64 3]))∨(checkP p=true∧∃ q d,e= .returned (.tuple #[.slice q 1 d,.int .i64 0])∧OwnP_r w' w.heap.size (.slice q 1 d) [(p,id)]))∧Below w.heap.size w w':=by
 refine(radd_any_r [] (by simp) (by simp) p hp id none 0 0 w.heap.size rfl w (OwnR.nil _ _)).mono ?_;rintro e w' ⟨hb,h⟩;refine⟨?_,hb⟩;rcases h with ⟨h1,h2⟩|⟨h1,q,d,h2,h3⟩
 · left;cases hc:checkP p with
   |false=>exact⟨rfl,by rw [h2];unfold addE_r;rw [hc];rfl⟩
   |true=>exact absurd (show addE_r [] p=0 from by unfold addE_r;rw [hc];rfl) h1
 · right;cases hc:checkP p with
   |false=>exact absurd h1 (by unfold addE_r;rw [hc];simp)
   |true=>exact⟨rfl,q,d,h2,h3⟩
theorem radd_two (a:B) (ha:checkP a=true) (p:B) (hp:p.length≤4398046511104) (i id:Int) (q:Option Addr) (d base:Nat) (w:World) (hR:OwnP_r w base (.slice q 1 d) [(a,i)]):Calls Tryz.prog 106 #[.slice q 1 d,.string (str p),.int .i64 id] w fun e w'=>(∃ v,e= .returned (.tuple #[v,.int .i64 (addE_r [(a,i)] p:Int)]))∧Below w.heap.size w w':=by
 refine(radd_any_r [(a,i)] (by simpa using ha) (by simp) p hp id q 1 d base rfl w hR).mono ?_;rintro e w' ⟨hb,h⟩;refine⟨?_,hb⟩;rcases h with ⟨h1,h2⟩|⟨h1,q2,d2,h2,h3⟩
 · exact⟨_,h2⟩
 · exact⟨_,by rw [h1];exact h2⟩
theorem likeR_eq (a b:B) (i:Int) (ha:checkP a=true):likeR a b=decide (addE_r [(a,i)] b=6):=by
 unfold likeR addE_r;rw [ha,Bool.true_and];cases checkP b with
 |false=>rfl
 |true=>
  rw [if_pos rfl,Bool.true_and];by_cases h:keysP a=keysP b
  · simp [h]
  · simp [h]
theorem addE_le_q (a b:B) (i:Int):addE_r [(a,i)] b≤6:=by
 unfold addE_r;repeat' split
 all_goals omega
theorem rlike_any (a b:B) (ha:a.length≤4398046511104) (hb:b.length≤4398046511104) (w:World):Calls Tryz.prog 64 #[.string (str a),.string (str b)] w fun e w'=>e= .returned (.bool (likeR a b))∧Below w.heap.size w w':=by
 have HA:=hid (fun W:World=>radd_one a ha 0 W);have HB1:=hid (fun W:World=>radd_one b hb 1 W);cases hc:checkP a with
 |false=>
  have HV:=hid (show likeR a b=false from by unfold likeR;rw [hc];rfl);rw [hc] at HA;obtain⟨A,hA⟩:∃ A,str a=A:=⟨_,rfl⟩;obtain⟨Z,hZ⟩:∃ A,str b=A:=⟨_,rfl⟩;rw [hA] at HA ⊢;rw [hZ] at HB1 ⊢;clear hA hZ hc ha hb;go_enter Tryz.func64,Tryz.ntmps64;go_wp2_with (first|(go_at_call 106;(with_reducible refine(HA.out _).mono ?_);rintro e w1 ⟨(⟨_,rfl⟩|⟨hx,_⟩),hb⟩;rotate_left;(cases hx);have HQ:=hid hb;clear hb)|(go_at_call 106;(with_reducible refine(HB1.out _).mono ?_);rintro e w2 ⟨(⟨_,rfl⟩|⟨_,q,d,rfl,_⟩),hb⟩ <;> (have HQ2:=hid (below_out HQ.out hb);clear hb)));all_goals
   go_ret;exact⟨ret_bool HV.out.symm,HQ2.out⟩
 |true=>
  have HV:=hid (likeR_eq a b 0 hc);have HE:=hid (addE_le_q a b 0);have HT:=hid (fun (q:Option Addr) (d base:Nat) (W:World) (h:OwnP_r W base (.slice q 1 d) [(a,0)])=>radd_two a hc b hb 0 1 q d base W h);rw [hc] at HA;obtain⟨E,hE⟩:∃ E,addE_r [(a,0)] b=E:=⟨_,rfl⟩;rw [hE] at HT HV HE;obtain⟨A,hA⟩:∃ A,str a=A:=⟨_,rfl⟩;obtain⟨Z,hZ⟩:∃ A,str b=A:=⟨_,rfl⟩;rw [hA] at HA ⊢;rw [hZ] at HT ⊢;clear hA hZ hc ha hb hE HB1;go_enter Tryz.func64,Tryz.ntmps64;go_wp2_with (first|(go_at_call 106;(with_reducible refine(HA.out _).mono ?_);rintro e w1 ⟨(⟨hx,_⟩|⟨_,q,d,rfl,ho⟩),hb⟩;(cases hx);have HQ:=hid hb;have HO:=hid ho;clear hb ho)|(go_at_call 106;(with_reducible refine(HT.out _ _ _ _ HO.out).mono ?_);rintro e w2 ⟨⟨v,rfl⟩,hb⟩;have HQ2:=hid (below_out HQ.out hb);clear hb));all_goals
   go_ret;exact⟨ret_bool (by rw [HV.out];first|rfl|(rw [Bool.eq_iff_iff];simp;try omega)),HQ2.out⟩
def clashR (a b:RtC):Bool:=decide (lowH a.host=lowH b.host) && likeR a.path b.path && (decide (a.path≠b.path) || meetR a.ms b.ms)
theorem same_low_q (a b:B):sameB (str a) (str b)=decide (lowH a=lowH b):=by
 unfold sameB;rw [lowS_strH,lowS_strH];exact decide_eq_decide.2 ⟨str_inj,fun h=>by rw [h]⟩
structure BxR (w W:World) (O1 O2:Obj):Prop where
 low:Below w.heap.size w W
 a:W.heap[w.heap.size]?=some O1
 b:W.heap[w.heap.size+1]?=some O2
theorem BxR.next {w W W':World}{O1 O2:Obj} (h:BxR w W O1 O2) (hb:Below W.heap.size W W'):BxR w W' O1 O2:=⟨below_out h.low hb,kB hb h.a,kB hb h.b⟩
theorem BxR.new (w:World) (O1 O2:Obj):BxR w ((w.alloc O1).alloc O2) O1 O2:=by
 have hs:(w.alloc O1).heap.size=w.heap.size+1:=by simp
 have h1:=heap_alloc_new (w.alloc O1) O2;rw [hs] at h1;exact⟨below_out (below_new w O1) (below_new _ _),((below_new (w.alloc O1) O2).block _ (by rw [hs];omega)).trans (heap_alloc_new w O1),h1⟩
theorem rclash_any (a b:RtC) (p q:Option Addr) (n c m d:Nat) (hn:a.ms.length=n) (hm:b.ms.length=m) (hnn:n≤140737488355328) (hmm:m≤140737488355328) (h1:a.host.length≤140737488351232) (h2:a.path.length≤4398046511104) (h3:b.host.length≤140737488351232) (h4:b.path.length≤4398046511104) (v3 v4 v5 v6 v7 v8 v9 v10 v11 v12 u3 u4 u5 u6 u7 u8 u9 u10 u11 u12:Value) (w:World) (hT:TxAt w p a.ms) (hU:TxAt w q b.ms):Calls Tryz.prog 29 #[.agg #[.string (str a.host),.string (str a.path),.slice p n c,v3,v4,v5,v6,v7,v8,v9,v10,v11,v12],.agg #[.string (str b.host),.string (str b.path),.slice q m d,u3,u4,u5,u6,u7,u8,u9,u10,u11,u12]] w fun e w'=>e= .returned (.bool (clashR a b))∧Below w.heap.size w w':=by
 have HS:=hid (fun W:World=>rsame_any (str a.host) (str b.host) W (by rw [str_size];exact h1) (by rw [str_size];exact h3));have HL:=hid (fun W:World=>rlike_any a.path b.path h2 h4 W);have HM:=hid (fun (W:World) (hb:Below w.heap.size w W)=>rmeet_any a.ms b.ms p q n c m d hn hm hnn hmm W (hT.next hb) (hU.next hb));simp only [same_low_q] at HS;unfold clashR;obtain⟨s,hs⟩:∃ s,decide (lowH a.host=lowH b.host)=s:=⟨_,rfl⟩;obtain⟨k,hk⟩:∃ s,likeR a.path b.path=s:=⟨_,rfl⟩;obtain⟨t,ht⟩:∃ s,meetR a.ms b.ms=s:=⟨_,rfl⟩;rw [hs] at HS ⊢;rw [hk] at HL ⊢;rw [ht] at HM ⊢;have HPq:=hid (show ∀ S1 S2,str a.path=S1→str b.path=S2→(decide (a.path≠b.path)=decide (¬S1=S2)) from fun S1 S2 e1 e2=>by rw [←e1,←e2];exact decide_eq_decide.2 ⟨fun h e=>h (str_inj e),fun h e=>h (by rw [e])⟩);obtain⟨A1,hA1⟩:∃ S,str a.host=S:=⟨_,rfl⟩;obtain⟨A2,hA2⟩:∃ S,str a.path=S:=⟨_,rfl⟩;obtain⟨B1,hB1⟩:∃ S,str b.host=S:=⟨_,rfl⟩;obtain⟨B2,hB2⟩:∃ S,str b.path=S:=⟨_,rfl⟩;rw [HPq.out A2 B2 hA2 hB2];rw [hA1,hB1] at HS ⊢;rw [hA2,hB2] at HL ⊢;have HB:=hid (BxR.new w (.cells #[.string A1,.string A2,.slice p n c,v3,v4,v5,v6,v7,v8,v9,v10,v11,v12] 42 (0,0)) (.cells #[.string B1,.string B2,.slice q m d,u3,u4,u5,u6,u7,u8,u9,u10,u11,u12] 42 (0,0)));clear hs hk ht HPq hA1 hA2 hB1 hB2 hn hm hT hU h1 h2 h3 h4;have fin:∀ {x y:Bool}{W:World},x=y→Below w.heap.size w W→Ending.returned (.bool x)=Ending.returned (.bool y)∧Below w.heap.size w W:=fun h1 h2=>⟨ret_bool h1,h2⟩
 cases s with
 |false=>
  go_enter Tryz.func29,Tryz.ntmps29;go_wp2_with (go_at_call 37;(with_reducible refine(HS.out _).mono ?_);rintro e w1 ⟨rfl,hb⟩;replace HB:=hid (HB.out.next hb);obtain⟨x0,x1,x2⟩:=cells_r3 HB.out.a;obtain⟨y0,y1,y2⟩:=cells_r3 HB.out.b;clear hb);go_ret;exact fin rfl HB.out.low
 |true=>
  cases k with
  |false=>
   go_enter Tryz.func29,Tryz.ntmps29;go_wp2_with (first|(go_at_call 37;(with_reducible refine(HS.out _).mono ?_);rintro e w1 ⟨rfl,hb⟩;replace HB:=hid (HB.out.next hb);obtain⟨x0,x1,x2⟩:=cells_r3 HB.out.a;obtain⟨y0,y1,y2⟩:=cells_r3 HB.out.b;clear hb)|(go_at_call 64;(with_reducible refine(HL.out _).mono ?_);rintro e w1 ⟨rfl,hb⟩;replace HB:=hid (HB.out.next hb);obtain⟨x0,x1,x2⟩:=cells_r3 HB.out.a;obtain⟨y0,y1,y2⟩:=cells_r3 HB.out.b;clear hb));go_ret;exact fin rfl HB.out.low
  |true=>
   by_cases hp:A2=B2
   · subst hp;go_enter Tryz.func29,Tryz.ntmps29;go_wp2_with (first|(go_at_call 37;(with_reducible refine(HS.out _).mono ?_);rintro e w1 ⟨rfl,hb⟩;replace HB:=hid (HB.out.next hb);obtain⟨x0,x1,x2⟩:=cells_r3 HB.out.a;obtain⟨y0,y1,y2⟩:=cells_r3 HB.out.b;clear hb)|(go_at_call 64;(with_reducible refine(HL.out _).mono ?_);rintro e w1 ⟨rfl,hb⟩;replace HB:=hid (HB.out.next hb);obtain⟨x0,x1,x2⟩:=cells_r3 HB.out.a;obtain⟨y0,y1,y2⟩:=cells_r3 HB.out.b;clear hb)|(go_at_call 65;(with_reducible refine(HM.out _ HB.out.low).mono ?_);rintro e w2 ⟨rfl,hw2⟩;subst w2));go_ret;exact fin (by simp) HB.out.low
   · have hbf:=ne_list hp;go_enter Tryz.func29,Tryz.ntmps29;go_wp2_with (first|(go_at_call 37;(with_reducible refine(HS.out _).mono ?_);rintro e w1 ⟨rfl,hb⟩;replace HB:=hid (HB.out.next hb);obtain⟨x0,x1,x2⟩:=cells_r3 HB.out.a;obtain⟨y0,y1,y2⟩:=cells_r3 HB.out.b;clear hb)|(go_at_call 64;(with_reducible refine(HL.out _).mono ?_);rintro e w1 ⟨rfl,hb⟩;replace HB:=hid (HB.out.next hb);obtain⟨x0,x1,x2⟩:=cells_r3 HB.out.a;obtain⟨y0,y1,y2⟩:=cells_r3 HB.out.b;clear hb));go_ret;exact fin (by simp [hp]) HB.out.low
structure RtX where
 r:RtC
 q:Option Addr
 k:Nat
 (v3 v4 v5 v6 v7 v8 v9 v10 v11 v12:Value)
abbrev rtXF (x:RtX):List Value:=[.string (str x.r.host),.string (str x.r.path),.slice x.q x.r.ms.length x.k,x.v3,x.v4,x.v5,x.v6,x.v7,x.v8,x.v9,x.v10,x.v11,x.v12]
structure RtsAt (w:World) (p:Option Addr) (l:List RtX):Prop where
 row:∀ (j:Nat) (x:RtX),l[j]?=some x→∃ g o,p=some ⟨g,o,none⟩∧∀ (t:Nat) (u:Value),(rtXF x)[t]?=some u→w.cell? ⟨g,o+j*13+t,none⟩=some u
 ms:∀ x∈l,TxAt w x.q x.r.ms
theorem RtsAt.next {w w':World}{p:Option Addr}{l:List RtX} (h:RtsAt w p l) (hb:Below w.heap.size w w'):RtsAt w' p l:=by
 refine⟨fun j x hj=>?_,fun x hx=>(h.ms x hx).next hb⟩;obtain⟨g,o,e,hc⟩:=h.row j x hj;exact⟨g,o,e,fun t u hu=>cell_keep hb (hc t u hu)⟩
structure RtZ (x:RtX):Prop where
 host:x.r.host.length≤140737488351232
 path:x.r.path.length≤4398046511104
 ms:x.r.ms.length≤140737488351232
 cap:x.r.ms.length≤x.k
 each:∀ y∈x.r.ms,y.length≤maxLen
structure RtC13 (w:World) (g o:Nat) (x:RtX):Prop where
 a0:w.cell? ⟨g,o,none⟩=some (.string (str x.r.host))
 a1:w.cell? ⟨g,o+1,none⟩=some (.string (str x.r.path))
 a2:w.cell? ⟨g,o+2,none⟩=some (.slice x.q x.r.ms.length x.k)
 a3:w.cell? ⟨g,o+3,none⟩=some x.v3
 a4:w.cell? ⟨g,o+4,none⟩=some x.v4
 a5:w.cell? ⟨g,o+5,none⟩=some x.v5
 a6:w.cell? ⟨g,o+6,none⟩=some x.v6
 a7:w.cell? ⟨g,o+7,none⟩=some x.v7
 a8:w.cell? ⟨g,o+8,none⟩=some x.v8
 a9:w.cell? ⟨g,o+9,none⟩=some x.v9
 a10:w.cell? ⟨g,o+10,none⟩=some x.v10
 a11:w.cell? ⟨g,o+11,none⟩=some x.v11
 a12:w.cell? ⟨g,o+12,none⟩=some x.v12
theorem RtsAt.at {w:World}{p:Option Addr}{l:List RtX} (h:RtsAt w p l) {j:Nat}{x:RtX} (hj:l[j]?=some x):∃ g o,p=some ⟨g,o,none⟩∧RtC13 w g (o+j*13) x:=by
 obtain⟨g,o,e,hc⟩:=h.row j x hj;exact⟨g,o,e,hc 0 _ rfl,hc 1 _ rfl,hc 2 _ rfl,hc 3 _ rfl,hc 4 _ rfl,hc 5 _ rfl,hc 6 _ rfl,hc 7 _ rfl,hc 8 _ rfl,hc 9 _ rfl,hc 10 _ rfl,hc 11 _ rfl,hc 12 _ rfl⟩
def clashAt (l:List RtC) (k i:Nat):Bool:=match l[k]?,l[i]? with
 |some a,some b=>clashR a b
 |_,_=>false
def twiceR (l:List RtC):Bool:=(List.range l.length).any fun i=>(List.range i).any fun k=>clashAt l k i
def newE (l:List RtC):Nat:=if 64<l.length then 9 else match l.find? (fun r=>decide (chkR r≠0)) with
 |some r=>chkR r
 |none=>if twiceR l then 6 else 0
theorem newE_long {l:List RtC} (h:64<l.length):newE l=9:=if_pos h
theorem newE_bad {l:List RtC} (h:l.length≤64) {i:Nat}{r:RtC} (hi:l[i]?=some r) (hb:chkR r≠0) (ha:∀ x∈l.take i,chkR x=0):newE l=chkR r:=by
 unfold newE;rw [if_neg (by omega)];have e:l.find? (fun r=>decide (chkR r≠0))=some r:=by
  obtain⟨h1,h2⟩:=List.getElem?_eq_some_iff.1 hi;rw [List.find?_eq_some_iff_append];refine⟨by simpa using hb,l.take i,l.drop (i+1),?_,fun x hx=>by simpa using ha x hx⟩;rw [←h2,←List.drop_eq_getElem_cons h1,List.take_append_drop]
 rw [e]
theorem newE_none {l:List RtC} (h:l.length≤64) (ha:∀ x∈l,chkR x=0):newE l=if twiceR l then 6 else 0:=by
 unfold newE;rw [if_neg (by omega)];have e:l.find? (fun r=>decide (chkR r≠0))=none:=by
  rw [List.find?_eq_none];intro x hx;simpa using ha x hx
 rw [e]
theorem twice_yes {l:List RtC}{i k:Nat} (hi:i<l.length) (hk:k<i) (h:clashAt l k i=true):twiceR l=true:=by
 unfold twiceR;rw [List.any_eq_true];exact⟨i,List.mem_range.2 hi,List.any_eq_true.2 ⟨k,List.mem_range.2 hk,h⟩⟩
theorem twice_no {l:List RtC} (h:∀ i,i<l.length→∀ k,k<i→clashAt l k i=false):twiceR l=false:=by
 rw [←Bool.not_eq_true];intro h2;unfold twiceR at h2;rw [List.any_eq_true] at h2;obtain⟨i,hi,h3⟩:=h2;rw [List.any_eq_true] at h3;obtain⟨k,hk,h4⟩:=h3;rw [h i (List.mem_range.1 hi) k (List.mem_range.1 hk)] at h4;cases h4
theorem map_r {l:List RtX}{i:Nat}{x:RtX} (h:l[i]?=some x):(l.map RtX.r)[i]?=some x.r:=by rw [List.getElem?_map,h];rfl
theorem all_next {l:List RtC}{i:Nat}{r:RtC} (h:∀ x∈l.take i,chkR x=0) (hi:l[i]?=some r) (hr:chkR r=0):∀ x∈l.take (i+1),chkR x=0:=by
 intro z hz;rw [List.take_add_one,hi,List.mem_append] at hz;rcases hz with hz|hz
 · exact h z hz
 · rw [List.mem_singleton.1 (show z∈ [r] from hz)];exact hr
def grpsR (L:List RtC):List B:=L.foldl (fun g r=>if lowH r.host∈g then g else g++ [lowH r.host]) []
theorem grps_snoc (L:List RtC) (r:RtC):grpsR (L++ [r])=if lowH r.host∈grpsR L then grpsR L else grpsR L++ [lowH r.host]:=by
 unfold grpsR;rw [List.foldl_append];rfl
def waysR (L:List RtC) (h p:B):List Nat:=(L.zipIdx.filter fun x=>decide (lowH x.1.host=h∧x.1.path=p)).map Prod.snd
theorem ways_snoc (L:List RtC) (r:RtC) (h p:B):waysR (L++ [r]) h p=waysR L h p++(if lowH r.host=h∧r.path=p then [L.length] else []):=by
 unfold waysR;rw [List.zipIdx_append,List.filter_append,List.map_append];congr 1;by_cases hc:lowH r.host=h∧r.path=p
 · simp [hc]
 · rw [if_neg hc];simp only [List.zipIdx_cons,List.zipIdx_nil,List.filter_cons,decide_eq_false hc];rfl
def trieR (L:List RtC) (h:B):List (B×Int):=L.zipIdx.foldl (fun t x=>if lowH x.1.host=h∧¬∃ y∈t,y.1=x.1.path then t++ [(x.1.path,(x.2:Int))] else t) []
theorem trie_snoc (L:List RtC) (r:RtC) (h:B):trieR (L++ [r]) h=if lowH r.host=h∧¬∃ y∈trieR L h,y.1=r.path then trieR L h++ [(r.path,(L.length:Int))] else trieR L h:=by
 unfold trieR;rw [List.zipIdx_append,List.foldl_append];simp
theorem snoc_ind {P:List RtC→Prop} (h0:P []) (h1:∀ L r,P L→P (L++ [r])):∀ L,P L:=by
 intro L;have h:∀ M:List RtC,P M.reverse:=by
  intro M
  induction M with
  |nil=>exact h0
  |cons x M ih=>rw [List.reverse_cons];exact h1 _ _ ih
 have:=h L.reverse
 rwa [List.reverse_reverse] at this
theorem mem_grps:∀ (L:List RtC) (h:B),h∈grpsR L↔∃ r∈L,lowH r.host=h:=by
 refine snoc_ind ?_ ?_
 · simp [grpsR]
 · intro L r ihh h;have ih:=ihh h;have ih0:∀ k,k∈grpsR L→∃ r∈L,lowH r.host=k:=fun k hk=>(ihh k).1 hk
   rw [grps_snoc];split
   · rename_i hm
     rw [ih];constructor
     · rintro ⟨x,hx,rfl⟩;exact⟨x,List.mem_append_left _ hx,rfl⟩
     · rintro ⟨x,hx,rfl⟩;rcases List.mem_append.1 hx with hx|hx
       · exact⟨x,hx,rfl⟩
       · rw [List.mem_singleton.1 hx];exact(ih0 _ hm)
   · rw [List.mem_append,List.mem_singleton,ih];constructor
     · rintro (⟨x,hx,rfl⟩|rfl)
       · exact⟨x,List.mem_append_left _ hx,rfl⟩
       · exact⟨r,by simp,rfl⟩
     · rintro ⟨x,hx,rfl⟩;rcases List.mem_append.1 hx with hx|hx
       · exact .inl ⟨x,hx,rfl⟩
       · exact .inr (by rw [List.mem_singleton.1 hx])
theorem nodup_grps:∀ L:List RtC,(grpsR L).Nodup:=by
 refine snoc_ind ?_ ?_
 · simp [grpsR]
 · intro L r ih;rw [grps_snoc];split
   · exact ih
   · rename_i hm
     rw [List.nodup_append];refine⟨ih,by simp,fun a ha b hb=>?_⟩;rw [List.mem_singleton.1 hb];exact fun e=>hm (e ▸ ha)
theorem mem_ways (h p:B):∀ (L:List RtC) (i:Nat),i∈waysR L h p↔∃ r,L[i]?=some r∧lowH r.host=h∧r.path=p:=by
 intro L i;unfold waysR;rw [List.mem_map];constructor
 · rintro ⟨⟨r,j⟩,hm,rfl⟩;rw [List.mem_filter] at hm;exact⟨r,by have:=List.mem_zipIdx' hm.1;exact List.getElem?_eq_some_iff.2 ⟨this.1,this.2.symm⟩,by simpa using hm.2⟩
 · rintro ⟨r,hr,h1,h2⟩;refine⟨(r,i),List.mem_filter.2 ⟨?_,by simp [h1,h2]⟩,rfl⟩;exact List.mem_zipIdx_iff_getElem?.2 hr
theorem mem_trie:∀ (L:List RtC) (h p:B),(∃ y∈trieR L h,y.1=p)↔∃ r∈L,lowH r.host=h∧r.path=p:=by
 refine snoc_ind ?_ ?_
 · simp [trieR]
 · intro L r ih h p;rw [trie_snoc];split
   · rename_i hc
     constructor
     · rintro ⟨y,hy,rfl⟩;rcases List.mem_append.1 hy with hy|hy
       · obtain⟨x,hx,h1⟩:=(ih h y.1).1 ⟨y,hy,rfl⟩;exact⟨x,List.mem_append_left _ hx,h1⟩
       · rw [List.mem_singleton.1 hy];exact⟨r,by simp,hc.1,rfl⟩
     · rintro ⟨x,hx,h1,h2⟩;rcases List.mem_append.1 hx with hx|hx
       · obtain⟨y,hy,h3⟩:=(ih h p).2 ⟨x,hx,h1,h2⟩;exact⟨y,List.mem_append_left _ hy,h3⟩
       · rw [List.mem_singleton.1 hx] at h2;exact⟨_,List.mem_append_right _ (List.mem_singleton.2 rfl),h2⟩
   · rename_i hc
     constructor
     · intro hy;obtain⟨x,hx,h1⟩:=(ih h p).1 hy;exact⟨x,List.mem_append_left _ hx,h1⟩
     · rintro ⟨x,hx,h1,h2⟩;rcases List.mem_append.1 hx with hx|hx
       · exact(ih h p).2 ⟨x,hx,h1,h2⟩
       · rw [List.mem_singleton.1 hx] at h1 h2;have hq:∃ y∈trieR L h,y.1=r.path:=Classical.byContradiction fun hn=>hc ⟨h1,hn⟩
         rw [h2] at hq;exact hq
theorem meet_comm (a b:List B):meetR a b=meetR b a:=by
 unfold meetR;rw [Bool.eq_iff_iff];simp only [Bool.or_eq_true,List.any_eq_true,List.contains_iff_mem];constructor
 · rintro ((h|h)|⟨x,h1,h2⟩)
   · exact .inl (.inr h)
   · exact .inl (.inl h)
   · exact .inr ⟨x,h2,h1⟩
 · rintro ((h|h)|⟨x,h1,h2⟩)
   · exact .inl (.inr h)
   · exact .inl (.inl h)
   · exact .inr ⟨x,h2,h1⟩
theorem like_iff (a b:B):likeR a b=true↔checkP a=true∧checkP b=true∧keysP a=keysP b:=by
 unfold likeR;simp [and_assoc]
theorem clash_iff (a b:RtC):clashR a b=true↔lowH a.host=lowH b.host∧likeR a.path b.path=true∧(a.path≠b.path∨meetR a.ms b.ms=true):=by
 unfold clashR;simp [and_assoc]
theorem addE_iff (T:List (B×Int)) (p:B) (hp:checkP p=true):addE_r T p≠0↔∃ y∈T,keysP y.1=keysP p:=by
 unfold addE_r;rw [if_pos hp];by_cases h:(T.any fun q=>decide (keysP q.1=keysP p))=true
 · rw [if_pos h];rw [List.any_eq_true] at h;obtain⟨y,h1,h2⟩:=h;exact⟨fun _=>⟨y,h1,of_decide_eq_true h2⟩,fun _=>by decide⟩
 · rw [if_neg h];refine⟨fun h1=>absurd rfl h1,?_⟩;rintro ⟨y,h1,h2⟩;exact absurd (List.any_eq_true.2 ⟨y,h1,decide_eq_true h2⟩) h
theorem clash_of_at {L:List RtC} (hno:∀ i,i<L.length→∀ k,k<i→clashAt L k i=false) {x y:RtC}{k i:Nat} (hk:L[k]?=some x) (hi:L[i]?=some y) (hki:k<i):clashR x y=false:=by
 have h:=hno i (List.getElem?_eq_some_iff.1 hi).1 k hki;unfold clashAt at h;rw [hk,hi] at h;exact h
theorem add_clash (L:List RtC) (r:RtC) (hL:∀ x∈L,checkP x.path=true) (hr:checkP r.path=true) (hno:∀ i,i<L.length→∀ k,k<i→clashAt L k i=false):
  (∃ x∈L,clashR x r=true)↔(if waysR L (lowH r.host) r.path= [] then addE_r (trieR L (lowH r.host)) r.path≠0 else ∃ i∈waysR L (lowH r.host) r.path,∃ x,L[i]?=some x∧meetR r.ms x.ms=true):=by
 split
 · rename_i hw
   rw [addE_iff _ _ hr];constructor
   · rintro ⟨x,hx,hc⟩;obtain⟨h1,h2, -⟩:=(clash_iff x r).1 hc;obtain⟨y,hy,h3⟩:=(mem_trie L (lowH r.host) x.path).2 ⟨x,hx,h1,rfl⟩;exact⟨y,hy,by rw [h3];exact((like_iff _ _).1 h2).2.2⟩
   · rintro ⟨y,hy,hk⟩;obtain⟨x,hx,h1,h2⟩:=(mem_trie L (lowH r.host) y.1).1 ⟨y,hy,rfl⟩;refine⟨x,hx,(clash_iff x r).2 ⟨h1,(like_iff _ _).2 ⟨hL x hx,hr,by rw [h2];exact hk⟩,.inl fun he=>?_⟩⟩;obtain⟨i,hi⟩:=List.mem_iff_getElem?.1 hx;have hm:=(mem_ways (lowH r.host) r.path L i).2 ⟨x,hi,h1,he⟩;rw [hw] at hm;cases hm
 · rename_i hw
   obtain⟨i0,hi0⟩:=List.exists_mem_of_ne_nil _ hw;obtain⟨x0,hx0,g1,g2⟩:=(mem_ways (lowH r.host) r.path L i0).1 hi0;constructor
   · rintro ⟨x,hx,hc⟩;obtain⟨h1,h2,h3⟩:=(clash_iff x r).1 hc;obtain⟨k,hk⟩:=List.mem_iff_getElem?.1 hx;by_cases he:x.path=r.path
     · refine⟨k,(mem_ways _ _ L k).2 ⟨x,hk,h1,he⟩,x,hk,?_⟩;rw [meet_comm];rcases h3 with h3|h3
       · exact absurd he h3
       · exact h3
     · exfalso;have hne:x.path≠x0.path:=by rw [g2];exact he
       obtain⟨l1,l2,l3⟩:=(like_iff _ _).1 h2;rcases Nat.lt_trichotomy k i0 with hl|hl|hl
       · have:=clash_of_at hno hk hx0 hl;rw [(clash_iff x x0).2 ⟨by rw [h1,g1],(like_iff _ _).2 ⟨l1,by rw [g2];exact l2,by rw [g2];exact l3⟩,.inl hne⟩] at this;cases this
       · subst hl;rw [hk] at hx0;exact hne (by rw [Option.some.inj hx0])
       · have:=clash_of_at hno hx0 hk hl;rw [(clash_iff x0 x).2 ⟨by rw [h1,g1],(like_iff _ _).2 ⟨by rw [g2];exact l2,l1,by rw [g2];exact l3.symm⟩,.inl (fun e=>hne e.symm)⟩] at this;cases this
   · rintro ⟨i,hi,x,hx,hm⟩;obtain⟨x',hx',h1,h2⟩:=(mem_ways _ _ L i).1 hi;rw [hx] at hx';cases hx';exact⟨x,List.mem_of_getElem? hx,(clash_iff x r).2 ⟨h1,(like_iff _ _).2 ⟨by rw [h2];exact hr,hr,by rw [h2]⟩,.inr (by rw [meet_comm];exact hm)⟩⟩
open Go.RowKit Go.Maps
def wayV (i:Nat) (p:B):Value:=.agg #[.int .i64 (i:Int),.string (str p)]
def wayL (i:Nat) (p:B):Lit:=.string (keyBytes [.int .i64 (i:Int),.string p])
theorem lawW:Keyed Tryz.prog 127:=Keyed.of_law (deep_law_laid laidT (m:=2) (by omega) (of_decide_eq_true (by kernel_rfl)) (by kernel_rfl) (by kernel_rfl))
def shW (i:Nat) (p:B):Prop:=i≤1000∧p.length≤4398046511104
theorem way_type:Tryz.prog.keyType 127=true:=by kernel_rfl
theorem way_cells:Tryz.prog.cellsOf 127=2:=by kernel_rfl
theorem int_one:Tryz.prog.cellsOf 3=1:=by kernel_rfl
theorem way_str : ∃ fs, Tryz.prog.underlying 127 = some (.struct fs) ∧ (fs.all fun f => f.name != "_") = true ∧ fs.toList.map (fun f => (f.type, f.offset)) = [(3, 0), (9, 1)] := ⟨_, Tryz.underlying127, by kernel_rfl, rfl⟩
theorem way_formed (a b:Value):(Value.agg #[a,b]).formed Tryz.prog 127=true:=by
 obtain⟨fs,hu,_⟩:=way_str;simp [Value.formed,hu,way_cells]
theorem lit_int (d:Nat) {k:Int} (h:(Lit.int .i64 k).wf=true):Tryz.prog.keyLits (d+1) 3 [.int .i64 k]=some [.int .i64 k]:=by
 unfold Program.keyLits;rw [Tryz.underlying3];simp only [];rw [if_pos ⟨trivial,h⟩]
theorem lit_way (d:Nat) {k:Int}{t:ByteArray} (h:(Lit.int .i64 k).wf=true) (g:t.size≤maxLen):Tryz.prog.keyLits (d+1+1) 127 [.int .i64 k,.string t]=some [.int .i64 k,.string t.data.toList]:=by
 obtain⟨fs,hu,hn,hf⟩:=way_str;unfold Program.keyLits;rw [hu];simp only [];rw [if_pos ⟨by rw [way_cells];rfl,hn⟩];obtain⟨l,hl⟩:∃ l,fs.toList=l:=⟨_,rfl⟩;rw [hl] at hf ⊢;clear hl;rcases l with _|⟨p,_|⟨q,_|⟨r,l⟩⟩⟩
 · exact absurd (congrArg List.length hf) (by simp)
 · exact absurd (congrArg List.length hf) (by simp)
 · simp only [List.map_cons,List.map_nil,List.cons.injEq,Prod.mk.injEq] at hf;obtain⟨⟨p1,p2⟩,⟨q1,q2⟩,_⟩:=hf;rw [mapM_two _ p q (u:=[.int .i64 k]) (v:=[.string t.data.toList]) (by rw [p1,p2,int_one];exact lit_int d h) (by rw [q1,q2,k_one];exact lit_str d g)];rfl
 · exact absurd (congrArg List.length hf) (by simp)
theorem way_wf {i:Nat} (h:i≤1000):(Lit.int .i64 (i:Int)).wf=true:=by
 show (decide (IntKind.i64.min≤(i:Int)) && decide ((i:Int)≤IntKind.i64.max))=true;rw [show IntKind.i64.min= -9223372036854775808 from rfl,show IntKind.i64.max=9223372036854775807 from rfl];simp;omega
theorem way_lit {i:Nat}{p:B} (h:shW i p):keyOf Tryz.prog 127 (wayV i p)=some (wayL i p):=by
 have hb:(str p).size≤maxLen:=by rw [str_size];have:=h.2;unfold maxLen;omega
 obtain⟨fs,hu,_⟩:=way_str;unfold keyOf;rw [hu];simp only [];rw [way_type,show (wayV i p).formed Tryz.prog 127=true from way_formed _ _,if_pos (show (true && true)=true from rfl),k_size];have h1:=lit_way (262-1) (way_wf h.1) hb;rw [show (262-1+1+1:Nat)=262+1 from rfl] at h1;have h2:(wayV i p).cells.toList= [.int .i64 (i:Int),.string (str p)]:=rfl;rw [h2,h1];rfl
theorem wayL_inj {i j:Nat}{p q:B} (h:shW i p) (g:shW j q) (e:wayL i p=wayL j q):i=j∧p=q:=by
 have h1:=way_lit h;rw [e] at h1;have h2:=lawW.inj h1 (way_lit g);unfold wayV at h2;injection h2 with h2
 have h3:=congrArg Array.toList h2;simp only [List.cons.injEq,Value.string.injEq,Value.int.injEq] at h3;exact⟨by have:=h3.1.2;omega,str_inj h3.2.1⟩
theorem wayL_is {i:Nat}{p:B} (h:shW i p):WideAt.IsKeyLit (wayL i p):=lawW.key (way_lit h)
def slcR:Value→Option (DataW Value×List MemPlace)
 | .slice p n c=>some (.held (.slice p n c),[])
 |_=>none
theorem slcR_inv {v u:Value}{ps:List MemPlace} (h:slcR v=some (.held u,ps)):v=u:=by
 cases v <;> simp [slcR] at h;exact h.1
theorem zeroS (w:World):(zeroValue 87).run Tryz.prog w= .ok (.slice none 0 0) w:=by kernel_rfl
def WayM (w:World) (m M:Nat) (v:Nat→B→Value):Prop:=∃ n D,w.ownsMap Tryz.prog 127 slcR m n D∧n≤M∧∀ i p,shW i p→D.atKey (wayL i p) (.held (.slice none 0 0))= .held (v i p)
theorem WayM.keep {w w':World}{m M:Nat}{v:Nat→B→Value} (h:WayM w m M v) (hk:w'.heap[m]?=w.heap[m]?):WayM w' m M v:=by
 obtain⟨n,D,⟨es,clock,h1,r⟩,h2⟩:=h;exact⟨n,D,⟨es,clock,hk.trans h1,r⟩,h2⟩
theorem WayM.lt {w:World}{m M:Nat}{v:Nat→B→Value} (h:WayM w m M v):m<w.heap.size:=by
 obtain⟨n,D,h1,_⟩:=h;exact World.ownsMap.lt h1
theorem WayM.made (w:World) (M:Nat):WayM (w.alloc (.map #[] 0)) w.heap.size M (fun _ _=>.slice none 0 0):=⟨0,.map [],World.ownsMap_made w Tryz.prog 127 _,Nat.zero_le _,fun _ _ _=>rfl⟩
theorem WayM.look {w:World}{m M:Nat}{v:Nat→B→Value} (h:WayM w m M v) {i:Nat}{p:B} (hs:shW i p):(Instr.lookup 78 (.map (some m)) (wayV i p) false).run Tryz.prog w= .ok (v i p) w:=by
 obtain⟨n,D,ho,_,hf⟩:=h;obtain⟨u,ps,h1,h2⟩:=ho.lookup lawW Tryz.underlying78 (zeroS w) (zd:=.held (.slice none 0 0)) (zp:=[]) rfl (way_lit hs);rw [hf i p hs] at h2;rw [h1,slcR_inv h2]
theorem WayM.put {w:World}{m M:Nat}{v:Nat→B→Value} (h:WayM w m M v) (hM:M<1000000) {i:Nat}{p:B} (hs:shW i p) {q:Option Addr}{n c:Nat}:
  ∃ w',(Instr.mapUpdate 78 (.map (some m)) (wayV i p) (.slice q n c)).run Tryz.prog w= .ok () w'∧WayM w' m (M+1) (fun j r=>if j=i∧r=p then .slice q n c else v j r)∧w.grownBy w' (some m):=by
 obtain⟨k,D,ho,hk,hf⟩:=h;obtain⟨w',hr,ho',ht⟩:=ho.store lawW Tryz.underlying78 (by unfold maxLen;omega) (way_lit hs) (d:=.held (.slice q n c)) (ps:=[]) (val:=.slice q n c) (by rfl);refine⟨w',hr,⟨k+1,_,ho',by omega,fun j r hjr=>?_⟩,ht.grown⟩;dsimp only;by_cases e:j=i∧r=p
 · rw [if_pos e];obtain⟨rfl,rfl⟩:=e;exact Maps.atKey_put_same ho.isMap (wayL_is hs) _ _
 · rw [if_neg e,Maps.atKey_put_other (fun e1=>e (wayL_inj hjr hs e1))];exact hf j r hjr
end Go.Proofs.YtlmlljlappjjjaaGreatDoor
