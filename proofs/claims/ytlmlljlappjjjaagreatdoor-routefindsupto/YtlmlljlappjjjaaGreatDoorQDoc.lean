/- Plain: the document's way is the program's. -/
import Derived.Test.YtlmlljlappjjjaaGreatDoorQLawful
namespace Go.Proofs.YtlmlljlappjjjaaGreatDoor
open Go.RowKit
theorem normal_beg {p m:B} (h:normalB p=some m):begB 47 m=true:=by
 obtain⟨o,ho⟩:=normal_meant h;rw [ho.eq];cases o with
 |nil=>exact absurd rfl ho.ne
 |cons x r=>simp [joinS,begB]
theorem bestF_fst (y:List B):∀ (P Q:List (B×Int)) (o o':Option (B×Int)),P.map Prod.fst=Q.map Prod.fst→o.map Prod.fst=o'.map Prod.fst→(P.foldl (stepF y) o).map Prod.fst=(Q.foldl (stepF y) o').map Prod.fst
 | [],[],_,_,_,h=>h
 | [],_::_,_,_,h,_=>by simp at h
 |_::_,[],_,_,h,_=>by simp at h
 |p::P,q::Q,o,o',h,ho=>by
  simp only [List.map_cons,List.cons.injEq] at h;refine bestF_fst y P Q _ _ h.2 ?_;unfold stepF;rw [h.1];cases o with
  |none=>cases o' with
   |none=>dsimp only;split <;> simp [h.1]
   |some b=>simp at ho
  |some a=>cases o' with
   |none=>simp at ho
   |some b=>
    simp at ho;dsimp only;by_cases hc:(fitsS (patL q.1) y && aheadP (patL q.1) (patL b.1))=true
    · rw [if_pos hc,if_pos (by rw [ho];exact hc)];simp [h.1]
    · rw [if_neg hc,if_neg (by rw [ho];exact hc)];simp [ho]
def docH (L:List RtC):List (B×Int):=L.zipIdx.foldl (fun P x=>addP P x.1.host (x.2:Int)) []
theorem docH_snoc (L:List RtC) (r:RtC):docH (L++ [r])=addP (docH L) r.host (L.length:Int):=by
 unfold docH;rw [List.zipIdx_append,List.foldl_append];simp
theorem docH_fst:∀ L:List RtC,L.length≤64→(∀ r∈L,chkR r=0)→(docH L).map Prod.fst=grpsR L:=by
 refine snoc_ind (fun _ _=>rfl) fun L r ih hl hc=>?_
 have hl2:L.length<64:=by simp at hl;omega
 have ih:=ih (by omega) (fun x hx=>hc x (by simp [hx]));obtain⟨⟨x,hx⟩,_⟩:=chk_parts (hc r (by simp));rw [docH_snoc,grps_snoc];have hlen:(docH L).length=(grpsR L).length:=by rw [←ih,List.length_map]
 have hany:(docH L).any (fun q=>decide (q.1=lowH r.host))=decide (lowH r.host∈grpsR L):=by
  rw [←ih,Bool.eq_iff_iff,List.any_eq_true,decide_eq_true_iff,List.mem_map];constructor
  · rintro ⟨q,h1,h2⟩;exact⟨q,h1,of_decide_eq_true h2⟩
  · rintro ⟨q,h1,h2⟩;exact⟨q,h1,decide_eq_true h2⟩
 have he:addE (docH L) r.host=if lowH r.host∈grpsR L then 6 else 0:=by
  have:=grps_len L;unfold addE;rw [hx,hany,if_neg (by simp),if_neg (show ¬64≤(docH L).length by omega)];by_cases hm:lowH r.host∈grpsR L <;> simp [hm]
 unfold addP;rw [he];by_cases hm:lowH r.host∈grpsR L
 · rw [if_pos hm,if_neg (by decide),if_pos hm,ih]
 · rw [if_neg hm,if_pos rfl,if_neg hm,List.map_append,ih];rfl
theorem docH_le (L:List RtC) (hl:L.length≤64) (hc:∀ r∈L,chkR r=0):(docH L).length≤64:=by
 have h:=docH_fst L hl hc;have:=grps_len L;have:(docH L).length=(grpsR L).length:=by rw [←h,List.length_map]
 omega
theorem take_chk {L:List RtC} (hc:∀ r∈L,chkR r=0) (i:Nat):∀ r∈L.take i,chkR r=0:=fun r hr=>hc r (List.mem_of_mem_take hr)
theorem docH_fine {L:List RtC} (hl:L.length≤64) (hc:∀ r∈L,chkR r=0):∀ x∈docH L,∃ z,patH x.1=some z:=fun x hx=>by
 have:x.1∈grpsR L:=by rw [←docH_fst L hl hc];exact List.mem_map_of_mem hx
 obtain⟨r,hr,e⟩:=(mem_grps L x.1).1 this;obtain⟨⟨z,hz⟩,_⟩:=chk_parts (hc r hr);exact⟨z,by rw [←e,pat_low];exact hz⟩
theorem docH_low {L:List RtC} (hl:L.length≤64) (hc:∀ r∈L,chkR r=0):∀ x∈docH L,∃ r∈L,x.1=lowH r.host:=fun x hx=>by
 have:x.1∈grpsR L:=by rw [←docH_fst L hl hc];exact List.mem_map_of_mem hx
 obtain⟨r,hr,e⟩:=(mem_grps L x.1).1 this;exact⟨r,hr,e.symm⟩
theorem doc_best {L:List RtC} (hl:L.length≤64) (hc:∀ r∈L,chkR r=0) (y:List B):(bestF y (docH L)).map Prod.fst=(bestF y (idxP (grpsR L))).map Prod.fst:=
 bestF_fst y (docH L) (idxP (grpsR L)) none none (by rw [docH_fst L hl hc];exact(idxP_fst _).symm) rfl
theorem doc_none {L:List RtC} (hl:L.length≤64) (hc:∀ r∈L,chkR r=0) {host:B}{y:List B} (hy:labsH false host=some y) (hb:bestF y (docH L)=none) (m:B):WayNo L host m 8:=by
 have h2:=doc_best hl hc y;have hN:findN (idxP (grpsR L)) host=(0,8):=by
  unfold findN;rw [hy];dsimp only;rw [hb] at h2;cases hq:bestF y (idxP (grpsR L)) with
  |none=>rfl
  |some p=>rw [hq] at h2;cases h2
 exact .inl ⟨by rw [hN];decide,by rw [hN]⟩
theorem doc_some {L:List RtC} (hl:L.length≤64) (hc:∀ r∈L,chkR r=0) {host:B}{y:List B} (hy:labsH false host=some y) {p:B×Int} (hb:bestF y (docH L)=some p):∃ g:Nat,findN (idxP (grpsR L)) host=((g:Int),0)∧(grpsR L)[g]?=some p.1:=by
 have h2:=doc_best hl hc y;rw [hb] at h2;cases hq:bestF y (idxP (grpsR L)) with
 |none=>rw [hq] at h2;cases h2
 |some q=>
  rw [hq] at h2;have e:p.1=q.1:=by simpa using h2
  have hs:=best_spec y _ (idxP (grpsR L)) rfl;rw [hq] at hs;obtain⟨i,h1,h3⟩:=idxP_of (show q∈idxP (grpsR L) from hs.1);refine⟨i,?_,by rw [e];exact h1⟩;unfold findN;rw [hy];dsimp only;rw [hq];dsimp only;rw [h3]
def BestD (L:List RtC) (h m:B) (i:Nat):Option Nat→Prop
 |none=>∀ (j:Nat) (r:RtC),j<i→L[j]?=some r→lowH r.host=h→fitsT (cutT r.path.tail) (cutT m.tail)=none
 |some b=>b<i∧∃ x,L[b]?=some x∧lowH x.host=h∧(fitsT (cutT x.path.tail) (cutT m.tail)).isSome=true∧∀ (j:Nat) (r:RtC),j<i→L[j]?=some r→lowH r.host=h→(fitsT (cutT r.path.tail) (cutT m.tail)).isSome=true→r.path=x.path∨betterT (cutT x.path.tail) (cutT r.path.tail)=true
theorem BestD.start (L:List RtC) (h m:B):BestD L h m 0 none:=fun j _ hj=>absurd hj (Nat.not_lt_zero j)
theorem BestD.skip {L:List RtC}{h m:B}{i:Nat}{o:Option Nat} (hB:BestD L h m i o) {r:RtC} (hr:L[i]?=some r) (hs:¬lowH r.host=h∨fitsT (cutT r.path.tail) (cutT m.tail)=none):BestD L h m (i+1) o:=by
 cases o with
 |none=>
  intro j u hj hu hh;rcases Nat.lt_succ_iff_lt_or_eq.1 hj with h1|rfl
  · exact hB j u h1 hu hh
  · rw [hr] at hu;injection hu with hu
    subst hu;exact hs.resolve_left (fun h=>h hh)
 |some b=>
  obtain⟨h1,x,h2,h3,h4,h5⟩:=hB;refine⟨by omega,x,h2,h3,h4,fun j u hj hu hh hf=>?_⟩;rcases Nat.lt_succ_iff_lt_or_eq.1 hj with h6|rfl
  · exact h5 j u h6 hu hh hf
  · rw [hr] at hu;injection hu with hu
    subst hu;rw [hs.resolve_left (fun h=>h hh)] at hf;cases hf
theorem BestD.first {L:List RtC}{h m:B}{i:Nat} (hB:BestD L h m i none) {r:RtC} (hr:L[i]?=some r) (hh:lowH r.host=h) (hf:(fitsT (cutT r.path.tail) (cutT m.tail)).isSome=true):BestD L h m (i+1) (some i):=by
 refine⟨by omega,r,hr,hh,hf,fun j u hj hu hh2 hf2=>?_⟩;rcases Nat.lt_succ_iff_lt_or_eq.1 hj with h1|rfl
 · rw [hB j u h1 hu hh2] at hf2;cases hf2
 · rw [hr] at hu;injection hu with hu
   subst hu;exact .inl rfl
theorem BestD.keep {L:List RtC} (hF:FineR L) {h m:B}{i b:Nat} (hB:BestD L h m i (some b)) {x r:RtC} (hx:L[b]?=some x) (hr:L[i]?=some r) (hh:lowH r.host=h) (hf:(fitsT (cutT r.path.tail) (cutT m.tail)).isSome=true) (hn:betterT (cutT r.path.tail) (cutT x.path.tail)=false):BestD L h m (i+1) (some b):=by
 obtain⟨h1,x',h2,h3,h4,h5⟩:=hB;rw [hx] at h2;injection h2 with h2
 subst h2;refine⟨by omega,x,hx,h3,h4,fun j u hj hu hh2 hf2=>?_⟩;rcases Nat.lt_succ_iff_lt_or_eq.1 hj with h6|rfl
 · exact h5 j u h6 hu hh2 hf2
 · rw [hr] at hu;injection hu with hu
   subst hu;have cx:=(chk_parts (hF.chk x (List.mem_of_getElem? hx))).2;have cr:=(chk_parts (hF.chk r (List.mem_of_getElem? hr))).2;obtain⟨tx,ex,_,_,rx⟩:=check_parts cx;obtain⟨tr,er,_,_,rr⟩:=check_parts cr;have rx':restLast (cutT x.path.tail)=true:=by rw [ex];exact rx
   have rr':restLast (cutT r.path.tail)=true:=by rw [er];exact rr
   rcases better_total _ _ _ rx' rr' h4 hf with e|e|e
   · left;by_cases hp:r.path=x.path
     · exact hp
     · have hc:=clash_of_at hF.no hx hr h1;rw [(clash_iff x r).2 ⟨by rw [h3,hh],(like_iff _ _).2 ⟨cx,cr,(alike_keys _ _).1 e⟩,.inl (fun e=>hp e.symm)⟩] at hc;cases hc
   · exact .inr e
   · rw [hn] at e;cases e
theorem BestD.win {L:List RtC}{h m:B}{i b:Nat} (hB:BestD L h m i (some b)) {x r:RtC} (hx:L[b]?=some x) (hr:L[i]?=some r) (hh:lowH r.host=h) (hf:(fitsT (cutT r.path.tail) (cutT m.tail)).isSome=true) (hn:betterT (cutT r.path.tail) (cutT x.path.tail)=true):BestD L h m (i+1) (some i):=by
 obtain⟨h1,x',h2,h3,h4,h5⟩:=hB;rw [hx] at h2;injection h2 with h2
 subst h2;refine⟨by omega,r,hr,hh,hf,fun j u hj hu hh2 hf2=>?_⟩;rcases Nat.lt_succ_iff_lt_or_eq.1 hj with h6|rfl
 · rcases h5 j u h6 hu hh2 hf2 with e|e
   · right;rw [e];exact hn
   · exact .inr (better_trans hn e)
 · rw [hr] at hu;injection hu with hu
   subst hu;exact .inl rfl
theorem BestD.no {L:List RtC}{host m h:B}{g:Nat} (h1:findN (idxP (grpsR L)) host=((g:Int),0)) (h2:(grpsR L)[g]?=some h) (hb:begB 47 m=true) (hB:BestD L h m L.length none):WayNo L host m 8:=by
 refine .inr ⟨g,h,h1,h2,.inr ⟨hb,fun p hp=>?_,rfl⟩⟩;obtain⟨j,r,_,hj,e1,e2,_⟩:=trie_at h L p hp;rw [←e2];exact hB j r (List.getElem?_eq_some_iff.1 hj).1 hj e1
theorem trie_one {L:List RtC}{h:B}{p q:B×Int} (hp:p∈trieR L h) (hq:q∈trieR L h) (e:p.1=q.1):p=q:=by
 obtain⟨j,r,a1,a2,a3,a4,a5⟩:=trie_at h L p hp;obtain⟨k,u,b1,b2,b3,b4,b5⟩:=trie_at h L q hq;have hjk:j=k:=by
  rcases Nat.lt_trichotomy j k with h1|h1|h1
  · exact absurd ⟨a3,by rw [a4,e]⟩ (b5 j r h1 a2)
  · exact h1
  · exact absurd ⟨b3,by rw [b4,e]⟩ (a5 k u h1 b2)
 subst hjk;exact Prod.ext e (by rw [a1,b1])
theorem BestD.yes {L:List RtC}{host m h:B}{g b:Nat} (h1:findN (idxP (grpsR L)) host=((g:Int),0)) (h2:(grpsR L)[g]?=some h) (hb:begB 47 m=true) (hB:BestD L h m L.length (some b)) {x:RtC} (hx:L[b]?=some x):∃ p F,p.1=x.path∧fitsT (cutT x.path.tail) (cutT m.tail)=some F∧WayYes L host m h p F:=by
 obtain⟨_,x',hx',e1,hs,hall⟩:=hB;rw [hx] at hx';injection hx' with hx'
 subst hx';obtain⟨p,hp,e⟩:=(mem_trie L h x.path).2 ⟨x,List.mem_of_getElem? hx,e1,rfl⟩;obtain⟨F,hF⟩:=Option.isSome_iff_exists.1 hs;refine⟨p,F,e,hF,g,h1,h2,hb,hp,by rw [e];exact hF,fun q hq hs2=>?_⟩;obtain⟨j,r,c1,hj,c2,c3,c4⟩:=trie_at h L q hq;rw [←c3] at hs2;rcases hall j r (List.getElem?_eq_some_iff.1 hj).1 hj c2 hs2 with e3|e3
 · exact .inl (trie_one hq hp (by rw [←c3,e3,e]))
 · right;rw [e,←c3];exact e3
theorem last_no {L:List RtC}{host path method m h:B}{p:B×Int}{F:List (B×B)} (hc:(canonN host).2=0) (hm:normalB path=some m) (hW:WayYes L host m h p F) (hn:∀ (j:Nat) (r:RtC),j<L.length→L[j]?=some r→lowH r.host=h→r.path=p.1→takesR r.ms method=false):FndNo L host path method 8:=by
 refine .inr (.inr ⟨hc,m,hm,.inr ⟨rfl,h,p,F,hW,fun i r hi hr=>?_⟩⟩);obtain⟨r',a1,a2,a3⟩:=(mem_ways h p.1 L i).1 hi;rw [hr] at a1;injection a1 with a1
 subst a1;exact hn i r (List.getElem?_eq_some_iff.1 hr).1 hr a2 a3
theorem last_yes {L:List RtC}{host path method m h:B}{p:B×Int}{F:List (B×B)} (hc:(canonN host).2=0) (hm:normalB path=some m) (hW:WayYes L host m h p F) {i:Nat}{r:RtC} (hr:L[i]?=some r) (h1:lowH r.host=h) (h2:r.path=p.1) (ht:takesR r.ms method=true):FndYes L host path method i F m:=
 ⟨hc,hm,h,p,r,hW,(mem_ways h p.1 L i).2 ⟨r,hr,h1,h2⟩,hr,ht⟩
end Go.Proofs.YtlmlljlappjjjaaGreatDoor
