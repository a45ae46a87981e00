/- Plain: what is found does not hang on the order of the routes. -/
import Derived.Test.YtlmlljlappjjjaaGreatDoorQLawful
namespace Go.Proofs.YtlmlljlappjjjaaGreatDoor
open Go.RowKit
structure TurnR (L L':List RtC) (f:Nat→Nat):Prop where
 len:L'.length=L.length
 at_:∀ i,i<L.length→f i<L.length∧L'[i]?=L[f i]? ∧f (f i)=i
theorem TurnR.flip {L L':List RtC}{f:Nat→Nat} (h:TurnR L L' f):TurnR L' L f where
 len:=h.len.symm
 at_:=fun i hi=>by
  have hi2:i<L.length:=by rw [←h.len];exact hi
  obtain⟨a,b,c⟩:=h.at_ i hi2;obtain⟨a2,b2,_⟩:=h.at_ (f i) a;rw [c] at b2;exact⟨by rw [h.len];exact a,b2.symm,c⟩
theorem TurnR.mem {L L':List RtC}{f:Nat→Nat} (h:TurnR L L' f) {r:RtC} (hr:r∈L):r∈L':=by
 obtain⟨i,hi⟩:=List.mem_iff_getElem?.1 hr;have hl:=(List.getElem?_eq_some_iff.1 hi).1;obtain⟨a,b,c⟩:=h.at_ i hl;obtain⟨_,b2,_⟩:=h.at_ (f i) a;rw [c,hi] at b2;exact List.mem_of_getElem? b2
theorem TurnR.iff {L L':List RtC}{f:Nat→Nat} (h:TurnR L L' f) (r:RtC):r∈L↔r∈L':=⟨h.mem,h.flip.mem⟩
theorem clash_comm (a b:RtC):clashR a b=clashR b a:=by
 rw [Bool.eq_iff_iff,clash_iff,clash_iff,like_iff,like_iff,meet_comm];constructor
 · rintro ⟨h1,⟨h2,h3,h4⟩,h5⟩;exact⟨h1.symm,⟨h3,h2,h4.symm⟩,h5.imp (fun h=>h.symm) id⟩
 · rintro ⟨h1,⟨h2,h3,h4⟩,h5⟩;exact⟨h1.symm,⟨h3,h2,h4.symm⟩,h5.imp (fun h=>h.symm) id⟩
theorem fine_any {L:List RtC} (hf:FineR L) {i k:Nat}{x y:RtC} (hk:L[k]?=some x) (hi:L[i]?=some y) (hne:k≠i):clashR x y=false:=by
 rcases Nat.lt_or_ge k i with h|h
 · exact clash_of_at hf.no hk hi h
 · rw [clash_comm];exact clash_of_at hf.no hi hk (by omega)
theorem FineR.turn {L L':List RtC}{f:Nat→Nat} (hf:FineR L) (h:TurnR L L' f):FineR L':=by
 refine⟨by rw [h.len];exact hf.few,fun r hr=>hf.chk r (h.flip.mem hr),fun i hi k hk=>?_⟩;have hi2:i<L.length:=by rw [←h.len];exact hi
 obtain⟨a,b,c⟩:=h.at_ i hi2;obtain⟨a2,b2,c2⟩:=h.at_ k (by omega);unfold clashAt;rw [b,b2,List.getElem?_eq_getElem a,List.getElem?_eq_getElem a2];exact fine_any hf (List.getElem?_eq_getElem a2) (List.getElem?_eq_getElem a) (fun e=>by
  have h9:f (f k)=f (f i):=by rw [e]
  rw [c,c2] at h9;omega)
theorem newE_fine {L:List RtC} (hf:FineR L):newE L=0:=by
 rw [newE_none hf.few hf.chk,if_neg (by rw [twice_no hf.no];simp)]
def HostB (L:List RtC) (host h:B):Prop:=∃ y,labsH false host=some y∧(∃ r∈L,lowH r.host=h)∧fitsS (patL h) y=true∧∀ r∈L,fitsS (patL (lowH r.host)) y=true→patL (lowH r.host)=patL h∨aheadP (patL h) (patL (lowH r.host))=true
theorem host_b {L:List RtC}{host h:B}{g:Nat} (hf:findN (idxP (grpsR L)) host=((g:Int),0)) (hg:(grpsR L)[g]?=some h):HostB L host h:=by
 obtain⟨y,h1,h2,h3⟩:=host_best hf hg;exact⟨y,h1,(mem_grps L h).1 (List.mem_of_getElem? hg),h2,fun r hr=>h3 _ ((mem_grps L _).2 ⟨r,hr,rfl⟩)⟩
theorem pat_one {L:List RtC} (hf:FineR L) {r s:RtC} (hr:r∈L) (hs:s∈L) (h:patL (lowH r.host)=patL (lowH s.host)):lowH r.host=lowH s.host:=by
 obtain⟨⟨x,hx⟩,_⟩:=chk_parts (hf.chk r hr);obtain⟨⟨z,hz⟩,_⟩:=chk_parts (hf.chk s hs);rw [pat_lowL,pat_lowL,patL_some hx,patL_some hz] at h;subst h;exact pat_inj hx hz
theorem host_g {L:List RtC} (hf:FineR L) {host h:B} (hb:HostB L host h):∃ g:Nat,findN (idxP (grpsR L)) host=((g:Int),0)∧(grpsR L)[g]?=some h:=by
 obtain⟨y,h1,⟨r,hr,hrh⟩,h2,h3⟩:=hb;have h0:(findN (idxP (grpsR L)) host).2=0:=by
  unfold findN;rw [h1];dsimp only;have hs:=best_spec y _ (idxP (grpsR L)) rfl;cases hbf:bestF y (idxP (grpsR L)) with
  |some p=>rfl
  |none=>
   rw [hbf] at hs;obtain⟨j,hj⟩:=List.mem_iff_getElem?.1 ((mem_grps L h).2 ⟨r,hr,hrh⟩);have:=hs (h,(j:Int)) (List.mem_of_getElem? (idxP_at hj));rw [h2] at this;cases this
 obtain⟨g,k,hg,hk⟩:=findN_at h0;obtain⟨y2,a1,⟨s,hs,hsk⟩,a2,a3⟩:=host_b hg hk;rw [h1] at a1;injection a1 with a1
 subst a1;have he:h=k:=by
  rw [←hrh,←hsk] at*;refine pat_one hf hr hs ?_;rcases h3 s hs a2 with e|e
  · exact e.symm
  · rcases a3 r hr h2 with e2|e2
    · exact e2
    · have:=aheadP_asymm e;rw [e2] at this;cases this
 exact⟨g,hg,by rw [he];exact hk⟩
theorem HostB.turn {L L':List RtC} (hm:∀ r,r∈L↔r∈L') {host h:B} (hb:HostB L host h):HostB L' host h:=by
 obtain⟨y,h1,⟨r,hr,hrh⟩,h2,h3⟩:=hb;exact⟨y,h1,⟨r,(hm r).1 hr,hrh⟩,h2,fun s hs=>h3 s ((hm s).2 hs)⟩
theorem trie_uniq {L:List RtC}{h:B}{y z:B×Int} (hy:y∈trieR L h) (hz:z∈trieR L h) (e:y.1=z.1):y=z:=by
 obtain⟨j,r,a1,a2,a3,a4,a5⟩:=trie_at h L y hy;obtain⟨k,s,b1,b2,b3,b4,b5⟩:=trie_at h L z hz;have hjk:j=k:=by
  rcases Nat.lt_trichotomy j k with h1|h1|h1
  · exact absurd ⟨a3,a4.trans e⟩ (b5 j r h1 a2)
  · exact h1
  · exact absurd ⟨b3,b4.trans e.symm⟩ (a5 k s h1 b2)
 exact Prod.ext e (by rw [a1,b1,hjk])
def WayD (L:List RtC) (host m h P:B) (F:List (B×B)):Prop:=
 HostB L host h∧begB 47 m=true∧(∃ r∈L,lowH r.host=h∧r.path=P)∧fitsT (cutT P.tail) (cutT m.tail)=some F∧∀ r∈L,lowH r.host=h→(fitsT (cutT r.path.tail) (cutT m.tail)).isSome=true→r.path=P∨betterT (cutT P.tail) (cutT r.path.tail)=true
theorem way_d {L:List RtC}{host m h:B}{p:B×Int}{F:List (B×B)} (a:WayYes L host m h p F):WayD L host m h p.1 F:=by
 obtain⟨g,a1,a2,a3,a4,a5,a6⟩:=a;refine⟨host_b a1 a2,a3,?_,a5,fun r hr hrh hrf=>?_⟩
 · obtain⟨r,h1,h2,h3⟩:=(mem_trie L h p.1).1 ⟨p,a4,rfl⟩;exact⟨r,h1,h2,h3⟩
 · obtain⟨y,hy,hyp⟩:=(mem_trie L h r.path).2 ⟨r,hr,hrh,rfl⟩;rcases a6 y hy (by rw [hyp];exact hrf) with e|e
   · left;rw [←hyp,e]
   · right;rw [←hyp];exact e
theorem way_y {L:List RtC} (hf:FineR L) {host m h P:B}{F:List (B×B)} (a:WayD L host m h P F):∃ p:B×Int,p.1=P∧WayYes L host m h p F:=by
 obtain⟨a1,a2,a3,a4,a5⟩:=a;obtain⟨g,b1,b2⟩:=host_g hf a1;obtain⟨p,hp,hpP⟩:=(mem_trie L h P).2 (by obtain⟨r,c1,c2,c3⟩:=a3;exact⟨r,c1,c2,c3⟩);subst hpP;refine⟨p,rfl,g,b1,b2,a2,hp,a4,fun q hq hqf=>?_⟩;obtain⟨r,c1,c2,c3⟩:=(mem_trie L h q.1).1 ⟨q,hq,rfl⟩;rcases a5 r c1 c2 (by rw [c3];exact hqf) with e|e
 · exact .inl (trie_uniq hq hp (by rw [←c3];exact e))
 · exact .inr (by rw [←c3];exact e)
theorem WayD.turn {L L':List RtC} (hm:∀ r,r∈L↔r∈L') {host m h P:B}{F:List (B×B)} (a:WayD L host m h P F):WayD L' host m h P F:=by
 obtain⟨a1,a2,⟨r,c1,c2⟩,a4,a5⟩:=a;exact⟨a1.turn hm,a2,⟨r,(hm r).1 c1,c2⟩,a4,fun s hs=>a5 s ((hm s).2 hs)⟩
theorem no_host {L L':List RtC} (hm:∀ r,r∈L↔r∈L') {host:B} (h:(findN (idxP (grpsR L)) host).2≠0):(findN (idxP (grpsR L')) host).2=(findN (idxP (grpsR L)) host).2:=by
 unfold findN at h ⊢;cases hl:labsH false host with
 |none=>rfl
 |some y=>
  rw [hl] at h;dsimp only at h ⊢;have h1:=best_spec y _ (idxP (grpsR L)) rfl;have h2:=best_spec y _ (idxP (grpsR L')) rfl;cases hb:bestF y (idxP (grpsR L)) with
  |some p=>rw [hb] at h;exact absurd rfl h
  |none=>
   cases hb2:bestF y (idxP (grpsR L')) with
   |none=>rfl
   |some p=>
    rw [hb] at h1;rw [hb2] at h2;obtain⟨c1,c2,_⟩:p∈idxP (grpsR L')∧fitsS (patL p.1) y=true∧_:=h2;obtain⟨i,d1,_⟩:=idxP_of c1;obtain⟨r,e1,e2⟩:=(mem_grps L' p.1).1 (List.mem_of_getElem? d1);obtain⟨j,hj⟩:=List.mem_iff_getElem?.1 ((mem_grps L p.1).2 ⟨r,(hm r).2 e1,e2⟩);have:=h1 (p.1,(j:Int)) (List.mem_of_getElem? (idxP_at hj));rw [c2] at this;cases this
theorem WayNo.turn {L L':List RtC} (hf':FineR L') (hm:∀ r,r∈L↔r∈L') {host m:B}{k:Nat} (a:WayNo L host m k):WayNo L' host m k:=by
 rcases a with ⟨a1,a2⟩|⟨g,h,a1,a2,a3⟩
 · have:=no_host hm a1;exact .inl ⟨by rw [this];exact a1,by rw [this];exact a2⟩
 · obtain⟨g',b1,b2⟩:=host_g hf' ((host_b a1 a2).turn hm);refine .inr ⟨g',h,b1,b2,?_⟩;rcases a3 with a3|⟨a3,a4,a5⟩
   · exact .inl a3
   · refine .inr ⟨a3,fun p hp=>?_,a5⟩;obtain⟨r,c1,c2,c3⟩:=(mem_trie L' h p.1).1 ⟨p,hp,rfl⟩;obtain⟨y,hy,hyp⟩:=(mem_trie L h p.1).2 ⟨r,(hm r).2 c1,c2,c3⟩;rw [←hyp];exact a4 y hy
theorem yes_turn {L L':List RtC}{f:Nat→Nat} (hf':FineR L') (h:TurnR L L' f) {host path method:B}{i:Nat}{F:List (B×B)}{m:B} (a:FndYes L host path method i F m):FndYes L' host path method (f i) F m:=by
 obtain⟨a1,a2,x,p,r,a3,a4,a5,a6⟩:=a;obtain⟨p',hp',b3⟩:=way_y hf' ((way_d a3).turn h.iff);obtain⟨r',c1,c2,c3⟩:=(mem_ways x p.1 L i).1 a4;have hi:=(List.getElem?_eq_some_iff.1 a5).1;obtain⟨d1,d2,d3⟩:=h.at_ i hi;obtain⟨_,d5,_⟩:=h.at_ (f i) d1;rw [d3] at d5;refine⟨a1,a2,x,p',r,b3,(mem_ways x p'.1 L' (f i)).2 ⟨r,by rw [d5];exact a5,?_⟩,by rw [d5];exact a5,a6⟩;rw [a5] at c1;injection c1 with c1
 subst c1;exact⟨c2,by rw [hp'];exact c3⟩
theorem no_turn {L L':List RtC}{f:Nat→Nat} (hf':FineR L') (h:TurnR L L' f) {host path method:B}{k:Nat} (a:FndNo L host path method k):FndNo L' host path method k:=by
 rcases a with a|a|⟨a1,m,a2,a3⟩
 · exact .inl a
 · exact .inr (.inl a)
 · refine .inr (.inr ⟨a1,m,a2,?_⟩);rcases a3 with a3|⟨a3,x,p,F,a4,a5⟩
   · exact .inl (a3.turn hf' h.iff)
   · obtain⟨p',hp',b3⟩:=way_y hf' ((way_d a4).turn h.iff);refine .inr ⟨a3,x,p',F,b3,fun i r hi hr=>?_⟩;obtain⟨r',c1,c2,c3⟩:=(mem_ways x p'.1 L' i).1 hi;rw [hr] at c1;injection c1 with c1
     subst c1;have hil:=(List.getElem?_eq_some_iff.1 hr).1;obtain⟨d1,d2,d3⟩:=h.flip.at_ i hil;obtain⟨_,d5,_⟩:=h.flip.at_ (f i) d1;rw [d3,hr] at d5;exact a5 (f i) r ((mem_ways x p.1 L (f i)).2 ⟨r,d5,c2,by rw [←hp'];exact c3⟩) d5
def turnQ (n u i:Nat):Nat:=if i≤u then u-i else u+n-i
theorem turnQ_mod {n u i:Nat} (hu:u<n) (hi:i<n):(u+n-i) % n=turnQ n u i:=by
 unfold turnQ;split
 · rw [show u+n-i=(u-i)+n by omega,Nat.add_mod_right,Nat.mod_eq_of_lt (by omega)]
 · rw [Nat.mod_eq_of_lt (by omega)]
theorem turnQ_lt {n u i:Nat} (hu:u<n) (hi:i<n):turnQ n u i<n:=by
 unfold turnQ;split <;> omega
theorem turnQ_twice {n u i:Nat} (hu:u<n) (hi:i<n):turnQ n u (turnQ n u i)=i:=by
 unfold turnQ;split <;> split <;> omega
end Go.Proofs.YtlmlljlappjjjaaGreatDoor
