/- The node behind a segment, laid in where there is none, by the program. -/
import Derived.Test.YtlmlljlappjjjaaGreatDoorSKeep
namespace Go.Proofs.YtlmlljlappjjjaaGreatDoor
open Go.RowKit Go.Maps
def Fp (G:Gt):Nat→Prop:=fun i=>(∃ k,G.nd k=some i)∨∃ k,G.mp k=some i
theorem TreeAt.exact {w:World}{F:Nat→Prop}{G:Gt}{M:Nat} (h:TreeAt w F G M):TreeAt w (Fp G) G M:=
 ⟨fun k b e=>⟨.inl ⟨k,e⟩,(h.node k b e).2⟩,fun k m e=>⟨.inr ⟨k,e⟩,(h.map k m e).2⟩,h.nomap,h.own,h.up,h.one,h.onem,h.ends⟩
theorem TreeAt.fp_lt {w:World}{F:Nat→Prop}{G:Gt}{M:Nat} (h:TreeAt w F G M) {i:Nat} (hi:Fp G i):i<w.heap.size:=by
 rcases hi with ⟨k,e⟩|⟨k,e⟩
 · exact(h.node k i e).2.lt
 · exact(h.map k i e).2.lt
structure GrowT (w w':World) (G G':Gt):Prop where
 kept:Kept (Fp G) w w'
 fp:∀ i,Fp G' i→Fp G i∨w.heap.size≤i
 en:G'.en=G.en
 nd:∀ k b,G.nd k=some b→G'.nd k=some b
 c4:∀ b v,w.cell? ⟨b,4,none⟩=some v→w'.cell? ⟨b,4,none⟩=some v
theorem GrowT.refl (w:World) (G:Gt):GrowT w w G G:=⟨Kept.refl _ _,fun _ h=>.inl h,rfl,fun _ _ h=>h,fun _ _ h=>h⟩
theorem GrowT.trans {a b c:World}{G H I:Gt} (h:GrowT a b G H) (k:GrowT b c H I):GrowT a c G I:=
 ⟨h.kept.trans k.kept (fun i hi hf=>(h.fp i hf).elim id (fun e=>by omega)),fun i hi=>(k.fp i hi).elim (fun e=>h.fp i e) (fun e=>.inr (Nat.le_trans h.kept.size e)),k.en.trans h.en,fun q b e=>k.nd q b (h.nd q b e),fun b v e=>k.c4 b v (h.c4 b v e)⟩
theorem GrowT.next {a b c:World}{G H:Gt} (h:GrowT a b G H) (k:Below b.heap.size b c):GrowT a c G H:=
 ⟨h.kept.trans (Below.kept (F:=fun _=>False) k) (fun _ _ hf=>hf.elim),h.fp,h.en,h.nd,fun b v e=>cell_keep k (h.c4 b v e)⟩
theorem GrowT.ahead {a b c:World}{G H:Gt} (k:Below a.heap.size a b) (h:GrowT b c G H):GrowT a c G H:=
 ⟨(Below.kept k).trans h.kept (fun _ _ hf=>hf),fun i hi=>(h.fp i hi).elim .inl (fun e=>.inr (Nat.le_trans k.size e)),h.en,h.nd,fun b v e=>h.c4 b v (cell_keep k e)⟩
theorem fp_nd {G:Gt}{k:List Ky}{c i:Nat} (h:Fp {G with nd:=updK G.nd k c} i):Fp G i∨i=c:=by
 rcases h with ⟨k',e⟩|⟨k',e⟩
 · have e':updK G.nd k c k'=some i:=e;by_cases h:k'=k
   · rw [h,updK_same] at e';exact .inr (by injection e' with e'';exact e''.symm)
   · rw [updK_other _ _ h] at e';exact .inl (.inl ⟨k',e'⟩)
 · exact .inl (.inr ⟨k',e⟩)
theorem fp_mp {G:Gt}{k:List Ky}{c i:Nat} (h:Fp {G with mp:=updK G.mp k c} i):Fp G i∨i=c:=by
 rcases h with ⟨k',e⟩|⟨k',e⟩
 · exact .inl (.inl ⟨k',e⟩)
 · have e':updK G.mp k c k'=some i:=e;by_cases h:k'=k
   · rw [h,updK_same] at e';exact .inr (by injection e' with e'';exact e''.symm)
   · rw [updK_other _ _ h] at e';exact .inl (.inr ⟨k',e'⟩)
theorem keyT_plain {x:B} (h:kindT x=0):keyT x= .plain x:=by unfold keyT;rw [if_pos h]
theorem keyT_par {x:B} (h:kindT x=1):keyT x= .par:=by unfold keyT;rw [if_neg (by omega),if_pos h]
theorem keyT_rest {x:B} (h:kindT x=2):keyT x= .rest:=by unfold keyT;rw [if_neg (by omega),if_neg (by omega)]
section
variable {w : World} {F : Nat → Prop} {G : Gt} {M : Nat} {k : List Ky} {n : Nat}
theorem nd_ne (h:TreeAt w F G M) (hk:G.nd k=some n):w.heap.size≠n:=Nat.ne_of_gt (h.node k n hk).2.lt
theorem upd_ne {y z:Ky}{c:Nat} (h:z≠y):updK G.nd (k++ [y]) c (k++ [z])=G.nd (k++ [z]):=updK_other _ _ (fun e=>h (snoc_inj e).2)
theorem TreeAt.link (h:TreeAt w F G M) (hk:G.nd k=some n) (y:Ky) (o:Nat) (hy:(y= .par∧o=1)∨(y= .rest∧o=2)) (hno:G.nd (k++ [y])=none) (T:TypeId):
  TreeAt ((w.alloc (.cells nodeZ T (0,0))).setCell ⟨n,o,none⟩ (.pointer (some ⟨w.heap.size,0,none⟩))) (fun i=>F i∨i=w.heap.size) {G with nd:=updK G.nd (k++ [y]) w.heap.size} (M+1):=by
 have hb:=(h.node k n hk).2;have hb1:=hb.keep ((below_new w (.cells nodeZ T (0,0))).block n hb.lt);have hne:=nd_ne h hk;refine h.more hk (Nat.le_refl _) hno ?_ ?_ ?_ ?_ ?_
 · exact(nodeZ_at w T).keep (RowKit.Below.heap_setCell _ ⟨n,o,none⟩ _ _ hne)
 · rcases hy with ⟨rfl,rfl⟩|⟨rfl,rfl⟩
   · rw [updK_same,upd_ne (by decide)];exact⟨cell_set_off hb1.c0 (by decide),cell_set_same hb1.c1,cell_set_off hb1.c2 (by decide),cell_set_off hb1.c3 (by decide),bk_set hb1.bk⟩
   · rw [updK_same,upd_ne (by decide)];exact⟨cell_set_off hb1.c0 (by decide),cell_set_off hb1.c1 (by decide),cell_set_same hb1.c2,cell_set_off hb1.c3 (by decide),bk_set hb1.bk⟩
 · intro m hm;have e:(fun x=>updK G.nd (k++ [y]) w.heap.size (k++ [.plain x]))=fun x=>G.nd (k++ [.plain x]):=funext fun x=>upd_ne (by rcases hy with ⟨rfl,_⟩|⟨rfl,_⟩ <;> exact Ky.noConfusion)
   rw [e];have hm1:=(h.map k m hm).2;refine((hm1.keep ((below_new w (.cells nodeZ T (0,0))).block m hm1.lt)).keep (RowKit.Below.heap_setCell _ ⟨n,o,none⟩ _ _ (fun e1=>?_))).mono (Nat.le_succ _);have e2:m=n:=e1;subst e2;exact h.node_map hk hm
 · rcases hy with ⟨rfl,_⟩|⟨rfl,_⟩ <;> exact fun x e=>by cases e
 · intro i _ hi hin _;exact(RowKit.Below.heap_setCell _ ⟨n,o,none⟩ _ _ hin).trans ((below_new w _).block i hi)
theorem cell4_set {w:World}{n o b:Nat}{u v:Value} (ho:o≠4) (h:w.cell? ⟨b,4,none⟩=some v):(w.setCell ⟨n,o,none⟩ u).cell? ⟨b,4,none⟩=some v:=by
 rw [World.cell?_setCell_other _ _ _ _ (fun e=>ho (by injection e))];exact h
theorem grow_link (hk:G.nd k=some n) (y:Ky) (o:Nat) (ho:o≠4) (hno:G.nd (k++ [y])=none) (T:TypeId):GrowT w ((w.alloc (.cells nodeZ T (0,0))).setCell ⟨n,o,none⟩ (.pointer (some ⟨w.heap.size,0,none⟩))) G {G with nd:=updK G.nd (k++ [y]) w.heap.size}:=by
 refine⟨(Below.kept (below_new w _)).trans (kept_set _ n o _) (fun i _ e=>.inl ⟨k,by rw [e];exact hk⟩),fun i hi=>(fp_nd hi).elim .inl (fun e=>.inr (by omega)),rfl,fun k' b e=>?_,fun b v e=>cell4_set ho (cell_keep (below_new w _) e)⟩;show updK G.nd (k++ [y]) _ k'=some b;rw [updK_other _ _ (fun e1=>by rw [e1,hno] at e;cases e)];exact e
theorem TreeAt.mapped (h:TreeAt w F G M) (hk:G.nd k=some n) (hm:G.mp k=none):TreeAt ((w.alloc (.map #[] 0)).setCell ⟨n,0,none⟩ (.map (some w.heap.size))) (fun i=>F i∨i=w.heap.size) {G with mp:=updK G.mp k w.heap.size} M:=by
 have hb:=(h.node k n hk).2;have hb1:=hb.keep ((below_new w (.map #[] 0)).block n hb.lt);have hne:=nd_ne h hk;refine⟨fun k' b' hk'=>?_,fun k' m hm'=>?_,fun k' x hm'=>?_,fun k' hn'=>?_,h.up,h.one,fun k1 k2 m h1 h2=>?_,h.ends⟩
 · refine⟨.inl (h.node k' b' hk').1,?_⟩;show NodeAt _ b' (updK G.mp k w.heap.size k') _ _ _;by_cases e1:k'=k
   · subst e1;have e2:b'=n:=by have h9:G.nd k'=some b':=hk';rw [hk] at h9;injection h9 with h9;exact h9.symm
     subst e2;rw [updK_same];exact⟨cell_set_same hb1.c0,cell_set_off hb1.c1 (by decide),cell_set_off hb1.c2 (by decide),cell_set_off hb1.c3 (by decide),bk_set hb1.bk⟩
   · rw [updK_other _ _ e1];have hb2:=(h.node k' b' hk').2;refine(hb2.keep ((below_new w (.map #[] 0)).block b' hb2.lt)).keep (RowKit.Below.heap_setCell _ ⟨n,0,none⟩ _ _ (fun e2=>e1 ?_));have e3:b'=n:=e2;exact h.one k' k n (by rw [←e3];exact hk') hk
 · have hm2:updK G.mp k w.heap.size k'=some m:=hm';by_cases e1:k'=k
   · subst e1;rw [updK_same] at hm2;injection hm2 with hm2
     subst hm2;refine⟨.inr rfl,?_⟩;have e4:(fun x=>G.nd (k'++ [.plain x]))=fun _=>none:=funext fun x=>h.nomap k' x hm
     show MapAt _ _ _ (fun x=>G.nd (k'++ [.plain x]));rw [e4];exact(MapAt.made w M).keep (RowKit.Below.heap_setCell _ ⟨n,0,none⟩ _ _ hne)
   · rw [updK_other _ _ e1] at hm2;have hm1:=(h.map k' m hm2).2;refine⟨.inl (h.map k' m hm2).1,(hm1.keep ((below_new w (.map #[] 0)).block m hm1.lt)).keep (RowKit.Below.heap_setCell _ ⟨n,0,none⟩ _ _ (fun e2=>?_))⟩;have e3:m=n:=e2;subst e3;exact h.node_map hk hm2
 · have hm2:updK G.mp k w.heap.size k'=none:=hm';by_cases e1:k'=k
   · rw [e1,updK_same] at hm2;cases hm2
   · rw [updK_other _ _ e1] at hm2;exact h.nomap k' x hm2
 · show updK G.mp k w.heap.size k'=none;have hn2:G.nd k'=none:=hn';rw [updK_other _ _ (fun e=>by rw [e,hk] at hn2;cases hn2)];exact h.own k' hn'
 · have h1':updK G.mp k w.heap.size k1=some m:=h1;have h2':updK G.mp k w.heap.size k2=some m:=h2;by_cases e1:k1=k
   · by_cases e2:k2=k
     · rw [e1,e2]
     · rw [e1,updK_same] at h1';rw [updK_other _ _ e2] at h2';injection h1' with h1'
       have:=(h.map k2 m h2').2.lt;omega
   · rw [updK_other _ _ e1] at h1';by_cases e2:k2=k
     · rw [e2,updK_same] at h2';injection h2' with h2'
       have:=(h.map k1 m h1').2.lt;omega
     · rw [updK_other _ _ e2] at h2';exact h.onem k1 k2 m h1' h2'
theorem grow_map (hk:G.nd k=some n):GrowT w ((w.alloc (.map #[] 0)).setCell ⟨n,0,none⟩ (.map (some w.heap.size))) G {G with mp:=updK G.mp k w.heap.size}:=
 ⟨(Below.kept (below_new w _)).trans (kept_set _ n 0 _) (fun i _ e=>.inl ⟨k,by rw [e];exact hk⟩),fun i hi=>(fp_mp hi).elim .inl (fun e=>.inr (by omega)),rfl,fun _ _ e=>e,fun b v e=>cell4_set (by decide) (cell_keep (below_new w _) e)⟩
theorem TreeAt.plained {w2:World} (h:TreeAt w F G M) (hk:G.nd k=some n) {m:Nat} (hm:G.mp k=some m) (x:B) (hno:G.nd (k++ [.plain x])=none) {c:Nat} (hc:w.heap.size≤c)
  {w1:World} (hz:NodeAt w1 c none none none none) (hw1:Below w.heap.size w w1) {nn:Nat}{D:DataW (Option Addr)} (hn:nn≤M) (hf:∀ x,D.atKey (Lit.string x) (.held none)= .held ((G.nd (k++ [.plain x])).map fun b=>⟨b,0,none⟩)) (hI:IsMap D)
  (ho:w2.ownsMap Tryz.prog 9 ptrR m (nn+1) (D.put (Lit.string x) (.held (some ⟨c,0,none⟩)))) (hg:w1.grownBy w2 (some m)):
  TreeAt w2 (fun i=>F i∨i=c) {G with nd:=updK G.nd (k++ [.plain x]) c} (M+1):=by
 have hml:=(h.map k m hm).2.lt;have hst:∀ i,i<w.heap.size→i≠m→w2.heap[i]?=w.heap[i]?:=fun i hi hne=>(hg.block i (Nat.lt_of_lt_of_le hi hw1.size) (fun e=>hne (by injection e))).trans (hw1.block i hi)
 have hb:=(h.node k n hk).2;have hnm:n≠m:=fun e=>by subst e;exact h.node_map hk hm
 refine h.more hk hc hno ?_ ?_ ?_ ?_ ?_
 · exact hz.keep (hg.block c hz.lt (fun e=>by injection e with e;omega))
 · rw [upd_ne (by exact Ky.noConfusion),upd_ne (by exact Ky.noConfusion)];exact hb.keep (hst n hb.lt hnm)
 · intro m' hm';rw [hm] at hm';injection hm' with hm'
   subst hm';have hp:=MapAt.put hI hn hf ho;have e:(fun y=>if y=x then some c else G.nd (k++ [.plain y]))=fun y=>updK G.nd (k++ [.plain x]) c (k++ [.plain y]):=by
    funext y;by_cases hy:y=x
    · rw [if_pos hy,hy,updK_same]
    · rw [if_neg hy,upd_ne (fun e=>hy (by injection e))]
   rw [←e];exact hp
 · intro _ _;rw [hm];simp
 · intro i _ hi _ hne;exact hst i hi (fun e=>hne (by rw [e];exact hm))
end
theorem exec_lookup {o:Oper}{a:Act}{P:Program}{w:World}{t:TypeId}{m x:Operand}{mv xv v:Value} (hop:o.op=Op.lookup t m x false) (hm:a.eval m=mv) (hx:a.eval x=xv) (hrun:(Instr.lookup t mv xv false).run P w= .ok v w):(execOp a.eval o).run P w= .ok (.value v) w:=by
 simp [execOp,hop,hm,hx,hrun,Result.andThen]
structure NxS (U:World) (n sb m:Nat) (X:ByteArray) (V:Value):Prop where
 c0:U.cell? ⟨n,0,none⟩=some (.map (some m))
 cs:U.cell? ⟨sb,1,none⟩=some (.string X)
 look:(Instr.lookup 167 (.map (some m)) (.string X) false).run Tryz.prog U= .ok V U
def NextAns (w:World) (G:Gt) (M:Nat) (k:List Ky) (e:Ending) (w':World):Prop:=∃ c G',e= .returned (.pointer (some ⟨c,0,none⟩))∧TreeAt w' (Fp G') G' (M+1)∧G'.nd k=some c∧GrowT w w' G G'
set_option maxRecDepth 20000 in
set_option maxHeartbeats 8000000 in
theorem next_link {G:Gt}{M:Nat} (w:World) (x:B) (k:List Ky) (n:Nat) (hx:¬kindT x=0) (hT:TreeAt w (Fp G) G M) (hk:G.nd k=some n):
  Calls Tryz.prog 104 #[.pointer (some ⟨n,0,none⟩),.agg #[.int .i64 (kindT x:Int),.string (str (segX x))]] w fun e w'=>NextAns w G M (k++ [keyT x]) e w':=by
 have hk2:=kindT_le x;obtain⟨T,hTs⟩:∃ T,str (segX x)=T:=⟨_,rfl⟩;rw [hTs];clear hTs;have hbb:∀ K:Int,Below w.heap.size w (w.alloc (.cells #[.int .i64 K,.string T] 174 (0,0))):=fun K=>below_new w _
 by_cases h1:kindT x=1
 · rw [keyT_par h1,h1];have HTb:=hid (hT.next (hbb 1));have hnd:=(HTb.out.node k n hk).2;have q0:=hnd.c1;have hnw:¬w.heap.size=n:=nd_ne hT hk;have hnw2:¬w.heap.size+1=n:=by have:=(hT.node k n hk).2.lt;omega
   cases hc:G.nd (k++ [.par]) with
   |some c=>
    rw [hc,ptrN_some] at q0;clear hnd;go_enter Tryz.func104,Tryz.ntmps104;go_wp2;go_ret;exact⟨c,G,rfl,HTb.out.wide (fun _ h=>h) (Nat.le_succ _),hc,(GrowT.refl w G).next (hbb 1)⟩
   |none=>
    rw [hc,ptrN_none] at q0;have hnd2:=hnd.keep ((below_new _ (.cells #[.map none,.pointer none,.pointer none,.pointer none] 169 (0,0))).block n hnd.lt);have qf1:=hnd2.fz 1;have qc1:=hnd2.c1;rw [hc,ptrN_none] at qc1;clear hnd2;have HLk:=hid (HTb.out.link hk .par 1 (.inl ⟨rfl,rfl⟩) hc 169);have HGr:=hid (grow_link (w:=w.alloc (.cells #[.int .i64 1,.string T] 174 (0,0))) hk .par 1 (by decide) hc 169);have hsz:(w.alloc (.cells #[.int .i64 1,.string T] 174 (0,0))).heap.size=w.heap.size+1:=by simp
    rw [hsz] at HLk HGr;unfold nodeZ at HLk HGr;clear hnd;go_enter Tryz.func104,Tryz.ntmps104;go_wp2;go_ret;exact⟨w.heap.size+1,_,rfl,HLk.out.exact,updK_same _ _ _,GrowT.ahead (hbb 1) HGr.out⟩
 · have h2:kindT x=2:=by omega
   rw [keyT_rest h2,h2];have HTb:=hid (hT.next (hbb 2));have hnd:=(HTb.out.node k n hk).2;have q0:=hnd.c2;have hnw:¬w.heap.size=n:=nd_ne hT hk;have hnw2:¬w.heap.size+1=n:=by have:=(hT.node k n hk).2.lt;omega
   cases hc:G.nd (k++ [.rest]) with
   |some c=>
    rw [hc,ptrN_some] at q0;clear hnd;go_enter Tryz.func104,Tryz.ntmps104;go_wp2;go_ret;exact⟨c,G,rfl,HTb.out.wide (fun _ h=>h) (Nat.le_succ _),hc,(GrowT.refl w G).next (hbb 2)⟩
   |none=>
    rw [hc,ptrN_none] at q0;have hnd2:=hnd.keep ((below_new _ (.cells #[.map none,.pointer none,.pointer none,.pointer none] 169 (0,0))).block n hnd.lt);have qf1:=hnd2.fz 2;have qc1:=hnd2.c2;rw [hc,ptrN_none] at qc1;clear hnd2;have HLk:=hid (HTb.out.link hk .rest 2 (.inr ⟨rfl,rfl⟩) hc 169);have HGr:=hid (grow_link (w:=w.alloc (.cells #[.int .i64 2,.string T] 174 (0,0))) hk .rest 2 (by decide) hc 169);have hsz:(w.alloc (.cells #[.int .i64 2,.string T] 174 (0,0))).heap.size=w.heap.size+1:=by simp
    rw [hsz] at HLk HGr;unfold nodeZ at HLk HGr;clear hnd;go_enter Tryz.func104,Tryz.ntmps104;go_wp2;go_ret;exact⟨w.heap.size+1,_,rfl,HLk.out.exact,updK_same _ _ _,GrowT.ahead (hbb 2) HGr.out⟩
end Go.Proofs.YtlmlljlappjjjaaGreatDoor
