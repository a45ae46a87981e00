/- A trie in memory: its tree, its entries, its row of them. -/
import Derived.Test.YtlmlljlappjjjaaGreatDoorTNextP
namespace Go.Proofs.YtlmlljlappjjjaaGreatDoor
set_option maxRecDepth 20000
set_option maxHeartbeats 8000000
open Go.RowKit Go.Maps
def keysP (p:B):List Ky:=keysT (cutT p.tail)
structure EntAt (w:World) (e:Nat) (p:B×Int):Prop where
 c0:w.cell? ⟨e,0,none⟩=some (.string (str p.1))
 c1:w.cell? ⟨e,1,none⟩=some (.int .i64 p.2)
theorem EntAt.keep {w w':World}{e:Nat}{p:B×Int} (h:EntAt w e p) (hk:w'.heap[e]?=w.heap[e]?):EntAt w' e p:=⟨cell_same h.c0 hk,cell_same h.c1 hk⟩
theorem EntAt.lt {w:World}{e:Nat}{p:B×Int} (h:EntAt w e p):e<w.heap.size:=lt_of_cell h.c0
def ptrF (e:Nat):List Value:=[ptrN (some e)]
abbrev OwnE:=OwnR_r 163 1 ptrF
structure Tr (w:World) (t:Nat) (P:List (B×Int)) (M:Nat) (G:Gt) (es:List Nat) (v:Value):Prop where
 tree:TreeAt w (Fp G) G M
 root:G.nd []=some t
 all:w.cell? ⟨t,4,none⟩=some v
 row:OwnE w 0 v es
 rowno:∀ g,v.ownBlock=some g→¬Fp G g∧g∉es
 len:es.length=P.length
 ent:∀ (i e:Nat) (p:B×Int),es[i]?=some e→P[i]?=some p→EntAt w e p∧G.en (keysP p.1)=some e
 only:∀ (k:List Ky) (e:Nat),G.en k=some e→∃ (i:Nat) (p:B×Int),es[i]?=some e∧P[i]?=some p∧keysP p.1=k
 fine:∀ p∈P,checkP p.1=true
 ap:∀ (i j:Nat) (p q:B×Int),P[i]?=some p→P[j]?=some q→keysP p.1=keysP q.1→i=j
def Ft_r (G:Gt) (es:List Nat) (v:Value):Nat→Prop:=fun i=>Fp G i∨v.ownBlock=some i∨i∈es
theorem Tr.keep {w w':World}{t:Nat}{P:List (B×Int)}{M:Nat}{G:Gt}{es:List Nat}{v:Value} (h:Tr w t P M G es v) (hk:∀ i,Ft_r G es v i→i<w.heap.size→w'.heap[i]?=w.heap[i]?):Tr w' t P M G es v:=
 ⟨h.tree.keep (fun b hb hl=>hk b (.inl hb) hl),h.root,cell_same h.all (hk t (.inl (.inl ⟨[],h.root⟩)) (lt_of_cell h.all)),h.row.keepB (fun g e=>hk g (.inr (.inl e)) (h.row.lt e)),h.rowno,h.len,
  fun i e p h1 h2=>⟨(h.ent i e p h1 h2).1.keep (hk e (.inr (.inr (List.mem_of_getElem? h1))) (h.ent i e p h1 h2).1.lt),(h.ent i e p h1 h2).2⟩,h.only,h.fine,h.ap⟩
theorem Tr.next {w w':World}{t:Nat}{P:List (B×Int)}{M:Nat}{G:Gt}{es:List Nat}{v:Value} (h:Tr w t P M G es v) (hb:Below w.heap.size w w'):Tr w' t P M G es v:=h.keep fun i _ hi=>hb.block i hi
theorem Tr.ent_lt {w:World}{t:Nat}{P:List (B×Int)}{M:Nat}{G:Gt}{es:List Nat}{v:Value} (h:Tr w t P M G es v) {e:Nat} (he:e∈es):∃ p,p∈P∧EntAt w e p:=by
 obtain⟨i,hi⟩:=List.getElem?_of_mem he;have hl:i<P.length:=by rw [←h.len];exact(List.getElem?_eq_some_iff.1 hi).1
 exact⟨P[i],List.getElem_mem hl,(h.ent i e _ hi (List.getElem?_eq_getElem hl)).1⟩
theorem Tr.ft_lt {w:World}{t:Nat}{P:List (B×Int)}{M:Nat}{G:Gt}{es:List Nat}{v:Value} (h:Tr w t P M G es v) {i:Nat} (hi:Ft_r G es v i):i<w.heap.size:=by
 rcases hi with h1|h1|h1
 · exact h.tree.fp_lt h1
 · exact h.row.lt h1
 · obtain⟨p,_,hp⟩:=h.ent_lt h1;exact hp.lt
theorem ent_not {w:World}{F:Nat→Prop}{G:Gt}{M:Nat} (h:TreeAt w F G M) {e:Nat}{p:B×Int} (he:EntAt w e p):¬Fp G e:=by
 rintro (⟨k,hk⟩|⟨k,hk⟩)
 · have:=(h.node k e hk).2.c0;rw [he.c0] at this;simp at this
 · exact(h.map k e hk).2.nocell he.c0
theorem Tr.grow {w w':World}{t:Nat}{P:List (B×Int)}{M M':Nat}{G G':Gt}{es:List Nat}{v:Value} (h:Tr w t P M G es v) (hT:TreeAt w' (Fp G') G' M') (hg:GrowT w w' G G'):Tr w' t P M' G' es v:=by
 refine⟨hT,hg.nd [] t h.root,hg.c4 t v h.all,h.row.keepB (fun g e=>hg.kept.block g (h.row.lt e) (h.rowno g e).1),fun g e=>⟨fun hf=>?_,(h.rowno g e).2⟩,h.len,fun i e p h1 h2=>?_,fun k e hk=>?_,h.fine,h.ap⟩
 · rcases hg.fp g hf with h1|h1
   · exact(h.rowno g e).1 h1
   · have:=h.row.lt e;omega
 · obtain⟨k1,k2⟩:=h.ent i e p h1 h2;refine⟨k1.keep (hg.kept.block e k1.lt (ent_not h.tree k1)),?_⟩;rw [hg.en];exact k2
 · rw [hg.en] at hk;exact h.only k e hk
theorem ft_grow {w w':World}{G G':Gt}{es:List Nat}{v:Value} (hg:GrowT w w' G G') {i:Nat} (hi:Ft_r G' es v i):Ft_r G es v i∨w.heap.size≤i:=by
 rcases hi with h1|h1
 · exact(hg.fp i h1).elim (fun h=>.inl (.inl h)) .inr
 · exact .inl (.inr h1)
def G0 (t:Nat):Gt:=⟨fun k=>if k= [] then some t else none,fun _=>none,fun _=>none⟩
theorem snoc_ne (k:List Ky) (x:Ky):¬k++ [x]= []:=by simp
theorem Tr.new (w:World) (T:TypeId) (M:Nat):Tr (w.alloc (.cells #[.map none,.pointer none,.pointer none,.pointer none,.slice none 0 0] T (0,0))) w.heap.size [] M (G0 w.heap.size) [] (.slice none 0 0):=by
 have hc:=cells_new w [.map none,.pointer none,.pointer none,.pointer none,.slice none 0 0] T;have h0:=hc 0 _ rfl;have h1:=hc 1 _ rfl;have h2:=hc 2 _ rfl;have h3:=hc 3 _ rfl;have h4:=hc 4 _ rfl;rw [add_off] at h0 h1 h2 h3 h4;have hnone:∀ k x,(G0 w.heap.size).nd (k++ [x])=none:=fun k x=>if_neg (snoc_ne k x)
 refine⟨⟨fun k b hk=>?_,fun k m hk=>(by cases hk),fun k x _=>hnone k _,fun _ _=>rfl,fun k x _=>hnone k x,fun k k' b hk hk'=>?_,fun k k' m hk=>(by cases hk),fun _ _=>rfl⟩,(show (if ([]:List Ky)= [] then some w.heap.size else none)=_ from if_pos rfl),h4,OwnR_r.nil _ _,fun g e=>(by cases e),rfl,fun i e p h=>(by simp at h),fun k e h=>(by cases h),fun p h=>(by cases h),fun i j p q h=>(by simp at h)⟩
 · have hk2:(if k= [] then some w.heap.size else none)=some b:=hk;by_cases e:k= []
   · rw [if_pos e] at hk2;injection hk2 with hk2
     subst hk2;refine⟨.inl ⟨k,hk⟩,?_⟩;rw [hnone,hnone];exact⟨h0,h1,h2,h3,_,_,heap_alloc_new w _⟩
   · rw [if_neg e] at hk2;cases hk2
 · have hk2:(if k= [] then some w.heap.size else none)=some b:=hk;have hk3:(if k'= [] then some w.heap.size else none)=some b:=hk';by_cases e:k= []
   · by_cases e':k'= []
     · rw [e,e']
     · rw [if_neg e'] at hk3;cases hk3
   · rw [if_neg e] at hk2;cases hk2
theorem ft_new_r {t i:Nat} (h:Ft_r (G0 t) [] (.slice none 0 0) i):i=t:=by
 rcases h with (⟨k,hk⟩|⟨k,hk⟩)|h|h
 · have hk2:(if k= [] then some t else none)=some i:=hk;by_cases e:k= []
   · rw [if_pos e] at hk2;injection hk2 with hk2;exact hk2.symm
   · rw [if_neg e] at hk2;cases hk2
 · cases hk
 · cases h
 · cases h
theorem new_any_r (w:World):Calls Tryz.prog 103 #[] w fun e w'=>e= .returned (.pointer (some ⟨w.heap.size,0,none⟩))∧Tr w' w.heap.size [] 0 (G0 w.heap.size) [] (.slice none 0 0)∧Below w.heap.size w w':=by
 have HN:=hid (Tr.new w 172 0);go_enter Tryz.func103,Tryz.ntmps103;go_wp2;go_ret;exact⟨rfl,HN.out,below_new w _⟩
theorem Tr.found {w:World}{t:Nat}{P:List (B×Int)}{M:Nat}{G:Gt}{es:List Nat}{v:Value} (h:Tr w t P M G es v) (r:List B):
  (behK G.en r []=none∧∀ p∈P,fitsT (cutT p.1.tail) r=none)∨∃ e p,behK G.en r []=some e∧p∈P∧EntAt w e p∧(fitsT (cutT p.1.tail) r).isSome=true∧∀ q∈P,(fitsT (cutT q.1.tail) r).isSome=true→q=p∨betterT (cutT p.1.tail) (cutT q.1.tail)=true:=by
 have hin:∀ p∈P,∃ e,G.en (keysP p.1)=some e:=fun p hp=>by
  obtain⟨i,hi⟩:=List.getElem?_of_mem hp;have hl:i<es.length:=by rw [h.len];exact(List.getElem?_eq_some_iff.1 hi).1
  exact⟨_,(h.ent i _ p (List.getElem?_eq_getElem hl) hi).2⟩
 have hr:∀ k q,G.en (k++ .rest::q)≠none→q= []:=fun k q hne=>by
  obtain⟨e,he⟩:=Option.ne_none_iff_exists'.1 hne;obtain⟨i,p,_,hp,hk⟩:=h.only _ e he;obtain⟨t',ht,_,_,hrl⟩:=check_parts (h.fine p (List.mem_of_getElem? hp));have hk2:keysT (cutT t')=k++ .rest::q:=by unfold keysP at hk;rw [ht] at hk;exact hk
  have:∀ (l:List B) (k:List Ky),restLast l=true→keysT l=k++ .rest::q→q= []:=by
   intro l
   induction l with
   |nil=>intro k _ e;simp [keysT] at e
   |cons x l ih=>
    intro k hr e;obtain⟨hr1,hr2⟩:=rest_tail hr;cases k with
    |nil=>
     have e1:keyT x= .rest∧keysT l=q:=by simpa [keysT] using e
     have hk2:kindT x=2:=by rw [←keyT_kind,e1.1];rfl
     rw [←e1.2,hr2 hk2];rfl
    |cons y k=>
     have e1:keyT x=y∧keysT l=k++ .rest::q:=by simpa [keysT] using e
     exact ih k hr1 e1.2
  exact this _ k hrl hk2
 have hb:=behK_best hr r [];cases he:behK G.en r [] with
 |none=>
  rw [he] at hb;refine .inl ⟨rfl,fun p hp=>?_⟩;obtain⟨e,hpe⟩:=hin p hp;have h1:=hb (keysP p.1) (by rw [List.nil_append,hpe];simp);have h2:=fits_keys (cutT p.1.tail) r;unfold keysP at h1;rw [h1] at h2;cases hf:fitsT (cutT p.1.tail) r with
  |none=>rfl
  |some F=>rw [hf] at h2;cases h2
 |some e=>
  rw [he] at hb;obtain⟨q,h1,h2,h3⟩:=hb;rw [List.nil_append] at h1;obtain⟨i,p,hi,hp,hk⟩:=h.only q e h1;subst hk;have hf:=fits_keys (cutT p.1.tail) r;refine .inr ⟨e,p,rfl,List.mem_of_getElem? hp,(h.ent i e p hi hp).1,by rw [hf];exact h2,fun q hq hfq=>?_⟩;obtain⟨e2,hqe⟩:=hin q hq;rw [fits_keys] at hfq;rcases h3 (keysP q.1) (by rw [List.nil_append,hqe];simp) hfq with h4|h4
  · left;obtain⟨j,hj⟩:=List.getElem?_of_mem hq;have:=h.ap i j p q hp hj h4.symm;subst this;rw [hp] at hj;injection hj with hj
    exact hj.symm
  · right;rw [better_keys];exact h4
def FindAns (path:B) (P:List (B×Int)) (w:World) (e:Ending) (w':World):Prop:=Below w.heap.size w w'∧
 ((begB 47 path=false∧e= .returned (.tuple #[.int .i64 0,.slice none 0 0,err3]))∨
  (begB 47 path=true∧(∀ p∈P,fitsT (cutT p.1.tail) (cutT path.tail)=none)∧e= .returned (.tuple #[.int .i64 0,.slice none 0 0,.iface 74 (.int .i64 8)]))∨
  (begB 47 path=true∧∃ p F q d,p∈P∧fitsT (cutT p.1.tail) (cutT path.tail)=some F∧(∀ r∈P,(fitsT (cutT r.1.tail) (cutT path.tail)).isSome=true→r=p∨betterT (cutT p.1.tail) (cutT r.1.tail)=true)∧e= .returned (.tuple #[.int .i64 p.2,.slice q F.length d,.nilIface])∧OwnF w' w.heap.size (.slice q F.length d) F))
theorem find_any_r {w:World}{t:Nat}{P:List (B×Int)}{M:Nat}{G:Gt}{es:List Nat}{v:Value} (h:Tr w t P M G es v) (hmx:MxAt w) (path:B) (hp:path.length≤140737488355328):
  Calls Tryz.prog 68 #[.pointer (some ⟨t,0,none⟩),.string (str path)] w fun e w'=>FindAns path P w e w':=by
 have HBg:=hid (fun W:World=>begins_any path (by omega) W);cases hb:begB 47 path with
 |false=>
  rw [hb] at HBg;have HFin:=hid (show FindAns path P w (.returned (.tuple #[.int .i64 0,.slice none 0 0,err3])) w from⟨Below.refl _ _,.inl ⟨hb,rfl⟩⟩);obtain⟨Y,hY⟩:∃ S,str path=S:=⟨_,rfl⟩;rw [hY] at HBg ⊢;clear hY hb h hmx;go_enter Tryz.func68,Tryz.ntmps68;go_wp2_with (go_at_call 109;(with_reducible refine(HBg.out _).mono ?_);rintro e w5 ⟨rfl,hw5⟩;subst w5);go_ret3;exact HFin.out
 |true=>
  obtain⟨x,rfl⟩:=beg_cons hb;rw [hb] at HBg;have hxl:x.length≤140737488355328:=by simp at hp;omega
  have HBe:=hid (fun (W:World) (h1:TreeAt W (Fp G) G M) (h2:MxAt W)=>best_any (cutT x) W x [] t rfl hxl h1 h2 h.root);have HTr:=hid (h.tree);have HMx:=hid hmx;obtain⟨N,hN⟩:∃ N,(47::x:B).length=N:=⟨_,rfl⟩;have hN1:x.length+1=N:=by rw [←hN];rfl
  obtain⟨Y,hY⟩:∃ S,str (47::x)=S:=⟨_,rfl⟩;have hSn:Y.size=N:=by rw [←hY,str_size,hN]
  have he:Y.extract 1 N=str x:=by rw [←hY,ext_drop _ 1 N hN];rfl
  obtain⟨Sx,hSx⟩:∃ S,str x=S:=⟨_,rfl⟩;rw [hSx] at he HBe;have hNb:N≤140737488355329:=by omega
  have hN1':1≤N:=by omega
  rcases h.found (cutT x) with ⟨h1,h2⟩|⟨e0,p,h1,h2,h3,h4,h5⟩
  · rw [h1,ptrN_none] at HBe;have HFin:=hid (show ∀ W,Same w W→FindAns (47::x) P w (.returned (.tuple #[.int .i64 0,.slice none 0 0,.iface 74 (.int .i64 8)])) W from fun W hs=>⟨hs.below,.inr (.inl ⟨hb,h2,rfl⟩)⟩);rw [hY] at HBg ⊢;clear hY hb h hmx h1 h2 hSx hN hN1 hxl hp;go_enter Tryz.func68,Tryz.ntmps68;go_wp2_with (go_at_call 109;(with_reducible refine(HBg.out _).mono ?_);rintro e w5 ⟨rfl,hw5⟩;subst w5);have hS0:True:=trivial;refine wp_region_noPanic ?_;refine any_begin 7 (by kernel_rfl) (by kernel_rfl) ?_;refine late_begin (fun _=>True) (fun _=>false) hS0 (fun hS=>?_);refine ltk (i:=0) (some 19) rfl rfl (v:= ?v0a) ?hy0a hS ?rest0a
    case hy0a=>intro w0 _;go_simp;try with_reducible rfl
    simp only [Act.put,sA,sB,sC];refine ltk (i:=1) (some 20) rfl rfl (v:= ?v1a) ?hy1a hS ?rest1a
    case hy1a=>intro w0 _;go_simp;try with_reducible rfl
    simp only [Act.put,sA,sB,sC];refine ltk (i:=2) (some 21) rfl rfl (v:= ?v2a) ?hy2a hS ?rest2a
    case hy2a=>intro w0 _;go_simp;try with_reducible rfl
    simp only [Act.put,sA,sB,sC];refine ltk (i:=3) (some 22) rfl rfl (v:= ?v3a) ?hy3a hS ?rest3a
    case hy3a=>intro w0 _;go_simp;try with_reducible rfl
    simp only [Act.put,sA,sB,sC];refine late_take (i:=4) (some 23) rfl rfl (by kernel_rfl) (by kernel_rfl) (by kernel_rfl) (by kernel_rfl) (by kernel_rfl) (fun _ _ _ h=>h) (by rfl) (v:=.string Sx) ?hy4a hS ?rest4a
    case hy4a=>intro w0 _;go_simp;(try rw [if_pos (by omega)]);(try rw [if_pos (by omega)]);(try simp only [Int.toNat_natCast]);(try rw [he]);(try (intro hbad;exfalso;omega))
    simp only [Act.put,sA,sB,sC];refine wpAnyD_one (i:=5) (by kernel_rfl) rfl (fun K hK=>?_);go_simp;go_at_call 110
    (with_reducible refine(HBe.out _ (HTr.out.same (same_drew1 w)) (HMx.out.same (same_drew1 w))).mono ?_)
    rintro e w2 ⟨rfl,hs2⟩;have HSb:=hid hs2;clear hs2;refine hK _ _ ⟨fun _=>hS0,?_⟩;clear hK K;refine ltk (i:=6) (some 7) rfl rfl (v:= ?v6a) ?hy6a hS ?rest6a
    case hy6a=>intro w0 _;go_simp;try with_reducible rfl
    simp only [Act.put,sA,sB,sC];refine late_done (by kernel_rfl) ?_ _;refine NoPanic.normal ?_;go_wp2;go_ret3;exact HFin.out _ (((same_drew1 w).trans HSb.out))
  · obtain⟨F,hF⟩:=Option.isSome_iff_exists.1 h4;rw [h1,ptrN_some] at HBe;have hck:=h.fine p h2;have HSg:=hid (fun (W:World) (hm:MxAt W)=>seg_yes hck W hm);have HFt:=hid (fun (q:Option Addr) (n c:Nat) (hn:(cutT p.1.tail).length=n) (W:World) (g1:MxAt W) (g2:SgAt W q (cutT p.1.tail))=>fit_yes (c:=c) hck hn x hxl W g1 g2);obtain⟨L,hL⟩:∃ L,F.length=L:=⟨_,rfl⟩;rw [hF] at HFt;have HFt2:=hid (fun (q:Option Addr) (n c:Nat) (hn:(cutT p.1.tail).length=n) (W:World) (g1:MxAt W) (g2:SgAt W q (cutT p.1.tail))=>(HFt.out q n c hn W g1 g2).mono (R':=fun e w'=>∃ q d,e= .returned (.tuple #[.slice q L d,.bool true])∧OwnF w' W.heap.size (.slice q L d) F∧Below W.heap.size W w') (by rintro e w' ⟨q,d,h3,h4⟩;rw [hL] at h3 h4;exact⟨q,d,h3,h4⟩));have HFin:=hid (show ∀ W q d,Below w.heap.size w W→OwnF W w.heap.size (.slice q L d) F→FindAns (47::x) P w (.returned (.tuple #[.int .i64 p.2,.slice q L d,.nilIface])) W from fun W q d hbw ho=>⟨hbw,.inr (.inr ⟨hb,p,F,q,d,h2,hF,h5,by rw [hL],by rw [hL];exact ho⟩)⟩);obtain⟨Sp,hSp⟩:∃ S,str p.1=S:=⟨_,rfl⟩;have HEn:=hid h3;have HE0:=hid (show ∀ W,Below w.heap.size w W→W.cell? ⟨e0,0,none⟩=some (.string Sp) from fun W hbw=>by rw [←hSp];exact cell_keep hbw h3.c0);have HE1:=hid (show ∀ W,Below w.heap.size w W→W.cell? ⟨e0,1,none⟩=some (.int .i64 p.2) from fun W hbw=>cell_keep hbw h3.c1);obtain⟨ID,hID⟩:∃ i,p.2=i:=⟨_,rfl⟩;rw [hID] at HE1 HFin;rw [hY] at HBg HFt2 ⊢;rw [hSp] at HSg;clear hY hb h hmx h1 h2 hSx hN hN1 hxl hp h3 h4 h5 hF hL hSp hID hck HFt HEn;go_enter Tryz.func68,Tryz.ntmps68;go_wp2_with (go_at_call 109;(with_reducible refine(HBg.out _).mono ?_);rintro e w5 ⟨rfl,hw5⟩;subst w5);have hS0:True:=trivial;refine wp_region_noPanic ?_;refine any_begin 7 (by kernel_rfl) (by kernel_rfl) ?_;refine late_begin (fun _=>True) (fun _=>false) hS0 (fun hS=>?_);refine ltk (i:=0) (some 19) rfl rfl (v:= ?v0b) ?hy0b hS ?rest0b
    case hy0b=>intro w0 _;go_simp;try with_reducible rfl
    simp only [Act.put,sA,sB,sC];refine ltk (i:=1) (some 20) rfl rfl (v:= ?v1b) ?hy1b hS ?rest1b
    case hy1b=>intro w0 _;go_simp;try with_reducible rfl
    simp only [Act.put,sA,sB,sC];refine ltk (i:=2) (some 21) rfl rfl (v:= ?v2b) ?hy2b hS ?rest2b
    case hy2b=>intro w0 _;go_simp;try with_reducible rfl
    simp only [Act.put,sA,sB,sC];refine ltk (i:=3) (some 22) rfl rfl (v:= ?v3b) ?hy3b hS ?rest3b
    case hy3b=>intro w0 _;go_simp;try with_reducible rfl
    simp only [Act.put,sA,sB,sC];refine late_take (i:=4) (some 23) rfl rfl (by kernel_rfl) (by kernel_rfl) (by kernel_rfl) (by kernel_rfl) (by kernel_rfl) (fun _ _ _ h=>h) (by rfl) (v:=.string Sx) ?hy4b hS ?rest4b
    case hy4b=>intro w0 _;go_simp;(try rw [if_pos (by omega)]);(try rw [if_pos (by omega)]);(try simp only [Int.toNat_natCast]);(try rw [he]);(try (intro hbad;exfalso;omega))
    simp only [Act.put,sA,sB,sC];refine wpAnyD_one (i:=5) (by kernel_rfl) rfl (fun K hK=>?_);go_simp;go_at_call 110
    (with_reducible refine(HBe.out _ (HTr.out.same (same_drew1 w)) (HMx.out.same (same_drew1 w))).mono ?_)
    rintro e w2 ⟨rfl,hs2⟩;have HSb:=hid hs2;clear hs2;refine hK _ _ ⟨fun _=>hS0,?_⟩;clear hK K;refine ltk (i:=6) (some 7) rfl rfl (v:= ?v6b) ?hy6b hS ?rest6b
    case hy6b=>intro w0 _;go_simp;try with_reducible rfl
    simp only [Act.put,sA,sB,sC];refine late_done (by kernel_rfl) ?_ _;refine NoPanic.normal ?_;have HB5:=hid (((same_drew1 w).trans HSb.out).below);have q0:=HE0.out _ HB5.out;go_wp2_with (first|(go_at_call 97;(with_reducible refine(HSg.out _ (HMx.out.next HB5.out)).mono ?_);rintro e w6 ⟨hb6,q6,n6,c6,rfl,ho6,hn6⟩;have HN6:=hid hn6;have HG6:=hid ho6.sg;have HB6:=hid (below_out HB5.out hb6);have q1:=HE1.out _ HB6.out;clear hb6 ho6 hn6)|(go_at_call 111;(with_reducible refine(HFt2.out _ _ _ HN6.out _ (HMx.out.next HB6.out) HG6.out).mono ?_);rintro e w7 ⟨q7,d7,rfl,ho7,hb7⟩;have HO7:=hid (ho7.lowT HB6.out.size);have HB7:=hid (below_out HB6.out hb7);have q2:=HE1.out _ HB7.out;clear hb7 ho7));go_ret3;exact HFin.out _ _ _ HB7.out HO7.out
def addE_r (P:List (B×Int)) (p:B):Nat:=if checkP p then (if P.any (fun q=>decide (keysP q.1=keysP p)) then 6 else 0) else 3
def addP_r (P:List (B×Int)) (p:B) (id:Int):List (B×Int):=if addE_r P p=0 then P++ [(p,id)] else P
theorem infoE:(Tryz.prog.info? 163).map (fun i=>(i.zero,i.size,i.bytes))=some (some (.pointer none),1,8):=by kernel_rfl
def AddAns_r (w:World) (t:Nat) (P:List (B×Int)) (M:Nat) (G:Gt) (es:List Nat) (v:Value) (p:B) (id:Int) (e:Ending) (w':World):Prop:=e= .returned (errOf (addE_r P p))∧∃ G' es' v',Tr w' t (addP_r P p id) (M+64) G' es' v'∧Kept (Ft_r G es v) w w'∧∀ i,Ft_r G' es' v' i→Ft_r G es v i∨w.heap.size≤i
theorem keys_snoc {X:List B}{i:Nat}{x:B} (h:X[i]?=some x):keysT (X.take (i+1))=keysT (X.take i)++ [keyT x]:=by
 rw [List.take_add_one,h];simp [keysT]
theorem Tr.added {w w1 w2 w3:World}{t n e:Nat}{P:List (B×Int)}{M:Nat}{G:Gt}{es:List Nat}{v v':Value}{p:B}{id:Int} (h:Tr w t P M G es v) (hn:G.nd (keysP p)=some n) (hno:G.en (keysP p)=none) (hc:checkP p=true) (he:EntAt w e (p,id)) (hve:v.ownBlock≠some e)
  (h1:w1=w.setCell ⟨n,3,none⟩ (ptrN (some e))) {o:Obj} (ho:OwnE w2 0 v' (es++ [e])) (hg:(w1.alloc o).grownBy w2 v.ownBlock) (hv:v'.ownBlock=v.ownBlock∨v'.ownBlock=some (w1.alloc o).heap.size)
  (h3:w3=w2.setCell ⟨t,4,none⟩ v'):
  Tr w3 t (P++ [(p,id)]) M {G with en:=updK G.en (keysP p) e} (es++ [e]) v'∧Kept (Ft_r G es v) w w3:=by
 have hnode:=(h.tree.node _ n hn).2;have hroot:=(h.tree.node _ t h.root).2;have hT1:=h.tree.endAt hn e;rw [←h1] at hT1;have hnf:Fp G n:=.inl ⟨_,hn⟩;have htf:Fp G t:=.inl ⟨_,h.root⟩;have hen:e≠n:=fun e1=>ent_not h.tree he (by rw [e1];exact hnf)
 have het:e≠t:=fun e1=>ent_not h.tree he (by rw [e1];exact htf)
 have hs1:w1.heap.size=w.heap.size:=by
  have k1:=((kept_set w n 3 (ptrN (some e))).size);rw [h1];simp [World.setCell]
 have k1:∀ i,i≠n→w1.heap[i]?=w.heap[i]?:=fun i hi=>by rw [h1];exact RowKit.Below.heap_setCell w ⟨n,3,none⟩ _ i hi
 have k2:∀ i,i<w.heap.size→v.ownBlock≠some i→w2.heap[i]?=w1.heap[i]?:=fun i hi hne=>(hg.block i (by simp;omega) (fun e1=>hne e1.symm)).trans ((below_new w1 o).block i (by omega))
 have k3:∀ i,i≠t→w3.heap[i]?=w2.heap[i]?:=fun i hi=>by rw [h3];exact RowKit.Below.heap_setCell w2 ⟨t,4,none⟩ _ i hi
 have hfv:∀ i,Fp G i→v.ownBlock≠some i:=fun i hi e1=>(h.rowno i e1).1 hi
 have hT2:TreeAt w2 (Fp G) {G with en:=updK G.en (keysP p) e} M:=hT1.keep (fun i hi hl=>k2 i (by rw [←hs1];exact hl) (hfv i hi));have ht1:w2.cell? ⟨t,4,none⟩=some v:=by
  refine cell_same (w:=w1) ?_ (k2 t hroot.lt (hfv t htf));rw [h1];exact cell4_set (by decide) h.all
 have hT3:TreeAt w3 (Fp G) {G with en:=updK G.en (keysP p) e} M:=by
  refine⟨fun k b hk=>⟨(hT2.node k b hk).1,?_⟩,fun k m hk=>⟨(hT2.map k m hk).1,?_⟩,hT2.nomap,hT2.own,hT2.up,hT2.one,hT2.onem,hT2.ends⟩
  · have hb:=(hT2.node k b hk).2;by_cases e1:b=t
    · subst e1;rw [h3];exact⟨cell_set_off hb.c0 (by decide),cell_set_off hb.c1 (by decide),cell_set_off hb.c2 (by decide),cell_set_off hb.c3 (by decide),bk_set hb.bk⟩
    · exact hb.keep (k3 b e1)
  · refine(hT2.map k m hk).2.keep (k3 m (fun e1=>?_));subst e1;exact hT2.node_map (k:=[]) h.root hk
 have hentk:∀ i,i<w.heap.size→i≠n→i≠t→v.ownBlock≠some i→w3.heap[i]?=w.heap[i]?:=fun i hi h4 h5 h6=>(k3 i h5).trans ((k2 i hi h6).trans (k1 i h4))
 have hvn:∀ g,v'.ownBlock=some g→¬Fp G g∧g∉es++ [e]∧g≠t:=fun g e1=>by
  rcases hv with h5|h5
  · rw [h5] at e1;obtain⟨a1,a2⟩:=h.rowno g e1;refine⟨a1,fun hm=>?_,fun e2=>a1 (by rw [e2];exact htf)⟩;rcases List.mem_append.1 hm with h6|h6
    · exact a2 h6
    · have h6':g=e:=by simpa using h6
      exact hve (by rw [e1,h6'])
  · rw [h5] at e1;injection e1 with e1
    have hsz:g=w.heap.size+1:=by rw [←e1];simp;omega
    refine⟨fun hf=>?_,fun hm=>?_,fun e2=>?_⟩
    · have:=h.tree.fp_lt hf;omega
    · rcases List.mem_append.1 hm with h6|h6
      · obtain⟨q,_,hq⟩:=h.ent_lt h6;have:=hq.lt;omega
      · have h6':g=e:=by simpa using h6
        have:=he.lt;omega
    · have:=hroot.lt;omega
 have hfp:Fp {G with en:=updK G.en (keysP p) e}=Fp G:=rfl;have hcv:w3.cell? ⟨t,4,none⟩=some v':=by rw [h3];exact cell_set_same ht1
 have hel:es.length=P.length:=h.len;refine⟨⟨hT3.exact,h.root,hcv,ho.keepB (fun g e1=>k3 g (hvn g e1).2.2),fun g e1=>⟨(hvn g e1).1,(hvn g e1).2.1⟩,by rw [List.length_append,List.length_append,hel];rfl,fun i e1 q h4 h5=>?_,fun k e1 hk=>?_,fun q hq=>?_,fun i j q r h4 h5 h6=>?_⟩,?_⟩
 · by_cases hi:i<es.length
   · rw [List.getElem?_append_left hi] at h4;rw [List.getElem?_append_left (by rw [←hel];exact hi)] at h5;obtain⟨a1,a2⟩:=h.ent i e1 q h4 h5;have hmem:=List.mem_of_getElem? h4;refine⟨a1.keep (hentk e1 a1.lt (fun e2=>ent_not h.tree a1 (by rw [e2];exact hnf)) (fun e2=>ent_not h.tree a1 (by rw [e2];exact htf)) (fun e2=>(h.rowno e1 e2).2 hmem)),?_⟩;show updK G.en (keysP p) e (keysP q.1)=some e1;rw [updK_other _ _ (fun e2=>by rw [e2,hno] at a2;cases a2)];exact a2
   · have hi2:i=es.length:=by
      have:=(List.getElem?_eq_some_iff.1 h4).1;simp at this;omega
     subst hi2;have h4':e=e1:=by simpa using h4
     have h5':(p,id)=q:=by rw [hel] at h5;simpa using h5
     subst h4' h5';exact⟨he.keep (hentk e he.lt hen het (fun e2=>hve e2)),updK_same _ _ _⟩
 · have hk2:updK G.en (keysP p) e k=some e1:=hk;by_cases e2:k=keysP p
   · subst e2;rw [updK_same] at hk2;injection hk2 with hk2
     subst hk2;exact⟨es.length,(p,id),by simp,by rw [hel];simp,rfl⟩
   · rw [updK_other _ _ e2] at hk2;obtain⟨i,q,a1,a2,a3⟩:=h.only k e1 hk2;exact⟨i,q,by rw [List.getElem?_append_left (List.getElem?_eq_some_iff.1 a1).1];exact a1,by rw [List.getElem?_append_left (List.getElem?_eq_some_iff.1 a2).1];exact a2,a3⟩
 · rcases List.mem_append.1 hq with h4|h4
   · exact h.fine q h4
   · have:q=(p,id):=by simpa using h4
     rw [this];exact hc
 · have hold:∀ {i:Nat}{q:B×Int},P[i]?=some q→keysP q.1≠keysP p:=fun {i q} hq e1=>by
    have hl:i<es.length:=by rw [hel];exact(List.getElem?_eq_some_iff.1 hq).1
    have:=(h.ent i _ q (List.getElem?_eq_getElem hl) hq).2;rw [e1,hno] at this;cases this
   have hcase:∀ {i:Nat}{q:B×Int},(P++ [(p,id)])[i]?=some q→P[i]?=some q∨(i=P.length∧q=(p,id)):=fun {i q} hq=>by
    by_cases hi:i<P.length
    · rw [List.getElem?_append_left hi] at hq;exact .inl hq
    · have hi2:i=P.length:=by
       have:=(List.getElem?_eq_some_iff.1 hq).1;simp at this;omega
      subst hi2;exact .inr ⟨rfl,by simpa using hq.symm⟩
   rcases hcase h4 with a1|⟨a1,a2⟩
   · rcases hcase h5 with b1|⟨b1,b2⟩
     · exact h.ap i j q r a1 b1 h6
     · rw [b2] at h6;exact absurd h6 (hold a1)
   · rcases hcase h5 with b1|⟨b1,b2⟩
     · rw [a2] at h6;exact absurd h6.symm (hold b1)
     · omega
 · have hsz:w.heap.size≤w2.heap.size:=by have:=hg.size;simp at this;omega
   refine⟨?_,?_,?_,?_,fun i hi hf=>hentk i hi (fun e1=>hf (.inl (by rw [e1];exact hnf))) (fun e1=>hf (.inl (by rw [e1];exact htf))) (fun e1=>hf (.inr (.inl e1)))⟩
   · rw [h3,show (w2.setCell ⟨t,4,none⟩ v').os=w2.os from rfl,hg.os,h1];rfl
   · rw [h3,show (w2.setCell ⟨t,4,none⟩ v').tape=w2.tape from rfl,hg.tape,h1];rfl
   · rw [h3,show (w2.setCell ⟨t,4,none⟩ v').output=w2.output from rfl,hg.output,h1];rfl
   · rw [h3];have:=(kept_set w2 t 4 v').size;omega
theorem ft_added {G:Gt}{es:List Nat}{v v':Value}{k:List Ky}{e n i:Nat} (hv:v'.ownBlock=v.ownBlock∨v'.ownBlock=some n) (hi:Ft_r {G with en:=updK G.en k e} (es++ [e]) v' i):Ft_r G es v i∨i=n∨i=e:=by
 rcases hi with h1|h1|h1
 · exact .inl (.inl h1)
 · rcases hv with h2|h2
   · rw [h2] at h1;exact .inl (.inr (.inl h1))
   · rw [h2] at h1;injection h1 with h1
     exact .inr (.inl h1.symm)
 · rcases List.mem_append.1 h1 with h2|h2
   · exact .inl (.inr (.inr h2))
   · exact .inr (.inr (by simpa using h2))
end Go.Proofs.YtlmlljlappjjjaaGreatDoor
