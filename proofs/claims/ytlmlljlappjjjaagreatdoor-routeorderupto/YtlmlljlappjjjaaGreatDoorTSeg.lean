/- A tree of patterns in memory: nodes, maps, entries. -/
import Derived.Test.YtlmlljlappjjjaaGreatDoorSMem
namespace Go.Proofs.YtlmlljlappjjjaaGreatDoor
set_option maxRecDepth 20000
set_option maxHeartbeats 4000000
open Go.RowKit Go.Maps
def ptrN (o:Option Nat):Value:=.pointer (o.map fun b=>⟨b,0,none⟩)
theorem ptrN_none:ptrN none= .pointer none:=rfl
theorem ptrN_some (b:Nat):ptrN (some b)= .pointer (some ⟨b,0,none⟩):=rfl
def ptrR:Value→Option (DataW (Option Addr)×List MemPlace)
 | .pointer a=>some (.held a,[])
 |_=>none
theorem ptrR_inv {v:Value}{a:Option Addr}{ps:List MemPlace} (h:ptrR v=some (.held a,ps)):v= .pointer a:=by
 cases v <;> simp [ptrR] at h;rw [h.1]
theorem lawP:Keyed Tryz.prog 9:=string_keyed Tryz.underlying9
theorem zeroN (w:World):(zeroValue 166).run Tryz.prog w= .ok (.pointer none) w:=by kernel_rfl
structure Gt where
 nd:List Ky→Option Nat
 mp:List Ky→Option Nat
 en:List Ky→Option Nat
structure NodeAt (w:World) (b:Nat) (m p r e:Option Nat):Prop where
 c0:w.cell? ⟨b,0,none⟩=some (.map m)
 c1:w.cell? ⟨b,1,none⟩=some (ptrN p)
 c2:w.cell? ⟨b,2,none⟩=some (ptrN r)
 c3:w.cell? ⟨b,3,none⟩=some (ptrN e)
 bk:∃ cs T,w.heap[b]?=some (.cells cs T (0,0))
theorem NodeAt.fz {w:World}{b:Nat}{m p r e:Option Nat} (h:NodeAt w b m p r e) (o:Nat):w.frozen? ⟨b,o,none⟩=false:=by
 obtain⟨cs,T,h⟩:=h.bk;exact frozen_of_row w b o cs T h
theorem NodeAt.keep {w w':World}{b:Nat}{m p r e:Option Nat} (h:NodeAt w b m p r e) (hk:w'.heap[b]?=w.heap[b]?):NodeAt w' b m p r e:=
 ⟨cell_same h.c0 hk,cell_same h.c1 hk,cell_same h.c2 hk,cell_same h.c3 hk,by obtain⟨cs,T,h9⟩:=h.bk;exact⟨cs,T,hk.trans h9⟩⟩
theorem NodeAt.lt {w:World}{b:Nat}{m p r e:Option Nat} (h:NodeAt w b m p r e):b<w.heap.size:=lt_of_cell h.c0
def MapAt (w:World) (m M:Nat) (f:B→Option Nat):Prop:=∃ n D,w.ownsMap Tryz.prog 9 ptrR m n D∧n≤M∧∀ x,D.atKey (Lit.string x) (.held none)= .held ((f x).map fun b=>⟨b,0,none⟩)
theorem MapAt.keep {w w':World}{m M:Nat}{f:B→Option Nat} (h:MapAt w m M f) (hk:w'.heap[m]?=w.heap[m]?):MapAt w' m M f:=by
 obtain⟨n,D,⟨es,clock,h1,r⟩,h2⟩:=h;exact⟨n,D,⟨es,clock,hk.trans h1,r⟩,h2⟩
theorem MapAt.lt {w:World}{m M:Nat}{f:B→Option Nat} (h:MapAt w m M f):m<w.heap.size:=by
 obtain⟨n,D,h1,_⟩:=h;exact World.ownsMap.lt h1
theorem MapAt.mono {w:World}{m M M':Nat}{f:B→Option Nat} (h:MapAt w m M f) (hM:M≤M'):MapAt w m M' f:=by
 obtain⟨n,D,h1,h2,h3⟩:=h;exact⟨n,D,h1,Nat.le_trans h2 hM,h3⟩
theorem MapAt.nocell {w:World}{m M o:Nat}{f:B→Option Nat}{v:Value} (h:MapAt w m M f) (hc:w.cell? ⟨m,o,none⟩=some v):False:=by
 obtain⟨n,D,⟨es,clock,h1,r⟩,h2⟩:=h;unfold World.cell? at hc;dsimp only at hc;rw [h1] at hc;simp at hc
theorem MapAt.made (w:World) (M:Nat):MapAt (w.alloc (.map #[] 0)) w.heap.size M (fun _=>none):=⟨0,.map [],World.ownsMap_made w Tryz.prog 9 _,Nat.zero_le _,fun _=>rfl⟩
theorem MapAt.put {w':World}{m n M:Nat}{f:B→Option Nat}{D:DataW (Option Addr)}{x:B}{c:Nat} (hI:Maps.IsMap D) (hn:n≤M) (hf:∀ x,D.atKey (Lit.string x) (.held none)= .held ((f x).map fun b=>⟨b,0,none⟩)) (ho:w'.ownsMap Tryz.prog 9 ptrR m (n+1) (D.put (Lit.string x) (.held (some ⟨c,0,none⟩)))):MapAt w' m (M+1) (fun y=>if y=x then some c else f y):=by
 refine⟨n+1,_,ho,Nat.succ_le_succ hn,fun y=>?_⟩;by_cases h:y=x
 · subst h;rw [Maps.atKey_put_same hI (by trivial)];show _=DataW.held ((if y=y then some c else f y).map _);rw [if_pos rfl];rfl
 · rw [Maps.atKey_put_other (fun e=>h (by injection e)),hf y];show _=DataW.held ((if y=x then some c else f y).map _);rw [if_neg h]
structure TreeAt (w:World) (F:Nat→Prop) (G:Gt) (M:Nat):Prop where
 node:∀ k b,G.nd k=some b→F b∧NodeAt w b (G.mp k) (G.nd (k++ [.par])) (G.nd (k++ [.rest])) (G.en k)
 map:∀ k m,G.mp k=some m→F m∧MapAt w m M (fun x=>G.nd (k++ [.plain x]))
 nomap:∀ k x,G.mp k=none→G.nd (k++ [.plain x])=none
 own:∀ k,G.nd k=none→G.mp k=none
 up:∀ k x,G.nd k=none→G.nd (k++ [x])=none
 one:∀ k k' b,G.nd k=some b→G.nd k'=some b→k=k'
 onem:∀ k k' m,G.mp k=some m→G.mp k'=some m→k=k'
 ends:∀ k,G.nd k=none→G.en k=none
theorem TreeAt.keep {w w':World}{F:Nat→Prop}{G:Gt}{M:Nat} (h:TreeAt w F G M) (hk:∀ b,F b→b<w.heap.size→w'.heap[b]?=w.heap[b]?):TreeAt w' F G M:=
 ⟨fun k b e=>⟨(h.node k b e).1,(h.node k b e).2.keep (hk b (h.node k b e).1 (h.node k b e).2.lt)⟩,fun k m e=>⟨(h.map k m e).1,(h.map k m e).2.keep (hk m (h.map k m e).1 (h.map k m e).2.lt)⟩,h.nomap,h.own,h.up,h.one,h.onem,h.ends⟩
theorem TreeAt.next {w w':World}{F:Nat→Prop}{G:Gt}{M:Nat} (h:TreeAt w F G M) (hb:Below w.heap.size w w'):TreeAt w' F G M:=h.keep fun b _ hb'=>hb.block b hb'
theorem TreeAt.wide {w:World}{F F':Nat→Prop}{G:Gt}{M M':Nat} (h:TreeAt w F G M) (hf:∀ b,F b→F' b) (hM:M≤M'):TreeAt w F' G M':=
 ⟨fun k b e=>⟨hf b (h.node k b e).1,(h.node k b e).2⟩,fun k m e=>⟨hf m (h.map k m e).1,(h.map k m e).2.mono hM⟩,h.nomap,h.own,h.up,h.one,h.onem,h.ends⟩
theorem TreeAt.none_en {w:World}{F:Nat→Prop}{G:Gt}{M:Nat} (h:TreeAt w F G M) {k:List Ky} (hk:G.nd k=none):∀ q,G.en (k++q)=none:=by
 have hn:∀ (q k:List Ky),G.nd k=none→G.nd (k++q)=none:=by
  intro q
  induction q with
  |nil=>intro k hk;rw [List.append_nil];exact hk
  |cons x q ih=>
   intro k hk;have:=ih (k++ [x]) (h.up k x hk)
   rwa [List.append_assoc] at this
 exact fun q=>h.ends _ (hn q k hk)
theorem TreeAt.node_map {w:World}{F:Nat→Prop}{G:Gt}{M:Nat} (h:TreeAt w F G M) {k k':List Ky}{b:Nat} (h1:G.nd k=some b) (h2:G.mp k'=some b):False:=(h.map k' b h2).2.nocell (h.node k b h1).2.c0
def updK (f:List Ky→Option Nat) (k:List Ky) (b:Nat):List Ky→Option Nat:=fun k'=>if k'=k then some b else f k'
theorem updK_same (f:List Ky→Option Nat) (k:List Ky) (b:Nat):updK f k b k=some b:=if_pos rfl
theorem updK_other (f:List Ky→Option Nat) {k k':List Ky} (b:Nat) (h:k'≠k):updK f k b k'=f k':=if_neg h
theorem snoc_inj {k k':List Ky}{x y:Ky} (h:k++ [x]=k'++ [y]):k=k'∧x=y:=by
 have h1:=List.append_inj' h rfl;exact⟨h1.1,by simpa using h1.2⟩
theorem TreeAt.endAt {w:World}{F:Nat→Prop}{G:Gt}{M:Nat} (h:TreeAt w F G M) {k:List Ky}{b:Nat} (hk:G.nd k=some b) (e:Nat):TreeAt (w.setCell ⟨b,3,none⟩ (ptrN (some e))) F {G with en:=updK G.en k e} M:=by
 have hb:=(h.node k b hk).2;refine⟨fun k' b' hk'=>?_,fun k' m hm=>?_,h.nomap,h.own,h.up,h.one,h.onem,fun k' hn=>?_⟩
 · refine⟨(h.node k' b' hk').1,?_⟩;by_cases e1:b'=b
   · subst e1;have e2:=h.one k' k b' hk' hk;subst e2;show NodeAt _ b' _ _ _ (updK G.en k' e k');rw [updK_same];exact⟨cell_set_off hb.c0 (by decide),cell_set_off hb.c1 (by decide),cell_set_off hb.c2 (by decide),cell_set_same hb.c3,bk_set hb.bk⟩
   · show NodeAt _ b' _ _ _ (updK G.en k e k');have e2:k'≠k:=fun e3=>e1 (by rw [e3,hk] at hk';injection hk' with e4;exact e4.symm)
     rw [updK_other _ _ e2];exact(h.node k' b' hk').2.keep ((kept_set w b 3 _).block b' (h.node k' b' hk').2.lt e1)
 · refine⟨(h.map k' m hm).1,(h.map k' m hm).2.keep ((kept_set w b 3 _).block m (h.map k' m hm).2.lt (fun e1=>?_))⟩;subst e1;exact h.node_map hk hm
 · show updK G.en k e k'=none;have hn':G.nd k'=none:=hn;rw [updK_other _ _ (fun e3=>by rw [e3,hk] at hn';cases hn')];exact h.ends k' hn
def nodeZ:Array Value:=#[.map none,.pointer none,.pointer none,.pointer none]
theorem nodeZ_at (w:World) (T:TypeId):NodeAt (w.alloc (.cells nodeZ T (0,0))) w.heap.size none none none none:=by
 have h:=cells_new w [.map none,.pointer none,.pointer none,.pointer none] T;have h0:=h 0 _ rfl;have h1:=h 1 _ rfl;have h2:=h 2 _ rfl;have h3:=h 3 _ rfl;rw [add_off] at h0 h1 h2 h3;exact⟨h0,h1,h2,h3,_,_,heap_alloc_new w _⟩
theorem TreeAt.more {w w2:World}{F:Nat→Prop}{G:Gt}{M:Nat} (h:TreeAt w F G M) {k:List Ky}{y:Ky}{b c:Nat} (hk:G.nd k=some b) (hc:w.heap.size≤c) (hno:G.nd (k++ [y])=none)
  (hz:NodeAt w2 c none none none none)
  (hn:NodeAt w2 b (G.mp k) (updK G.nd (k++ [y]) c (k++ [.par])) (updK G.nd (k++ [y]) c (k++ [.rest])) (G.en k))
  (hm:∀ m,G.mp k=some m→MapAt w2 m (M+1) (fun x=>updK G.nd (k++ [y]) c (k++ [.plain x])))
  (hy:∀ x,y= .plain x→G.mp k≠none)
  (hs:∀ i,F i→i<w.heap.size→i≠b→G.mp k≠some i→w2.heap[i]?=w.heap[i]?):TreeAt w2 (fun i=>F i∨i=c) {G with nd:=updK G.nd (k++ [y]) c} (M+1):=by
 have hlt:∀ k' b',G.nd k'=some b'→b'<c:=fun k' b' e=>Nat.lt_of_lt_of_le (h.node k' b' e).2.lt hc
 have hother:∀ k' x,k'≠k→G.nd k'≠none→updK G.nd (k++ [y]) c (k'++ [x])=G.nd (k'++ [x]):=fun k' x hne _=>updK_other _ _ (fun e=>hne (snoc_inj e).1)
 have hchild:∀ x,updK G.nd (k++ [y]) c ((k++ [y])++ [x])=none:=fun x=>by
  rw [updK_other _ _ (fun e=>by simpa using congrArg List.length e)];exact h.up _ _ hno
 refine⟨fun k' b' hk'=>?_,fun k' m hm'=>?_,fun k' x hm'=>?_,fun k' hn'=>?_,fun k' x hn'=>?_,fun k1 k2 b' h1 h2=>?_,h.onem,fun k' hn'=>?_⟩
 · by_cases e1:k'=k++ [y]
   · subst e1;have hk2:updK G.nd (k++ [y]) c (k++ [y])=some b':=hk';rw [updK_same] at hk2;injection hk2 with hk2
     subst hk2;refine⟨.inr rfl,?_⟩;show NodeAt w2 c (G.mp (k++ [y])) (updK G.nd (k++ [y]) c ((k++ [y])++ [.par])) (updK G.nd (k++ [y]) c ((k++ [y])++ [.rest])) (G.en (k++ [y]));rw [hchild,hchild,h.own _ hno,h.ends _ hno];exact hz
   · have hk2:updK G.nd (k++ [y]) c k'=some b':=hk';rw [updK_other _ _ e1] at hk2;refine⟨.inl (h.node k' b' hk2).1,?_⟩;show NodeAt w2 b' (G.mp k') (updK G.nd (k++ [y]) c (k'++ [.par])) (updK G.nd (k++ [y]) c (k'++ [.rest])) (G.en k');by_cases e2:k'=k
     · subst e2;rw [hk] at hk2;injection hk2 with hk2
       subst hk2;exact hn
     · rw [hother k' _ e2 (by rw [hk2];simp),hother k' _ e2 (by rw [hk2];simp)];refine(h.node k' b' hk2).2.keep (hs b' (h.node k' b' hk2).1 (h.node k' b' hk2).2.lt (fun e3=>e2 ?_) (fun e3=>h.node_map hk2 e3));rw [e3] at hk2;exact h.one k' k b hk2 hk
 · have hm2:G.mp k'=some m:=hm';by_cases e2:k'=k
   · subst e2;exact⟨.inl (h.map k' m hm2).1,hm m hm2⟩
   · refine⟨.inl (h.map k' m hm2).1,?_⟩;have hk3:G.nd k'≠none:=fun e=>by rw [h.own k' e] at hm2;cases hm2
     have e4:(fun x=>updK G.nd (k++ [y]) c (k'++ [.plain x]))=fun x=>G.nd (k'++ [.plain x]):=funext fun x=>hother k' _ e2 hk3
     show MapAt w2 m (M+1) (fun x=>updK G.nd (k++ [y]) c (k'++ [.plain x]));rw [e4];refine((h.map k' m hm2).2.keep (hs m (h.map k' m hm2).1 (h.map k' m hm2).2.lt (fun e5=>?_) (fun e5=>e2 (h.onem k' k m hm2 e5)))).mono (Nat.le_succ _);subst e5;exact h.node_map hk hm2
 · have hm2:G.mp k'=none:=hm';show updK G.nd (k++ [y]) c (k'++ [.plain x])=none;rw [updK_other _ _ (fun e=>by
    obtain⟨e1,e2⟩:=snoc_inj e;subst e1;exact hy x e2.symm hm2)]
   exact h.nomap k' x hm2
 · have hn2:updK G.nd (k++ [y]) c k'=none:=hn';by_cases e1:k'=k++ [y]
   · rw [e1,updK_same] at hn2;cases hn2
   · rw [updK_other _ _ e1] at hn2;exact h.own k' hn2
 · have hn2:updK G.nd (k++ [y]) c k'=none:=hn';show updK G.nd (k++ [y]) c (k'++ [x])=none;by_cases e1:k'=k++ [y]
   · rw [e1,updK_same] at hn2;cases hn2
   · rw [updK_other _ _ e1] at hn2;rw [updK_other _ _ (fun e=>by rw [(snoc_inj e).1,hk] at hn2;cases hn2)];exact h.up k' x hn2
 · have h1':updK G.nd (k++ [y]) c k1=some b':=h1;have h2':updK G.nd (k++ [y]) c k2=some b':=h2;by_cases e1:k1=k++ [y]
   · by_cases e2:k2=k++ [y]
     · rw [e1,e2]
     · rw [e1,updK_same] at h1';rw [updK_other _ _ e2] at h2';injection h1' with h1'
       have:=hlt k2 b' h2';omega
   · rw [updK_other _ _ e1] at h1';by_cases e2:k2=k++ [y]
     · rw [e2,updK_same] at h2';injection h2' with h2'
       have:=hlt k1 b' h1';omega
     · rw [updK_other _ _ e2] at h2';exact h.one k1 k2 b' h1' h2'
 · have hn2:updK G.nd (k++ [y]) c k'=none:=hn';by_cases e1:k'=k++ [y]
   · rw [e1,updK_same] at hn2;cases hn2
   · rw [updK_other _ _ e1] at hn2;exact h.ends k' hn2
open Go.RowKit
theorem cutT_len:∀ s:B,(cutT s).length≤s.length+1
 | []=>Nat.le_refl _
 |c::s=>by
  have ih:=cutT_len s;rw [cutT_cons];split
  · simp;omega
  · split
    · simp
    · rename_i y l e
      rw [e] at ih;simp at ih ⊢;omega
def TxAt (w:World) (p:Option Addr) (l:List B):Prop:=∀ (j:Nat) (t:B),l[j]?=some t→∃ g o,p=some ⟨g,o,none⟩∧w.cell? ⟨g,o+j,none⟩=some (.string (str t))
theorem OwnS.tx {w:World}{base n c:Nat}{p:Option Addr}{l:List B} (h:OwnS w base (.slice p n c) l):TxAt w p l:=fun _ _ hj=>h.at hj
theorem TxAt.next {w w':World}{p:Option Addr}{l:List B} (h:TxAt w p l) (hb:Below w.heap.size w w'):TxAt w' p l:=by
 intro j t hj;obtain⟨g,o,e,hc⟩:=h j t hj;exact⟨g,o,e,cell_keep hb hc⟩
theorem joinT_mem:∀ {l:List B}{x:B},x∈l→x.length≤(joinT l).length
 | [],_,h=>by cases h
 | [y],x,h=>by
  simp at h;subst h;exact Nat.le_refl _
 |y::z::l,x,h=>by
  show x.length≤(y++47::joinT (z::l)).length;simp only [List.length_append,List.length_cons];rcases List.mem_cons.1 h with h1|h1
  · subst h1;omega
  · have:=joinT_mem h1;omega
def begB (x:UInt8) (s:B):Bool:=match s with
 |c::_=>decide (c=x)
 | []=>false
theorem hasp_lite (x:UInt8) (s:B) (hs:s.length≤140737488355328) (w:World):Calls Tryz.prog 127 #[.string (str s),.string ⟨#[x]⟩] w fun e w'=>e= .returned (.bool (begB x s))∧w'=w:=by
 cases s with
 |nil=>
  show Calls Tryz.prog 127 #[.string ⟨#[]⟩,.string ⟨#[x]⟩] w _;have hz:(⟨#[x]⟩:ByteArray).size=1:=rfl;obtain⟨X,hX⟩:∃ X:ByteArray,⟨#[x]⟩=X:=⟨_,rfl⟩;rw [hX] at hz ⊢;clear hX;go_enter Tryz.func127,Tryz.ntmps127;go_wp2;go_ret;exact⟨rfl,rfl⟩
 |cons b t=>
  obtain⟨m,hm⟩:∃ m,t.length=m:=⟨_,rfl⟩;have hm2:m≤140737488355328:=by rw [←hm];simp at hs;omega
  obtain⟨S,hS⟩:∃ S,str (b::t)=S:=⟨_,rfl⟩;have hSn:S.size=m+1:=by rw [←hS,str_size,←hm];rfl
  have hx1:S.extract 0 1=str [b]:=by rw [←hS,ext_str];rfl
  obtain⟨X,hX⟩:∃ X:ByteArray,⟨#[x]⟩=X:=⟨_,rfl⟩;have hz:X.size=1:=by rw [←hX];rfl
  by_cases hc:b=x
  · have hx2:S.extract 0 1=X:=by rw [hx1,hc];exact hX
    have hv:begB x (b::t)=true:=decide_eq_true hc;rw [hv,hS,hX];clear hS hX hc hv hm hx1;go_enter Tryz.func127,Tryz.ntmps127;go_wp2;go_ret;exact⟨rfl,rfl⟩
  · have hx2:¬S.extract 0 1=X:=fun e=>hc (by
     rw [hx1,←hX] at e;have:=congrArg (fun a:ByteArray=>a.data.toList) e;simpa using this)
    have hx3:((S.extract 0 1).toList== X.toList)=false:=ne_list hx2;have hv:begB x (b::t)=false:=decide_eq_false hc;rw [hv,hS,hX];clear hS hX hc hv hm hx1;go_enter Tryz.func127,Tryz.ntmps127;go_wp2;go_ret;exact⟨rfl,rfl⟩
theorem hasp_any (x:UInt8) (s:B) (hs:s.length≤140737488355328) (w:World):Calls Tryz.prog 87 #[.string (str s),.string ⟨#[x]⟩] w fun e w'=>e= .returned (.bool (begB x s))∧w'=w:=by
 have HL:=hid (fun W:World=>hasp_lite x s hs W);obtain⟨S,hS⟩:∃ S,str s=S:=⟨_,rfl⟩;obtain⟨X,hX⟩:∃ X:ByteArray,⟨#[x]⟩=X:=⟨_,rfl⟩;rw [hS,hX] at HL ⊢;go_enter Tryz.func87,Tryz.ntmps87;go_wp2_with (go_at_call 127;(with_reducible refine(HL.out _).mono ?_);rintro e w1 ⟨rfl,hw1⟩;subst w1);go_ret;exact⟨rfl,rfl⟩
theorem begins_any (s:B) (hs:s.length≤140737488355328) (w:World):Calls Tryz.prog 109 #[.string (str s)] w fun e w'=>e= .returned (.bool (begB 47 s))∧w'=w:=by
 have HL:=hid (fun W:World=>hasp_any 47 s hs W);obtain⟨S,hS⟩:∃ S,str s=S:=⟨_,rfl⟩;rw [hS] at HL ⊢;go_enter Tryz.func109,Tryz.ntmps109;go_wp2_with (go_at_call 87;(with_reducible refine(HL.out _).mono ?_);rintro e w1 ⟨rfl,hw1⟩;subst w1);go_ret;exact⟨rfl,rfl⟩
def cutP (x:UInt8) (s:B):B:=if begB x s then s.tail else s
theorem cutp_lite (x:UInt8) (s:B) (hs:s.length≤140737488355328) (w:World):Calls Tryz.prog 176 #[.string (str s),.string ⟨#[x]⟩] w fun e w'=>e= .returned (.tuple #[.string (str (cutP x s)),.bool (begB x s)])∧w'=w:=by
 have HL:=hid (fun W:World=>hasp_lite x s hs W);obtain⟨n,hn⟩:∃ n,s.length=n:=⟨_,rfl⟩;obtain⟨S,hS⟩:∃ S,str s=S:=⟨_,rfl⟩;have hSn:S.size=n:=by rw [←hS,str_size,hn]
 obtain⟨X,hX⟩:∃ X:ByteArray,⟨#[x]⟩=X:=⟨_,rfl⟩;have hz:X.size=1:=by rw [←hX];rfl
 cases hb:begB x s with
 |false=>
  have e1:str (cutP x s)=S:=by unfold cutP;rw [hb,if_neg (by decide)];exact hS
  rw [hb] at HL;rw [e1];rw [hS,hX] at HL ⊢;clear hS hX hb e1;go_enter Tryz.func176,Tryz.ntmps176;go_wp2_with (go_at_call 127;(with_reducible refine(HL.out _).mono ?_);rintro e w1 ⟨rfl,hw1⟩;subst w1);go_ret2;exact⟨rfl,rfl⟩
 |true=>
  have h1:1≤n:=by
   rw [←hn];cases s with
   |nil=>cases hb
   |cons _ _=>simp
  have HE:=hid (show S.extract 1 n=str (cutP x s) from by rw [←hS,ext_drop s 1 n hn];unfold cutP;rw [hb,if_pos rfl,List.drop_one]);obtain⟨T,hT⟩:∃ T,str (cutP x s)=T:=⟨_,rfl⟩;have hn2:n≤140737488355328:=by omega
  rw [hT] at HE ⊢;rw [hb] at HL;rw [hS,hX] at HL ⊢;have he:=HE.out;clear hS hX hb hT hn HE;go_enter Tryz.func176,Tryz.ntmps176;go_wp2_with (go_at_call 127;(with_reducible refine(HL.out _).mono ?_);rintro e w1 ⟨rfl,hw1⟩;subst w1);go_ret2;exact⟨rfl,rfl⟩
theorem cutp_any (x:UInt8) (s:B) (hs:s.length≤140737488355328) (w:World):Calls Tryz.prog 155 #[.string (str s),.string ⟨#[x]⟩] w fun e w'=>e= .returned (.tuple #[.string (str (cutP x s)),.bool (begB x s)])∧w'=w:=by
 have HL:=hid (fun W:World=>cutp_lite x s hs W);obtain⟨S,hS⟩:∃ S,str s=S:=⟨_,rfl⟩;obtain⟨X,hX⟩:∃ X:ByteArray,⟨#[x]⟩=X:=⟨_,rfl⟩;rw [hS,hX] at HL ⊢;go_enter Tryz.func155,Tryz.ntmps155;go_wp2_with (go_at_call 176;(with_reducible refine(HL.out _).mono ?_);rintro e w1 ⟨rfl,hw1⟩;subst w1);go_ret2;exact⟨rfl,rfl⟩
def visU (c:UInt8):Bool:=visB (c.toNat:Int)
def tokT (s:B):Bool:=isTok (str s)
theorem vis_stop {s:B}{k:Nat} (h:k<s.length) (hv:visU s[k]=false):s.all visU=false:=by
 rw [List.all_eq_false];exact⟨s[k],List.getElem_mem h,by simp [hv]⟩
theorem isvis_any (s:B) (hs:s.length≤140737488355328) (w:World):Calls Tryz.prog 156 #[.string (str s)] w fun e w'=>e= .returned (.bool (s.all visU))∧w'=w:=by
 obtain⟨n,hn⟩:∃ n,s.length=n:=⟨_,rfl⟩;have HN:=hid hn;obtain⟨S,hS⟩:∃ S,str s=S:=⟨_,rfl⟩;have hSn:S.size=n:=by rw [←hS,str_size,hn]
 have HByte:=hid (show ∀ (k:Nat) (h:k<s.length) (h2:k<S.size),S[k]'h2=s[k]'h from fun k h h2=>by subst hS;rfl);have hn2:n≤140737488355328:=by omega
 rw [hS];clear hS hn hs;go_enter Tryz.func156,Tryz.ntmps156;go_wp2;go_loop [6] (fun i=>∃ k:Nat,k≤n∧i= .int .i64 k∧(s.take k).all visU=true) (fun i=>n-(intOf i).toNat)
 case atStart=>exact⟨0,Nat.zero_le _,rfl,rfl⟩
 case round=>
  obtain⟨k,hk,rfl,hall⟩:=hrel;by_cases hlt:k<n
  · have h3:k<s.length:=by rw [HN.out];exact hlt
    obtain⟨y,hy⟩:∃ y,s[k]=y:=⟨_,rfl⟩;obtain⟨Y,hY⟩:∃ Y:Nat,y.toNat=Y:=⟨_,rfl⟩;have hY256:Y<256:=by rw [←hY];exact y.toNat_lt
    have hbyte:∀ h:k<S.size,(S[k]'h).toNat=Y:=fun h=>by rw [HByte.out k h3 h,hy,hY]
    have hvy:visU y=visB (Y:Int):=by unfold visU;rw [hY]
    have HA:=hid hall;have HT:=hid (show (s.take (k+1)).all visU=(visB (Y:Int)) from by rw [List.take_succ_eq_append_getElem h3,List.all_append,hall,hy];simp [hvy]);have HF:=hid (show visB (Y:Int)=false→s.all visU=false from fun h=>vis_stop h3 (by rw [hy,hvy];exact h));clear hy hY hall hvy;cases hv:visB (Y:Int) with
    |true=>
     go_wp2_with (go_at_call 177;refine(visible_any _ _ (by omega) (by omega)).mono ?_;rintro e w' ⟨rfl,rfl⟩);go_round
     case rel=>exact⟨k+1,by omega,by go_num,by rw [HT.out,hv]⟩
     case measure=>simp [intOf];omega
    |false=>
     go_wp2_with (go_at_call 177;refine(visible_any _ _ (by omega) (by omega)).mono ?_;rintro e w' ⟨rfl,rfl⟩);go_ret;exact⟨ret_bool (HF.out hv).symm,rfl⟩
  · obtain rfl:n=k:=by omega
    have HA:=hid (show s.all visU=true from by rw [List.take_of_length_le (by rw [HN.out];exact Nat.le_refl _)] at hall;exact hall);clear hall;go_wp2;go_ret;exact⟨ret_bool HA.out.symm,rfl⟩
def segX (x:B):B:=if kindT x=0 then x else x.tail
def okS (x:B):Bool:=if kindT x=0 then x.all visU else tokT x.tail
theorem beg_colon (x:B):begB 58 x=decide (kindT x=1):=by
 unfold begB kindT;split
 · rename_i c t
   by_cases h:c=58
   · simp [h]
   · by_cases h2:c=42 <;> simp [h,h2]
 · rfl
theorem beg_star {x:B} (h1:¬kindT x=1):begB 42 x=decide (kindT x=2):=by
 unfold begB;unfold kindT at h1 ⊢;split
 · rename_i c t
   by_cases h:c=58
   · simp [h] at h1
   · by_cases h2:c=42 <;> simp [h,h2]
 · rfl
theorem seg_size:(Tryz.prog.info? 174).map (·.size)=some 2:=by kernel_rfl
theorem results_seg {fn:Func}{p u:Tmp} (h:fn.results= #[.cell p 174,.tmp u]) (tmps:Array Value) (w:World) (g:Nat) (t:TypeId) (cs:Array Value) (fr:Nat×Nat)
  (hp:tmps.getD p undef= .pointer (some ⟨g,0,none⟩)) (hg:w.heap[g]?=some (.cells cs t fr)) (hs:cs.size=2):(results fn tmps).run Tryz.prog w= .ok (.tuple #[.agg cs,tmps.getD u undef]) w:=by
 have hl:=run_loadVar_row (P:=Tryz.prog) w g t 174 cs fr _ hg Tryz.underlying174 rfl (by rw [seg_size,hs]);rw [results_cell_tmp h,hp];simp [asAddr,Result.andThen,hl]
theorem segof_any (x:B) (hx:x.length≤140737488355328) (w:World):Calls Tryz.prog 134 #[.string (str x)] w fun e w'=>e= .returned (.tuple #[.agg #[.int .i64 (kindT x:Int),.string (str (segX x))],.bool (okS x)])∧Below w.heap.size w w':=by
 have HC:=hid (fun W:World=>cutp_any 58 x hx W);have HC2:=hid (fun W:World=>cutp_any 42 x hx W);have HV:=hid (fun W:World=>isvis_any x hx W);have HT:=hid (fun W:World=>istoken_any (str x.tail) W (by rw [str_size,List.length_tail];unfold maxLen;omega));rw [beg_colon] at HC;unfold cutP at HC HC2;rw [beg_colon] at HC;have hk:=kindT_le x;by_cases h1:kindT x=1
 · have e1:segX x=x.tail:=by unfold segX;rw [if_neg (by omega)]
   have e2:okS x=isTok (str x.tail):=by unfold okS;rw [if_neg (by omega)];rfl
   rw [e1,e2,h1];rw [decide_eq_true h1,if_pos rfl] at HC;obtain⟨S,hS⟩:∃ S,str x=S:=⟨_,rfl⟩;obtain⟨T,hT⟩:∃ T,str x.tail=T:=⟨_,rfl⟩;rw [hS,hT] at HC;rw [hT] at HT;rw [hS,hT];clear hS hT HC2 HV e1 e2 h1 hk;go_enter Tryz.func134,Tryz.ntmps134;go_wp2_with (first|(go_at_call 155;(with_reducible refine(HC.out _).mono ?_);rintro e w1 ⟨rfl,hw1⟩;subst w1)|(go_at_call 40;(with_reducible refine(HT.out _).mono ?_);rintro e w1 ⟨rfl,hw1⟩;subst w1));refine bodyPost_ret (results_seg rfl _ _ _ 174 _ (0,0) rfl (heap_alloc_new w _) rfl) rfl ?_;exact⟨rfl,below_new w _⟩
 · rw [beg_star h1] at HC2;rw [decide_eq_false h1,if_neg (by decide)] at HC;by_cases h2:kindT x=2
   · have e1:segX x=x.tail:=by unfold segX;rw [if_neg (by omega)]
     have e2:okS x=isTok (str x.tail):=by unfold okS;rw [if_neg (by omega)];rfl
     rw [e1,e2,h2];rw [decide_eq_true h2,if_pos rfl] at HC2;obtain⟨S,hS⟩:∃ S,str x=S:=⟨_,rfl⟩;obtain⟨T,hT⟩:∃ T,str x.tail=T:=⟨_,rfl⟩;rw [hS] at HC;rw [hS,hT] at HC2;rw [hT] at HT;rw [hS,hT];clear hS hT HV e1 e2 h1 h2 hk;go_enter Tryz.func134,Tryz.ntmps134;go_wp2_with (first|(go_at_call 155;first|((with_reducible refine(HC.out _).mono ?_);rintro e w1 ⟨rfl,hw1⟩;subst w1)|((with_reducible refine(HC2.out _).mono ?_);rintro e w1 ⟨rfl,hw1⟩;subst w1))|(go_at_call 40;(with_reducible refine(HT.out _).mono ?_);rintro e w1 ⟨rfl,hw1⟩;subst w1));refine bodyPost_ret (results_seg rfl _ _ _ 174 _ (0,0) rfl (heap_alloc_new w _) rfl) rfl ?_;exact⟨rfl,below_new w _⟩
   · have h0:kindT x=0:=by omega
     have e1:segX x=x:=by unfold segX;rw [if_pos h0]
     have e2:okS x=x.all visU:=by unfold okS;rw [if_pos h0]
     rw [e1,e2,h0];rw [decide_eq_false h2,if_neg (by decide)] at HC2;obtain⟨S,hS⟩:∃ S,str x=S:=⟨_,rfl⟩;obtain⟨bv,hbv⟩:∃ bv,x.all visU=bv:=⟨_,rfl⟩;rw [hS] at HC HC2 HV;rw [hbv] at HV ⊢;rw [hS];clear hS hbv e1 e2 h1 h2 h0 hk HT;go_enter Tryz.func134,Tryz.ntmps134;go_wp2_with (first|(go_at_call 155;first|((with_reducible refine(HC.out _).mono ?_);rintro e w1 ⟨rfl,hw1⟩;subst w1)|((with_reducible refine(HC2.out _).mono ?_);rintro e w1 ⟨rfl,hw1⟩;subst w1))|(go_at_call 156;(with_reducible refine(HV.out _).mono ?_);rintro e w1 ⟨rfl,hw1⟩;subst w1));refine bodyPost_ret (results_seg rfl _ _ _ 174 _ (0,0) rfl (heap_alloc_new w _) rfl) rfl ?_;exact⟨rfl,below_new w _⟩
theorem index_any (l:List B) (p:Option Addr) (n c:Nat) (hn:l.length=n) (hnn:n≤140737488355328) (y:B) (w:World) (hT:TxAt w p l):Calls Tryz.prog 75 #[.slice p n c,.string (str y)] w fun e w'=>(∃ r:Int,e= .returned (.int .i64 r)∧decide (0≤r)=l.contains y)∧w'=w:=by
 have HN:=hid hn;have HT:=hid hT;obtain⟨Y,hY⟩:∃ Y,str y=Y:=⟨_,rfl⟩;have HY:=hid hY;rw [hY];clear hn hT hY;go_enter Tryz.func75,Tryz.ntmps75;go_wp2;go_loopg [8] (n+1) (fun gk s8 wr=>∃ i:Nat,i≤n∧gk=n-i+1∧s8= .int .i64 (i:Int)∧(l.take i).contains y=false∧wr=w)
 case atStart=>exact⟨0,by omega,rfl,rfl,rfl,rfl⟩
 case round=>
  obtain⟨i,hi,rfl,rfl,hno,rfl⟩:=hrel;have HNo:=hid hno;clear hno;by_cases hin:i<n
  · obtain⟨a,ha⟩:∃ a,l[i]?=some a:=⟨_,List.getElem?_eq_getElem (by rw [HN.out];exact hin)⟩;obtain⟨g,o,rfl,hc⟩:=HT.out i a ha;obtain⟨Sa,hSa⟩:∃ S,str a=S:=⟨_,rfl⟩;rw [hSa] at hc;have HA:=hid ha;by_cases hab:y=a
    · obtain rfl:Sa=Y:=by rw [←hSa,←HY.out,hab]
      have HR:=hid (show l.contains y=true from by rw [List.contains_iff_mem,hab];exact List.mem_of_getElem? ha);clear ha hSa hab;go_wp2;go_ret;exact⟨⟨_,rfl,by rw [HR.out];exact decide_eq_true (by omega)⟩,rfl⟩
    · have hS:¬Y=Sa:=fun h=>hab (str_inj (by rw [HY.out,hSa,h]))
      have hS4:(Y.toList== Sa.toList)=false:=ne_list hS;have HR:=hid (show (l.take (i+1)).contains y=false from by
       rw [List.take_add_one,ha];have h1:=HNo.out;rw [List.contains_eq_mem,decide_eq_false_iff_not] at h1 ⊢;simp;exact⟨h1,hab⟩)
      clear ha hSa hab;go_wp2;go_roundg (n-(i+1)+1)
      case measure=>omega
      case rel=>exact⟨i+1,by omega,rfl,by push_cast;go_num,HR.out,rfl⟩
  · obtain rfl:n=i:=by omega
    have HR:=hid (show l.contains y=false from by have h1:=HNo.out;rw [List.take_of_length_le (by rw [HN.out];exact Nat.le_refl _)] at h1;exact h1);go_wp2;go_ret;exact⟨⟨-1,rfl,by rw [HR.out];rfl⟩,rfl⟩
theorem contains_any (l:List B) (p:Option Addr) (n c:Nat) (hn:l.length=n) (hnn:n≤140737488355328) (y:B) (w:World) (hT:TxAt w p l):Calls Tryz.prog 41 #[.slice p n c,.string (str y)] w fun e w'=>e= .returned (.bool (l.contains y))∧w'=w:=by
 have HI:=hid (index_any l p n c hn hnn y w hT);obtain⟨Y,hY⟩:∃ Y,str y=Y:=⟨_,rfl⟩;rw [hY] at HI ⊢;obtain⟨v,hv⟩:∃ v,l.contains y=v:=⟨_,rfl⟩;rw [hv] at HI ⊢;clear hv hY hT hn;go_enter Tryz.func41,Tryz.ntmps41;go_wp2_with (go_at_call 75;(with_reducible refine HI.out.mono ?_);rintro e w1 ⟨⟨r,rfl,hr⟩,hw1⟩;subst w1);go_ret;exact⟨rfl,rfl⟩
end Go.Proofs.YtlmlljlappjjjaaGreatDoor
