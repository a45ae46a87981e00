/- A tree of patterns in memory: nodes, maps, entries. -/
import Derived.Test.YtlmlljlappjjjaaGreatDoorSMem
namespace Go.Proofs.YtlmlljlappjjjaaGreatDoor
set_option maxRecDepth 20000
set_option maxHeartbeats 8000000
open Go.RowKit Go.Maps
def ptrN (o:Option Nat):Value:=.pointer (o.map fun b=>⟨b,0,none⟩)
theorem ptrN_none:ptrN none= .pointer none:=rfl
theorem ptrN_some (b:Nat):ptrN (some b)= .pointer (some ⟨b,0,none⟩):=rfl
def ptrR:Value→Option (DataW (Option Addr)×List MemPlace)
 | .pointer a=>some (.held a,[])
 |_=>none
theorem ptrR_inv {v:Value}{a:Option Addr}{ps:List MemPlace} (h:ptrR v=some (.held a,ps)):v= .pointer a:=by
 cases v <;> simp [ptrR] at h;rw [h.1]
theorem lawP:Keyed Tryz.prog 9:=string_keyed Tryz.underlying9
theorem zeroN (w:World):(zeroValue 166).run Tryz.prog w= .ok (.pointer none) w:=by kernel_rfl
structure Gt where
 nd:List Ky→Option Nat
 mp:List Ky→Option Nat
 en:List Ky→Option Nat
structure NodeAt (w:World) (b:Nat) (m p r e:Option Nat):Prop where
 c0:w.cell? ⟨b,0,none⟩=some (.map m)
 c1:w.cell? ⟨b,1,none⟩=some (ptrN p)
 c2:w.cell? ⟨b,2,none⟩=some (ptrN r)
 c3:w.cell? ⟨b,3,none⟩=some (ptrN e)
 bk:∃ cs T,w.heap[b]?=some (.cells cs T (0,0))
theorem NodeAt.fz {w:World}{b:Nat}{m p r e:Option Nat} (h:NodeAt w b m p r e) (o:Nat):w.frozen? ⟨b,o,none⟩=false:=by
 obtain⟨cs,T,h⟩:=h.bk;exact frozen_of_row w b o cs T h
theorem NodeAt.keep {w w':World}{b:Nat}{m p r e:Option Nat} (h:NodeAt w b m p r e) (hk:w'.heap[b]?=w.heap[b]?):NodeAt w' b m p r e:=
 ⟨cell_same h.c0 hk,cell_same h.c1 hk,cell_same h.c2 hk,cell_same h.c3 hk,by obtain⟨cs,T,h9⟩:=h.bk;exact⟨cs,T,hk.trans h9⟩⟩
theorem NodeAt.lt {w:World}{b:Nat}{m p r e:Option Nat} (h:NodeAt w b m p r e):b<w.heap.size:=lt_of_cell h.c0
def MapAt (w:World) (m M:Nat) (f:B→Option Nat):Prop:=∃ n D,w.ownsMap Tryz.prog 9 ptrR m n D∧n≤M∧∀ x,D.atKey (Lit.string x) (.held none)= .held ((f x).map fun b=>⟨b,0,none⟩)
theorem MapAt.keep {w w':World}{m M:Nat}{f:B→Option Nat} (h:MapAt w m M f) (hk:w'.heap[m]?=w.heap[m]?):MapAt w' m M f:=by
 obtain⟨n,D,⟨es,clock,h1,r⟩,h2⟩:=h;exact⟨n,D,⟨es,clock,hk.trans h1,r⟩,h2⟩
theorem MapAt.lt {w:World}{m M:Nat}{f:B→Option Nat} (h:MapAt w m M f):m<w.heap.size:=by
 obtain⟨n,D,h1,_⟩:=h;exact World.ownsMap.lt h1
theorem MapAt.mono {w:World}{m M M':Nat}{f:B→Option Nat} (h:MapAt w m M f) (hM:M≤M'):MapAt w m M' f:=by
 obtain⟨n,D,h1,h2,h3⟩:=h;exact⟨n,D,h1,Nat.le_trans h2 hM,h3⟩
theorem MapAt.nocell {w:World}{m M o:Nat}{f:B→Option Nat}{v:Value} (h:MapAt w m M f) (hc:w.cell? ⟨m,o,none⟩=some v):False:=by
 obtain⟨n,D,⟨es,clock,h1,r⟩,h2⟩:=h;unfold World.cell? at hc;dsimp only at hc;rw [h1] at hc;simp at hc
theorem MapAt.made (w:World) (M:Nat):MapAt (w.alloc (.map #[] 0)) w.heap.size M (fun _=>none):=⟨0,.map [],World.ownsMap_made w Tryz.prog 9 _,Nat.zero_le _,fun _=>rfl⟩
theorem MapAt.put {w':World}{m n M:Nat}{f:B→Option Nat}{D:DataW (Option Addr)}{x:B}{c:Nat} (hI:Maps.IsMap D) (hn:n≤M) (hf:∀ x,D.atKey (Lit.string x) (.held none)= .held ((f x).map fun b=>⟨b,0,none⟩)) (ho:w'.ownsMap Tryz.prog 9 ptrR m (n+1) (D.put (Lit.string x) (.held (some ⟨c,0,none⟩)))):MapAt w' m (M+1) (fun y=>if y=x then some c else f y):=by
 refine⟨n+1,_,ho,Nat.succ_le_succ hn,fun y=>?_⟩;by_cases h:y=x
 · subst h;rw [Maps.atKey_put_same hI (by trivial)];show _=DataW.held ((if y=y then some c else f y).map _);rw [if_pos rfl];rfl
 · rw [Maps.atKey_put_other (fun e=>h (by injection e)),hf y];show _=DataW.held ((if y=x then some c else f y).map _);rw [if_neg h]
structure TreeAt (w:World) (F:Nat→Prop) (G:Gt) (M:Nat):Prop where
 node:∀ k b,G.nd k=some b→F b∧NodeAt w b (G.mp k) (G.nd (k++ [.par])) (G.nd (k++ [.rest])) (G.en k)
 map:∀ k m,G.mp k=some m→F m∧MapAt w m M (fun x=>G.nd (k++ [.plain x]))
 nomap:∀ k x,G.mp k=none→G.nd (k++ [.plain x])=none
 own:∀ k,G.nd k=none→G.mp k=none
 up:∀ k x,G.nd k=none→G.nd (k++ [x])=none
 one:∀ k k' b,G.nd k=some b→G.nd k'=some b→k=k'
 onem:∀ k k' m,G.mp k=some m→G.mp k'=some m→k=k'
 ends:∀ k,G.nd k=none→G.en k=none
theorem TreeAt.keep {w w':World}{F:Nat→Prop}{G:Gt}{M:Nat} (h:TreeAt w F G M) (hk:∀ b,F b→b<w.heap.size→w'.heap[b]?=w.heap[b]?):TreeAt w' F G M:=
 ⟨fun k b e=>⟨(h.node k b e).1,(h.node k b e).2.keep (hk b (h.node k b e).1 (h.node k b e).2.lt)⟩,fun k m e=>⟨(h.map k m e).1,(h.map k m e).2.keep (hk m (h.map k m e).1 (h.map k m e).2.lt)⟩,h.nomap,h.own,h.up,h.one,h.onem,h.ends⟩
theorem TreeAt.next {w w':World}{F:Nat→Prop}{G:Gt}{M:Nat} (h:TreeAt w F G M) (hb:Below w.heap.size w w'):TreeAt w' F G M:=h.keep fun b _ hb'=>hb.block b hb'
theorem TreeAt.wide {w:World}{F F':Nat→Prop}{G:Gt}{M M':Nat} (h:TreeAt w F G M) (hf:∀ b,F b→F' b) (hM:M≤M'):TreeAt w F' G M':=
 ⟨fun k b e=>⟨hf b (h.node k b e).1,(h.node k b e).2⟩,fun k m e=>⟨hf m (h.map k m e).1,(h.map k m e).2.mono hM⟩,h.nomap,h.own,h.up,h.one,h.onem,h.ends⟩
theorem TreeAt.none_en {w:World}{F:Nat→Prop}{G:Gt}{M:Nat} (h:TreeAt w F G M) {k:List Ky} (hk:G.nd k=none):∀ q,G.en (k++q)=none:=by
 have hn:∀ (q k:List Ky),G.nd k=none→G.nd (k++q)=none:=by
  intro q
  induction q with
  |nil=>intro k hk;rw [List.append_nil];exact hk
  |cons x q ih=>
   intro k hk;have:=ih (k++ [x]) (h.up k x hk)
   rwa [List.append_assoc] at this
 exact fun q=>h.ends _ (hn q k hk)
theorem TreeAt.node_map {w:World}{F:Nat→Prop}{G:Gt}{M:Nat} (h:TreeAt w F G M) {k k':List Ky}{b:Nat} (h1:G.nd k=some b) (h2:G.mp k'=some b):False:=(h.map k' b h2).2.nocell (h.node k b h1).2.c0
def updK (f:List Ky→Option Nat) (k:List Ky) (b:Nat):List Ky→Option Nat:=fun k'=>if k'=k then some b else f k'
theorem updK_same (f:List Ky→Option Nat) (k:List Ky) (b:Nat):updK f k b k=some b:=if_pos rfl
theorem updK_other (f:List Ky→Option Nat) {k k':List Ky} (b:Nat) (h:k'≠k):updK f k b k'=f k':=if_neg h
theorem snoc_inj {k k':List Ky}{x y:Ky} (h:k++ [x]=k'++ [y]):k=k'∧x=y:=by
 have h1:=List.append_inj' h rfl;exact⟨h1.1,by simpa using h1.2⟩
theorem TreeAt.endAt {w:World}{F:Nat→Prop}{G:Gt}{M:Nat} (h:TreeAt w F G M) {k:List Ky}{b:Nat} (hk:G.nd k=some b) (e:Nat):TreeAt (w.setCell ⟨b,3,none⟩ (ptrN (some e))) F {G with en:=updK G.en k e} M:=by
 have hb:=(h.node k b hk).2;refine⟨fun k' b' hk'=>?_,fun k' m hm=>?_,h.nomap,h.own,h.up,h.one,h.onem,fun k' hn=>?_⟩
 · refine⟨(h.node k' b' hk').1,?_⟩;by_cases e1:b'=b
   · subst e1;have e2:=h.one k' k b' hk' hk;subst e2;show NodeAt _ b' _ _ _ (updK G.en k' e k');rw [updK_same];exact⟨cell_set_off hb.c0 (by decide),cell_set_off hb.c1 (by decide),cell_set_off hb.c2 (by decide),cell_set_same hb.c3,bk_set hb.bk⟩
   · show NodeAt _ b' _ _ _ (updK G.en k e k');have e2:k'≠k:=fun e3=>e1 (by rw [e3,hk] at hk';injection hk' with e4;exact e4.symm)
     rw [updK_other _ _ e2];exact(h.node k' b' hk').2.keep ((kept_set w b 3 _).block b' (h.node k' b' hk').2.lt e1)
 · refine⟨(h.map k' m hm).1,(h.map k' m hm).2.keep ((kept_set w b 3 _).block m (h.map k' m hm).2.lt (fun e1=>?_))⟩;subst e1;exact h.node_map hk hm
 · show updK G.en k e k'=none;have hn':G.nd k'=none:=hn;rw [updK_other _ _ (fun e3=>by rw [e3,hk] at hn';cases hn')];exact h.ends k' hn
def nodeZ:Array Value:=#[.map none,.pointer none,.pointer none,.pointer none]
theorem nodeZ_at (w:World) (T:TypeId):NodeAt (w.alloc (.cells nodeZ T (0,0))) w.heap.size none none none none:=by
 have h:=cells_new w [.map none,.pointer none,.pointer none,.pointer none] T;have h0:=h 0 _ rfl;have h1:=h 1 _ rfl;have h2:=h 2 _ rfl;have h3:=h 3 _ rfl;rw [add_off] at h0 h1 h2 h3;exact⟨h0,h1,h2,h3,_,_,heap_alloc_new w _⟩
theorem TreeAt.more {w w2:World}{F:Nat→Prop}{G:Gt}{M:Nat} (h:TreeAt w F G M) {k:List Ky}{y:Ky}{b c:Nat} (hk:G.nd k=some b) (hc:w.heap.size≤c) (hno:G.nd (k++ [y])=none)
  (hz:NodeAt w2 c none none none none)
  (hn:NodeAt w2 b (G.mp k) (updK G.nd (k++ [y]) c (k++ [.par])) (updK G.nd (k++ [y]) c (k++ [.rest])) (G.en k))
  (hm:∀ m,G.mp k=some m→MapAt w2 m (M+1) (fun x=>updK G.nd (k++ [y]) c (k++ [.plain x])))
  (hy:∀ x,y= .plain x→G.mp k≠none)
  (hs:∀ i,F i→i<w.heap.size→i≠b→G.mp k≠some i→w2.heap[i]?=w.heap[i]?):TreeAt w2 (fun i=>F i∨i=c) {G with nd:=updK G.nd (k++ [y]) c} (M+1):=by
 have hlt:∀ k' b',G.nd k'=some b'→b'<c:=fun k' b' e=>Nat.lt_of_lt_of_le (h.node k' b' e).2.lt hc
 have hother:∀ k' x,k'≠k→G.nd k'≠none→updK G.nd (k++ [y]) c (k'++ [x])=G.nd (k'++ [x]):=fun k' x hne _=>updK_other _ _ (fun e=>hne (snoc_inj e).1)
 have hchild:∀ x,updK G.nd (k++ [y]) c ((k++ [y])++ [x])=none:=fun x=>by
  rw [updK_other _ _ (fun e=>by simpa using congrArg List.length e)];exact h.up _ _ hno
 refine⟨fun k' b' hk'=>?_,fun k' m hm'=>?_,fun k' x hm'=>?_,fun k' hn'=>?_,fun k' x hn'=>?_,fun k1 k2 b' h1 h2=>?_,h.onem,fun k' hn'=>?_⟩
 · by_cases e1:k'=k++ [y]
   · subst e1;have hk2:updK G.nd (k++ [y]) c (k++ [y])=some b':=hk';rw [updK_same] at hk2;injection hk2 with hk2
     subst hk2;refine⟨.inr rfl,?_⟩;show NodeAt w2 c (G.mp (k++ [y])) (updK G.nd (k++ [y]) c ((k++ [y])++ [.par])) (updK G.nd (k++ [y]) c ((k++ [y])++ [.rest])) (G.en (k++ [y]));rw [hchild,hchild,h.own _ hno,h.ends _ hno];exact hz
   · have hk2:updK G.nd (k++ [y]) c k'=some b':=hk';rw [updK_other _ _ e1] at hk2;refine⟨.inl (h.node k' b' hk2).1,?_⟩;show NodeAt w2 b' (G.mp k') (updK G.nd (k++ [y]) c (k'++ [.par])) (updK G.nd (k++ [y]) c (k'++ [.rest])) (G.en k');by_cases e2:k'=k
     · subst e2;rw [hk] at hk2;injection hk2 with hk2
       subst hk2;exact hn
     · rw [hother k' _ e2 (by rw [hk2];simp),hother k' _ e2 (by rw [hk2];simp)];refine(h.node k' b' hk2).2.keep (hs b' (h.node k' b' hk2).1 (h.node k' b' hk2).2.lt (fun e3=>e2 ?_) (fun e3=>h.node_map hk2 e3));rw [e3] at hk2;exact h.one k' k b hk2 hk
 · have hm2:G.mp k'=some m:=hm';by_cases e2:k'=k
   · subst e2;exact⟨.inl (h.map k' m hm2).1,hm m hm2⟩
   · refine⟨.inl (h.map k' m hm2).1,?_⟩;have hk3:G.nd k'≠none:=fun e=>by rw [h.own k' e] at hm2;cases hm2
     have e4:(fun x=>updK G.nd (k++ [y]) c (k'++ [.plain x]))=fun x=>G.nd (k'++ [.plain x]):=funext fun x=>hother k' _ e2 hk3
     show MapAt w2 m (M+1) (fun x=>updK G.nd (k++ [y]) c (k'++ [.plain x]));rw [e4];refine((h.map k' m hm2).2.keep (hs m (h.map k' m hm2).1 (h.map k' m hm2).2.lt (fun e5=>?_) (fun e5=>e2 (h.onem k' k m hm2 e5)))).mono (Nat.le_succ _);subst e5;exact h.node_map hk hm2
 · have hm2:G.mp k'=none:=hm';show updK G.nd (k++ [y]) c (k'++ [.plain x])=none;rw [updK_other _ _ (fun e=>by
    obtain⟨e1,e2⟩:=snoc_inj e;subst e1;exact hy x e2.symm hm2)]
   exact h.nomap k' x hm2
 · have hn2:updK G.nd (k++ [y]) c k'=none:=hn';by_cases e1:k'=k++ [y]
   · rw [e1,updK_same] at hn2;cases hn2
   · rw [updK_other _ _ e1] at hn2;exact h.own k' hn2
 · have hn2:updK G.nd (k++ [y]) c k'=none:=hn';show updK G.nd (k++ [y]) c (k'++ [x])=none;by_cases e1:k'=k++ [y]
   · rw [e1,updK_same] at hn2;cases hn2
   · rw [updK_other _ _ e1] at hn2;rw [updK_other _ _ (fun e=>by rw [(snoc_inj e).1,hk] at hn2;cases hn2)];exact h.up k' x hn2
 · have h1':updK G.nd (k++ [y]) c k1=some b':=h1;have h2':updK G.nd (k++ [y]) c k2=some b':=h2;by_cases e1:k1=k++ [y]
   · by_cases e2:k2=k++ [y]
     · rw [e1,e2]
     · rw [e1,updK_same] at h1';rw [updK_other _ _ e2] at h2';injection h1' with h1'
       have:=hlt k2 b' h2';omega
   · rw [updK_other _ _ e1] at h1';by_cases e2:k2=k++ [y]
     · rw [e2,updK_same] at h2';injection h2' with h2'
       have:=hlt k1 b' h1';omega
     · rw [updK_other _ _ e2] at h2';exact h.one k1 k2 b' h1' h2'
 · have hn2:updK G.nd (k++ [y]) c k'=none:=hn';by_cases e1:k'=k++ [y]
   · rw [e1,updK_same] at hn2;cases hn2
   · rw [updK_other _ _ e1] at hn2;exact h.ends k' hn2
open Go.RowKit
theorem cutT_at {l:B}{m:Nat} (h:∀ y∈l.take m,y≠47) (he:l[m]?=some 47):cutT l=l.take m::cutT (l.drop (m+1)):=by
 have hm:m<l.length:=(List.getElem?_eq_some_iff.1 he).1;have e:l=l.take m++47::l.drop (m+1):=by
  conv=>lhs;rw [←List.take_append_drop m l,List.drop_eq_getElem_cons hm,(List.getElem?_eq_some_iff.1 he).2]
 conv=>lhs;rw [e]
 exact cutT_app _ _ (fun h1=>h 47 h1 rfl)
theorem cutT_end {l:B}{m:Nat} (h:∀ y∈l.take m,y≠47) (he:l.length≤m):cutT l= [l.take m]:=by
 rw [List.take_of_length_le he] at h ⊢;exact cutT_only _ (fun h1=>h 47 h1 rfl)
theorem cutT_len:∀ s:B,(cutT s).length≤s.length+1
 | []=>Nat.le_refl _
 |c::s=>by
  have ih:=cutT_len s;rw [cutT_cons];split
  · simp;omega
  · split
    · simp
    · rename_i y l e
      rw [e] at ih;simp at ih ⊢;omega
theorem rsplit_nil (w:World):Calls Tryz.prog 53 #[.string ⟨#[]⟩] w fun e w'=>e= .returned (.tuple #[.slice none 0 0,.bool false])∧w'=w:=by
 go_enter Tryz.func53,Tryz.ntmps53;go_wp2;go_ret2;exact⟨rfl,rfl⟩
theorem rsplit_not (b:UInt8) (t:B) (hb:b≠47) (hs:t.length<4398046511104) (w:World):Calls Tryz.prog 53 #[.string (str (b::t))] w fun e w'=>e= .returned (.tuple #[.slice none 0 0,.bool false])∧w'=w:=by
 obtain⟨S,hS⟩:∃ S,str (b::t)=S:=⟨_,rfl⟩;have hSn:S.size=t.length+1:=by rw [←hS,str_size];rfl
 obtain⟨Y,hY⟩:∃ Y:Nat,b.toNat=Y:=⟨_,rfl⟩;have hY256:Y<256:=by rw [←hY];exact b.toNat_lt
 have hbyte:∀ h:0<S.size,(S[0]'h).toNat=Y:=fun h=>by subst hS;exact hY
 have z1:¬(Y:Int)=47:=fun e=>hb (UInt8.toNat_inj.1 (by rw [hY];show Y=47;omega))
 have z2:((Y:Int)== 47)=false:=by simpa using z1
 have z3:((Y:Int) != 47)=true:=by simpa using z1
 rw [hS];clear hS hY hb;go_enter Tryz.func53,Tryz.ntmps53;go_wp2;go_ret2;exact⟨rfl,rfl⟩
theorem rsplit_yes (t:B) (hs:t.length<4398046511104) (w:World):Calls Tryz.prog 53 #[.string (str (47::t))] w fun e w'=>∃ p c,e= .returned (.tuple #[.slice p (cutT t).length c,.bool true])∧OwnS w' w.heap.size (.slice p (cutT t).length c) (cutT t)∧Below w.heap.size w w':=by
 obtain⟨j0,hj0,hy0,hy1,hy2⟩:=info_parts infoS;obtain⟨s,hss⟩:∃ s:B,47::t=s:=⟨_,rfl⟩;obtain⟨n,hn⟩:∃ n,s.length=n:=⟨_,rfl⟩;have hn1:1≤n:=by rw [←hn,←hss];simp
 have hs:n≤4398046511104:=by rw [←hn,←hss];simp;omega
 have hn0:((n:Int)== 0)=false:=by simp;omega
 have HN:=hid hn;obtain⟨S,hS⟩:∃ S,str s=S:=⟨_,rfl⟩;have hSn:S.size=n:=by rw [←hS,str_size,hn]
 have hbyte0:∀ h:0<S.size,(S[0]'h).toNat=47:=fun h=>by subst hS;subst hss;rfl
 have HByte:=hid (show ∀ (k:Nat) (h:k<s.length) (h2:k<S.size),S[k]'h2=s[k]'h from fun k h h2=>by subst hS;rfl);have HEx:=hid (ext_str s);obtain⟨R,hR0⟩:∃ R,cutT t=R:=⟨_,rfl⟩;have HR0:=hid (show cutT (s.drop 1)=R from by rw [←hss];exact hR0);rw [hS] at HEx;rw [hss,hS,hR0];clear hn hS hR0 hss;go_enter Tryz.func53,Tryz.ntmps53;go_wp2;go_loopg [4,5,6] (n+1) (fun gk s4 s5 s6 wr=>∃ i f:Nat,1≤i∧f≤i∧i≤n+1∧gk=n+1-i+1∧s6= .int .i64 (i:Int)∧s5= .int .i64 (f:Int)∧∃ acc:List B,OwnS wr w.heap.size s4 acc∧acc.length≤i∧((i≤n∧(∀ y∈(s.drop f).take (i-f),y≠47)∧R=acc++cutT (s.drop f))∨(i=n+1∧R=acc))∧Below w.heap.size w wr)
 case atStart=>exact⟨1,1,by omega,by omega,by omega,by omega,rfl,rfl,[],OwnS.nil w _,by simp,.inl ⟨hn1,fun y hy=>by simp at hy,by rw [HR0.out];simp⟩,Below.refl _ _⟩
 case round=>
  obtain⟨i,f,hi1,hf,hi2,rfl,rfl,rfl,acc,ho,hln0,hR,hb⟩:=hrel;have HB:=hid hb;have HR:=hid hR;obtain⟨ln,hln⟩:∃ ln,acc.length=ln:=⟨_,rfl⟩;have HLe:=hid hln;obtain⟨p,c0,rfl⟩:=own_slice ho;have HO:=hid ho;rw [hln] at HO hln0 ⊢;clear ho hb hln hR;have hext:S.extract f i=str ((s.drop f).take (i-f)):=HEx.out f i;by_cases hin:i<n
  · have hi3:i<s.length:=by rw [HN.out];exact hin
    obtain⟨y,hy⟩:∃ y,s[i]=y:=⟨_,rfl⟩;obtain⟨Y,hY⟩:∃ Y:Nat,y.toNat=Y:=⟨_,rfl⟩;have hY256:Y<256:=by rw [←hY];exact y.toNat_lt
    have hbyte:∀ h:i<S.size,(S[i]'h).toNat=Y:=fun h=>by rw [HByte.out i hi3 h,hy,hY]
    have HIx:=hid (show (s.drop f)[i-f]?=some y from by rw [List.getElem?_drop,show f+(i-f)=i by omega,List.getElem?_eq_getElem hi3,hy]);have HNo:=hid (show (∀ y∈(s.drop f).take (i-f),y≠47)∧R=acc++cutT (s.drop f) from HR.out.elim (fun h=>h.2) (fun h=>absurd h.1 (by omega)));have hle:i≤n:=by omega
    have hne:¬i=n:=by omega
    clear hy hi3 HR;by_cases hc:y=47
    · obtain rfl:Y=47:=by rw [←hY,hc];rfl
      have HNx:=hid (show R=acc++ [(s.drop f).take (i-f)]++cutT (s.drop (i+1)) from by
       rw [HNo.out.2,cutT_at HNo.out.1 (by rw [HIx.out,hc]),List.drop_drop,show f+(i-f+1)=i+1 by omega];simp)
      clear hc hY;go_wp2_with (at_builtin;refine wpList_append_own_at _ rfl (.tmp 31) (.tmp 36) 36 rfl w.heap.size 9 j0 _ 1 16 Tryz.underlying36 hj0 hy0 hy1 hy2 rfl (by decide) (.slice p ln c0) ln (strC acc) (by go_simp) (by have h8:=HO.out.alloc (.cells #[.string (str ((s.drop f).take (i-f)))] 9 (0,0));unfold OwnS at h8;rw [HLe.out] at h8;exact h8) ⟨wr.heap.size,0,none⟩ 1 1 [.string (str ((s.drop f).take (i-f)))] (by go_simp) rfl (cells_new wr _ _) (by simp [Value.oneCell']) (by unfold maxLen;omega) (by omega) (Nat.le_trans HB.out.size (below_new _ _).size) ?_;intro v' w' hown hgr _ _;obtain⟨p7,L7,c7,rfl⟩:=own_slice3 hown;have HB2:=hid (HB.out.trans (((below_new wr (.cells #[.string (str ((s.drop f).take (i-f)))] 9 (0,0))).mono HB.out.size).trans (OwnS.below (HO.out.alloc (.cells #[.string (str ((s.drop f).take (i-f)))] 9 (0,0))) (Nat.le_trans HB.out.size (below_new _ _).size) hgr)));have HW:=hid (OwnS.put (acc:=acc) (t:=(s.drop f).take (i-f)) (by rw [HLe.out];exact hown));clear hown hgr);go_roundg (n+1-(i+1)+1)
      case measure=>omega
      case rel=>exact⟨i+1,i+1,by omega,by omega,by omega,rfl,by push_cast;go_num,by push_cast;go_num,_,HW.out,by rw [List.length_append,HLe.out];simp;omega,.inl ⟨by omega,fun y hy=>by simp at hy,HNx.out⟩,HB2.out⟩
    · have z1:¬(Y:Int)=47:=fun e=>hc (UInt8.toNat_inj.1 (by rw [hY];show Y=47;omega))
      have z2:((Y:Int)== 47)=false:=by simpa using z1
      have HNy:=hid (show ∀ y∈(s.drop f).take (i+1-f),y≠47 from fun z hz=>by
       rw [show i+1-f=i-f+1 by omega,List.take_add_one,HIx.out] at hz;rcases List.mem_append.1 hz with hz|hz
       · exact HNo.out.1 z hz
       · simp at hz;rw [hz];exact hc)
      clear hc hY;go_wp2;go_roundg (n+1-(i+1)+1)
      case measure=>omega
      case rel=>exact⟨i+1,f,by omega,by omega,by omega,rfl,by push_cast;go_num,rfl,acc,by have h8:=HO.out;exact h8,by rw [HLe.out];omega,.inl ⟨by omega,HNy.out,HNo.out.2⟩,HB.out⟩
  · by_cases hie:i=n
    · have HNx:=hid (show R=acc++ [(s.drop f).take (i-f)] from by
       rcases HR.out with h|h
       · rw [h.2.2,cutT_end h.2.1 (by rw [List.length_drop,HN.out];omega)]
       · omega)
      subst hie;clear HR;go_wp2_with (at_builtin;refine wpList_append_own_at _ rfl (.tmp 31) (.tmp 36) 36 rfl w.heap.size 9 j0 _ 1 16 Tryz.underlying36 hj0 hy0 hy1 hy2 rfl (by decide) (.slice p ln c0) ln (strC acc) (by go_simp) (by have h8:=HO.out.alloc (.cells #[.string (str ((s.drop f).take (i-f)))] 9 (0,0));unfold OwnS at h8;rw [HLe.out] at h8;exact h8) ⟨wr.heap.size,0,none⟩ 1 1 [.string (str ((s.drop f).take (i-f)))] (by go_simp) rfl (cells_new wr _ _) (by simp [Value.oneCell']) (by unfold maxLen;omega) (by omega) (Nat.le_trans HB.out.size (below_new _ _).size) ?_;intro v' w' hown hgr _ _;obtain⟨p7,L7,c7,rfl⟩:=own_slice3 hown;have HB2:=hid (HB.out.trans (((below_new wr (.cells #[.string (str ((s.drop f).take (i-f)))] 9 (0,0))).mono HB.out.size).trans (OwnS.below (HO.out.alloc (.cells #[.string (str ((s.drop f).take (i-f)))] 9 (0,0))) (Nat.le_trans HB.out.size (below_new _ _).size) hgr)));have HW:=hid (OwnS.put (acc:=acc) (t:=(s.drop f).take (i-f)) (by rw [HLe.out];exact hown));clear hown hgr);go_roundg (i+1-(i+1)+1)
      case measure=>omega
      case rel=>exact⟨i+1,i+1,by omega,by omega,by omega,rfl,by push_cast;go_num,by push_cast;go_num,_,HW.out,by rw [List.length_append,HLe.out];simp;omega,.inr ⟨rfl,HNx.out⟩,HB2.out⟩
    · have HV:=hid (show R=acc from HR.out.elim (fun h=>absurd h.1 (by omega)) (fun h=>h.2));have hi9:i=n+1:=by omega
      clear HR;go_wp2;go_ret2;rw [HV.out,HLe.out];exact⟨p,c0,rfl,HO.out,HB.out⟩
def TxAt (w:World) (p:Option Addr) (l:List B):Prop:=∀ (j:Nat) (t:B),l[j]?=some t→∃ g o,p=some ⟨g,o,none⟩∧w.cell? ⟨g,o+j,none⟩=some (.string (str t))
theorem OwnS.tx {w:World}{base n c:Nat}{p:Option Addr}{l:List B} (h:OwnS w base (.slice p n c) l):TxAt w p l:=fun _ _ hj=>h.at hj
theorem TxAt.next {w w':World}{p:Option Addr}{l:List B} (h:TxAt w p l) (hb:Below w.heap.size w w'):TxAt w' p l:=by
 intro j t hj;obtain⟨g,o,e,hc⟩:=h j t hj;exact⟨g,o,e,cell_keep hb hc⟩
theorem joinT_snoc:∀ {l:List B} (x:B),l≠ []→joinT (l++ [x])=joinT l++47::x
 | [],_,h=>absurd rfl h
 | [y],x,_=>rfl
 |y::z::l,x,_=>by
  show y++47::joinT (z::l++ [x])=(y++47::joinT (z::l))++47::x;rw [joinT_snoc x (by simp)];simp
theorem joinT_take:∀ (l:List B) (i:Nat),(joinT (l.take i)).length≤(joinT l).length
 | [],i=>by simp
 | [x],0=>Nat.zero_le _
 | [x],i+1=>by simp
 |x::y::l,0=>Nat.zero_le _
 |x::y::l,1=>by
  show x.length≤(x++47::joinT (y::l)).length;rw [List.length_append];omega
 |x::y::l,i+2=>by
  have ih:=joinT_take (y::l) (i+1);show (x++47::joinT ((y::l).take (i+1))).length≤(x++47::joinT (y::l)).length;simp only [List.length_append,List.length_cons];omega
theorem joinT_mem:∀ {l:List B}{x:B},x∈l→x.length≤(joinT l).length
 | [],_,h=>by cases h
 | [y],x,h=>by
  simp at h;subst h;exact Nat.le_refl _
 |y::z::l,x,h=>by
  show x.length≤(y++47::joinT (z::l)).length;simp only [List.length_append,List.length_cons];rcases List.mem_cons.1 h with h1|h1
  · subst h1;omega
  · have:=joinT_mem h1;omega
theorem rkind_any (s:B) (hs:s.length≤4398046511104) (w:World):Calls Tryz.prog 62 #[.string (str s)] w fun e w'=>e= .returned (.int .i64 (kindT s:Int))∧w'=w:=by
 cases s with
 |nil=>
  show Calls Tryz.prog 62 #[.string ⟨#[]⟩] w _;go_enter Tryz.func62,Tryz.ntmps62;go_wp2;go_ret;exact⟨rfl,rfl⟩
 |cons b t=>
  obtain⟨S,hS⟩:∃ S,str (b::t)=S:=⟨_,rfl⟩;obtain⟨m,hm⟩:∃ m,t.length=m:=⟨_,rfl⟩;have hSn:S.size=m+1:=by rw [←hS,str_size,←hm];rfl
  have hs:m≤4398046511104:=by rw [List.length_cons,hm] at hs;omega
  have hm0:(m:Int)+1 > 0:=by omega
  obtain⟨Y,hY⟩:∃ Y:Nat,b.toNat=Y:=⟨_,rfl⟩;have hY256:Y<256:=by rw [←hY];exact b.toNat_lt
  have hbyte:∀ h:0<S.size,(S[0]'h).toNat=Y:=fun h=>by subst hS;exact hY
  rw [hS];clear hS hm;by_cases h1:b=58
  · obtain rfl:Y=58:=by rw [←hY,h1];rfl
    have HK:=hid (show kindT (b::t)=1 from by show (if b=58 then 1 else if b=42 then 2 else 0)=1;rw [if_pos h1]);rw [HK.out];clear h1 hY;go_enter Tryz.func62,Tryz.ntmps62;go_wp2;go_ret;exact⟨rfl,rfl⟩
  · have z1:¬(Y:Int)=58:=fun e=>h1 (UInt8.toNat_inj.1 (by rw [hY];show Y=58;omega))
    have z2:((Y:Int)== 58)=false:=by simpa using z1
    by_cases h2:b=42
    · obtain rfl:Y=42:=by rw [←hY,h2];rfl
      have HK:=hid (show kindT (b::t)=2 from by show (if b=58 then 1 else if b=42 then 2 else 0)=2;rw [if_neg h1,if_pos h2]);rw [HK.out];clear h1 h2 hY z1 z2;go_enter Tryz.func62,Tryz.ntmps62;go_wp2;go_ret;exact⟨rfl,rfl⟩
    · have y1:¬(Y:Int)=42:=fun e=>h2 (UInt8.toNat_inj.1 (by rw [hY];show Y=42;omega))
      have y2:((Y:Int)== 42)=false:=by simpa using y1
      have HK:=hid (show kindT (b::t)=0 from by show (if b=58 then 1 else if b=42 then 2 else 0)=0;rw [if_neg h1,if_neg h2]);rw [HK.out];clear h1 h2 hY;go_enter Tryz.func62,Tryz.ntmps62;go_wp2;go_ret;exact⟨rfl,rfl⟩
theorem rjoin_any (l:List B) (p:Option Addr) (n c:Nat) (hn:l.length=n) (hnn:n≤4398046511104) (hjl:(joinT l).length≤4398046511104) (w:World) (hT:TxAt w p l):Calls Tryz.prog 95 #[.slice p n c] w fun e w'=>e= .returned (.string (str (joinT l)))∧w'=w:=by
 have HN:=hid hn;have HT:=hid hT;have HJl:=hid (show ∀ i,(joinT (l.take i)).length≤4398046511104 from fun i=>Nat.le_trans (joinT_take l i) hjl);have HXl:=hid (show ∀ x∈l,x.length≤4398046511104 from fun x hx=>Nat.le_trans (joinT_mem hx) hjl);clear hT hn hjl;go_enter Tryz.func95,Tryz.ntmps95;go_wp2;go_loopg [3,4] (n+1) (fun gk s3 s4 wr=>∃ i:Nat,i≤n∧gk=n-i+1∧s4= .int .i64 (i:Int)∧s3= .string (str (joinT (l.take i)))∧wr=w)
 case atStart=>exact⟨0,by omega,rfl,rfl,rfl,rfl⟩
 case round=>
  obtain⟨i,hi,rfl,rfl,rfl,rfl⟩:=hrel;by_cases hin:i<n
  · have hi1:i<l.length:=by rw [HN.out];exact hin
    obtain⟨x,hx⟩:∃ x,l[i]?=some x:=⟨_,List.getElem?_eq_getElem hi1⟩;obtain⟨g,o,rfl,hc⟩:=HT.out i x hx;by_cases h0:i=0
    · subst h0;have HJ:=hid (show str (joinT (l.take 0))++str x=str (joinT (l.take 1)) from by
       cases l with
       |nil=>simp at hx
       |cons y m=>
        simp at hx;subst hx;show _=str y;rw [str_app];rfl)
      have hc0:wr.cell? ⟨g,o,none⟩=some (.string (str x)):=hc;obtain⟨X,hX⟩:∃ X,str x=X:=⟨_,rfl⟩;obtain⟨J,hJ⟩:∃ J,str (joinT (l.take 0))=J:=⟨_,rfl⟩;have hXs:X.size≤4398046511104:=by rw [←hX,str_size];exact HXl.out x (List.mem_of_getElem? hx)
      have hJs:J.size≤4398046511104:=by rw [←hJ,str_size];exact HJl.out 0
      rw [hX] at hc hc0 HJ;rw [hJ] at HJ ⊢;clear hx hX hJ;go_wp2;go_roundg (n-(0+1)+1)
      case measure=>omega
      case rel=>exact⟨1,by omega,rfl,rfl,congrArg Value.string HJ.out,rfl⟩
    · have HJ:=hid (show (str (joinT (l.take i))++(⟨#[47]⟩:ByteArray))++str x=str (joinT (l.take (i+1))) from by
       rw [List.take_add_one,hx];show _=str (joinT (l.take i++ [x]));rw [joinT_snoc x (fun e=>by
        have h9:=congrArg List.length e;rw [List.length_take] at h9;simp at h9;rcases h9 with h9|h9
        · exact h0 h9
        · rw [h9] at hi1;simp at hi1),show (⟨#[47]⟩:ByteArray)=str [47] from rfl,str_app,str_app]
       simp)
      have hip:(i:Int) > 0:=by omega
      obtain⟨X,hX⟩:∃ X,str x=X:=⟨_,rfl⟩;obtain⟨J,hJ⟩:∃ J,str (joinT (l.take i))=J:=⟨_,rfl⟩;have hXs:X.size≤4398046511104:=by rw [←hX,str_size];exact HXl.out x (List.mem_of_getElem? hx)
      have hJs:J.size≤4398046511104:=by rw [←hJ,str_size];exact HJl.out i
      rw [hX] at hc HJ;rw [hJ] at HJ ⊢;clear hx hX hJ;go_wp2;go_roundg (n-(i+1)+1)
      case measure=>omega
      case rel=>exact⟨i+1,by omega,rfl,by push_cast;go_num,congrArg Value.string HJ.out,rfl⟩
  · obtain rfl:n=i:=by omega
    have HV:=hid (show l.take n=l from List.take_of_length_le (by rw [HN.out];exact Nat.le_refl _));go_wp2;go_ret;rw [HV.out];exact⟨rfl,rfl⟩
def begB (x:UInt8) (s:B):Bool:=match s with
 |c::_=>decide (c=x)
 | []=>false
theorem hasp_lite (x:UInt8) (s:B) (hs:s.length≤140737488355328) (w:World):Calls Tryz.prog 127 #[.string (str s),.string ⟨#[x]⟩] w fun e w'=>e= .returned (.bool (begB x s))∧w'=w:=by
 cases s with
 |nil=>
  show Calls Tryz.prog 127 #[.string ⟨#[]⟩,.string ⟨#[x]⟩] w _;have hz:(⟨#[x]⟩:ByteArray).size=1:=rfl;obtain⟨X,hX⟩:∃ X:ByteArray,⟨#[x]⟩=X:=⟨_,rfl⟩;rw [hX] at hz ⊢;clear hX;go_enter Tryz.func127,Tryz.ntmps127;go_wp2;go_ret;exact⟨rfl,rfl⟩
 |cons b t=>
  obtain⟨m,hm⟩:∃ m,t.length=m:=⟨_,rfl⟩;have hm2:m≤140737488355328:=by rw [←hm];simp at hs;omega
  obtain⟨S,hS⟩:∃ S,str (b::t)=S:=⟨_,rfl⟩;have hSn:S.size=m+1:=by rw [←hS,str_size,←hm];rfl
  have hx1:S.extract 0 1=str [b]:=by rw [←hS,ext_str];rfl
  obtain⟨X,hX⟩:∃ X:ByteArray,⟨#[x]⟩=X:=⟨_,rfl⟩;have hz:X.size=1:=by rw [←hX];rfl
  by_cases hc:b=x
  · have hx2:S.extract 0 1=X:=by rw [hx1,hc];exact hX
    have hv:begB x (b::t)=true:=decide_eq_true hc;rw [hv,hS,hX];clear hS hX hc hv hm hx1;go_enter Tryz.func127,Tryz.ntmps127;go_wp2;go_ret;exact⟨rfl,rfl⟩
  · have hx2:¬S.extract 0 1=X:=fun e=>hc (by
     rw [hx1,←hX] at e;have:=congrArg (fun a:ByteArray=>a.data.toList) e;simpa using this)
    have hx3:((S.extract 0 1).toList== X.toList)=false:=ne_list hx2;have hv:begB x (b::t)=false:=decide_eq_false hc;rw [hv,hS,hX];clear hS hX hc hv hm hx1;go_enter Tryz.func127,Tryz.ntmps127;go_wp2;go_ret;exact⟨rfl,rfl⟩
theorem hasp_any (x:UInt8) (s:B) (hs:s.length≤140737488355328) (w:World):Calls Tryz.prog 87 #[.string (str s),.string ⟨#[x]⟩] w fun e w'=>e= .returned (.bool (begB x s))∧w'=w:=by
 have HL:=hid (fun W:World=>hasp_lite x s hs W);obtain⟨S,hS⟩:∃ S,str s=S:=⟨_,rfl⟩;obtain⟨X,hX⟩:∃ X:ByteArray,⟨#[x]⟩=X:=⟨_,rfl⟩;rw [hS,hX] at HL ⊢;go_enter Tryz.func87,Tryz.ntmps87;go_wp2_with (go_at_call 127;(with_reducible refine(HL.out _).mono ?_);rintro e w1 ⟨rfl,hw1⟩;subst w1);go_ret;exact⟨rfl,rfl⟩
theorem begins_any (s:B) (hs:s.length≤140737488355328) (w:World):Calls Tryz.prog 109 #[.string (str s)] w fun e w'=>e= .returned (.bool (begB 47 s))∧w'=w:=by
 have HL:=hid (fun W:World=>hasp_any 47 s hs W);obtain⟨S,hS⟩:∃ S,str s=S:=⟨_,rfl⟩;rw [hS] at HL ⊢;go_enter Tryz.func109,Tryz.ntmps109;go_wp2_with (go_at_call 87;(with_reducible refine(HL.out _).mono ?_);rintro e w1 ⟨rfl,hw1⟩;subst w1);go_ret;exact⟨rfl,rfl⟩
def cutP (x:UInt8) (s:B):B:=if begB x s then s.tail else s
theorem cutp_lite (x:UInt8) (s:B) (hs:s.length≤140737488355328) (w:World):Calls Tryz.prog 176 #[.string (str s),.string ⟨#[x]⟩] w fun e w'=>e= .returned (.tuple #[.string (str (cutP x s)),.bool (begB x s)])∧w'=w:=by
 have HL:=hid (fun W:World=>hasp_lite x s hs W);obtain⟨n,hn⟩:∃ n,s.length=n:=⟨_,rfl⟩;obtain⟨S,hS⟩:∃ S,str s=S:=⟨_,rfl⟩;have hSn:S.size=n:=by rw [←hS,str_size,hn]
 obtain⟨X,hX⟩:∃ X:ByteArray,⟨#[x]⟩=X:=⟨_,rfl⟩;have hz:X.size=1:=by rw [←hX];rfl
 cases hb:begB x s with
 |false=>
  have e1:str (cutP x s)=S:=by unfold cutP;rw [hb,if_neg (by decide)];exact hS
  rw [hb] at HL;rw [e1];rw [hS,hX] at HL ⊢;clear hS hX hb e1;go_enter Tryz.func176,Tryz.ntmps176;go_wp2_with (go_at_call 127;(with_reducible refine(HL.out _).mono ?_);rintro e w1 ⟨rfl,hw1⟩;subst w1);go_ret2;exact⟨rfl,rfl⟩
 |true=>
  have h1:1≤n:=by
   rw [←hn];cases s with
   |nil=>cases hb
   |cons _ _=>simp
  have HE:=hid (show S.extract 1 n=str (cutP x s) from by rw [←hS,ext_drop s 1 n hn];unfold cutP;rw [hb,if_pos rfl,List.drop_one]);obtain⟨T,hT⟩:∃ T,str (cutP x s)=T:=⟨_,rfl⟩;have hn2:n≤140737488355328:=by omega
  rw [hT] at HE ⊢;rw [hb] at HL;rw [hS,hX] at HL ⊢;have he:=HE.out;clear hS hX hb hT hn HE;go_enter Tryz.func176,Tryz.ntmps176;go_wp2_with (go_at_call 127;(with_reducible refine(HL.out _).mono ?_);rintro e w1 ⟨rfl,hw1⟩;subst w1);go_ret2;exact⟨rfl,rfl⟩
theorem cutp_any (x:UInt8) (s:B) (hs:s.length≤140737488355328) (w:World):Calls Tryz.prog 155 #[.string (str s),.string ⟨#[x]⟩] w fun e w'=>e= .returned (.tuple #[.string (str (cutP x s)),.bool (begB x s)])∧w'=w:=by
 have HL:=hid (fun W:World=>cutp_lite x s hs W);obtain⟨S,hS⟩:∃ S,str s=S:=⟨_,rfl⟩;obtain⟨X,hX⟩:∃ X:ByteArray,⟨#[x]⟩=X:=⟨_,rfl⟩;rw [hS,hX] at HL ⊢;go_enter Tryz.func155,Tryz.ntmps155;go_wp2_with (go_at_call 176;(with_reducible refine(HL.out _).mono ?_);rintro e w1 ⟨rfl,hw1⟩;subst w1);go_ret2;exact⟨rfl,rfl⟩
def visU (c:UInt8):Bool:=visB (c.toNat:Int)
def tokT (s:B):Bool:=isTok (str s)
theorem vis_stop {s:B}{k:Nat} (h:k<s.length) (hv:visU s[k]=false):s.all visU=false:=by
 rw [List.all_eq_false];exact⟨s[k],List.getElem_mem h,by simp [hv]⟩
theorem isvis_any (s:B) (hs:s.length≤140737488355328) (w:World):Calls Tryz.prog 156 #[.string (str s)] w fun e w'=>e= .returned (.bool (s.all visU))∧w'=w:=by
 obtain⟨n,hn⟩:∃ n,s.length=n:=⟨_,rfl⟩;have HN:=hid hn;obtain⟨S,hS⟩:∃ S,str s=S:=⟨_,rfl⟩;have hSn:S.size=n:=by rw [←hS,str_size,hn]
 have HByte:=hid (show ∀ (k:Nat) (h:k<s.length) (h2:k<S.size),S[k]'h2=s[k]'h from fun k h h2=>by subst hS;rfl);have hn2:n≤140737488355328:=by omega
 rw [hS];clear hS hn hs;go_enter Tryz.func156,Tryz.ntmps156;go_wp2;go_loop [6] (fun i=>∃ k:Nat,k≤n∧i= .int .i64 k∧(s.take k).all visU=true) (fun i=>n-(intOf i).toNat)
 case atStart=>exact⟨0,Nat.zero_le _,rfl,rfl⟩
 case round=>
  obtain⟨k,hk,rfl,hall⟩:=hrel;by_cases hlt:k<n
  · have h3:k<s.length:=by rw [HN.out];exact hlt
    obtain⟨y,hy⟩:∃ y,s[k]=y:=⟨_,rfl⟩;obtain⟨Y,hY⟩:∃ Y:Nat,y.toNat=Y:=⟨_,rfl⟩;have hY256:Y<256:=by rw [←hY];exact y.toNat_lt
    have hbyte:∀ h:k<S.size,(S[k]'h).toNat=Y:=fun h=>by rw [HByte.out k h3 h,hy,hY]
    have hvy:visU y=visB (Y:Int):=by unfold visU;rw [hY]
    have HA:=hid hall;have HT:=hid (show (s.take (k+1)).all visU=(visB (Y:Int)) from by rw [List.take_succ_eq_append_getElem h3,List.all_append,hall,hy];simp [hvy]);have HF:=hid (show visB (Y:Int)=false→s.all visU=false from fun h=>vis_stop h3 (by rw [hy,hvy];exact h));clear hy hY hall hvy;cases hv:visB (Y:Int) with
    |true=>
     go_wp2_with (go_at_call 177;refine(visible_any _ _ (by omega) (by omega)).mono ?_;rintro e w' ⟨rfl,rfl⟩);go_round
     case rel=>exact⟨k+1,by omega,by go_num,by rw [HT.out,hv]⟩
     case measure=>simp [intOf];omega
    |false=>
     go_wp2_with (go_at_call 177;refine(visible_any _ _ (by omega) (by omega)).mono ?_;rintro e w' ⟨rfl,rfl⟩);go_ret;exact⟨ret_bool (HF.out hv).symm,rfl⟩
  · obtain rfl:n=k:=by omega
    have HA:=hid (show s.all visU=true from by rw [List.take_of_length_le (by rw [HN.out];exact Nat.le_refl _)] at hall;exact hall);clear hall;go_wp2;go_ret;exact⟨ret_bool HA.out.symm,rfl⟩
end Go.Proofs.YtlmlljlappjjjaaGreatDoor
