/- Fits and Beats, by the program. -/
import Derived.Test.YtlmlljlappjjjaaGreatDoorSPFit
import Derived.DeepKeys4
import Derived.Shelf.Spec.SlicesInsertGrow
namespace Go.Proofs.YtlmlljlappjjjaaGreatDoor
set_option maxRecDepth 20000
set_option maxHeartbeats 8000000
open Go.RowKit
def KBox (w:World) (g:Nat) (A C:ByteArray):Prop:=w.heap[g]?=some (.cells #[.string A,.string C] 155 (0,0))
theorem KBox.next {w w':World}{g:Nat}{A C:ByteArray} (h:KBox w g A C) (hb:Below w.heap.size w w'):KBox w' g A C:=kB hb h
theorem KBox.new (w:World) (A C:ByteArray):KBox (w.alloc (.cells #[.string A,.string C] 155 (0,0))) w.heap.size A C:=heap_alloc_new w _
theorem KBox.cells {w:World}{g:Nat}{A C:ByteArray} (h:KBox w g A C):w.cell? ⟨g,0,none⟩=some (.string A)∧w.cell? ⟨g,1,none⟩=some (.string C):=⟨(box_facts h).1,(box_facts h).2.1⟩
def patL (p:B):List B:=(patH p).getD []
def beatsN (a b h:B):Bool×Nat:=match fitsAns a h,fitsAns b h with
 |some true,some true=>(aheadP (patL a) (patL b),0)
 |some _,some _=>(false,8)
 |_,_=>(false,3)
theorem beatsN_none {a b h:B}{x z y:List B} (ha:patH a=some x) (hb:patH b=some z) (hh:labsH false h=some y) (hf:(fitsS x y && fitsS z y)=false):beatsN a b h=(false,8):=by
 unfold beatsN fitsAns;rw [ha,hb,hh];cases e1:fitsS x y <;> cases e2:fitsS z y <;> simp [e1,e2] at hf ⊢
theorem beatsN_ok {a b h:B}{x z y:List B} (ha:patH a=some x) (hb:patH b=some z) (hh:labsH false h=some y) (h1:fitsS x y=true) (h2:fitsS z y=true):beatsN a b h=(aheadP x z,0):=by
 unfold beatsN fitsAns patL;rw [ha,hb,hh];simp [h1,h2]
open Go.RowKit Go.Maps
def keyL (a b:B):Lit:=.string (keyBytes [.string a,.string b])
theorem laidT:laidOutB Tryz.prog=true:=by kernel_rfl
theorem lawK:Keyed Tryz.prog 155:=Keyed.of_law (deep_law_laid laidT (m:=2) (by omega) (of_decide_eq_true (by kernel_rfl)) (by kernel_rfl) (by kernel_rfl))
def shK (a b:B):Prop:=a.length≤100000∧b.length≤100000
theorem k_type:Tryz.prog.keyType 155=true:=by kernel_rfl
theorem k_cells:Tryz.prog.cellsOf 155=2:=by kernel_rfl
theorem k_one:Tryz.prog.cellsOf 9=1:=by kernel_rfl
theorem k_size:Tryz.prog.types.size=262:=by kernel_rfl
theorem k_str : ∃ fs, Tryz.prog.underlying 155 = some (.struct fs) ∧ (fs.all fun f => f.name != "_") = true ∧ fs.toList.map (fun f => (f.type, f.offset)) = [(9, 0), (9, 1)] := ⟨_, Tryz.underlying155, by kernel_rfl, rfl⟩
theorem k_formed (a b:Value):(Value.agg #[a,b]).formed Tryz.prog 155=true:=by
 obtain⟨fs,hu,_⟩:=k_str;simp [Value.formed,hu,k_cells]
theorem lit_str (d:Nat) {s:ByteArray} (h:s.size≤maxLen):Tryz.prog.keyLits (d+1) 9 [.string s]=some [.string s.data.toList]:=by
 unfold Program.keyLits;rw [Tryz.underlying9];simp only [];rw [if_pos h]
theorem mapM_two {α β:Type} (g:α→Option β) (p q:α) {u v:β} (h1:g p=some u) (h2:g q=some v): [p,q].mapM g=some [u,v]:=by
 simp [h1,h2]
theorem lit_key (d:Nat) {s t:ByteArray} (h:s.size≤maxLen) (g:t.size≤maxLen):Tryz.prog.keyLits (d+1+1) 155 [.string s,.string t]=some [.string s.data.toList,.string t.data.toList]:=by
 obtain⟨fs,hu,hn,hf⟩:=k_str;unfold Program.keyLits;rw [hu];simp only [];rw [if_pos ⟨by rw [k_cells];rfl,hn⟩];obtain⟨l,hl⟩:∃ l,fs.toList=l:=⟨_,rfl⟩;rw [hl] at hf ⊢;clear hl;rcases l with _|⟨p,_|⟨q,_|⟨r,l⟩⟩⟩
 · exact absurd (congrArg List.length hf) (by simp)
 · exact absurd (congrArg List.length hf) (by simp)
 · simp only [List.map_cons,List.map_nil,List.cons.injEq,Prod.mk.injEq] at hf;obtain⟨⟨p1,p2⟩,⟨q1,q2⟩,_⟩:=hf;rw [mapM_two _ p q (u:=[.string s.data.toList]) (v:=[.string t.data.toList]) (by rw [p1,p2,k_one];exact lit_str d h) (by rw [q1,q2,k_one];exact lit_str d g)];rfl
 · exact absurd (congrArg List.length hf) (by simp)
theorem key_lit {a b:B} (h:shK a b):keyOf Tryz.prog 155 (keyV a b)=some (keyL a b):=by
 have ha:(str a).size≤maxLen:=by rw [str_size];have:=h.1;unfold maxLen;omega
 have hb:(str b).size≤maxLen:=by rw [str_size];have:=h.2;unfold maxLen;omega
 obtain⟨fs,hu,_⟩:=k_str;unfold keyOf;rw [hu];simp only [];rw [k_type,k_formed,if_pos (show (true && true)=true from rfl),k_size];have h1:=lit_key (262-1) ha hb;rw [show (262-1+1+1:Nat)=262+1 from rfl] at h1;have h2:(keyV a b).cells.toList= [.string (str a),.string (str b)]:=rfl;rw [h2,h1];rfl
theorem keyL_inj {a b c d:B} (h:shK a b) (g:shK c d) (e:keyL a b=keyL c d):a=c∧b=d:=by
 have h1:=key_lit h;rw [e] at h1;have h2:=lawK.inj h1 (key_lit g);injection h2 with h2
 have h3:=congrArg Array.toList h2;simp only [List.cons.injEq,Value.string.injEq] at h3;exact⟨str_inj h3.1,str_inj h3.2.1⟩
theorem keyL_is {a b:B} (h:shK a b):WideAt.IsKeyLit (keyL a b):=lawK.key (key_lit h)
theorem zeroI (w:World):(zeroValue 3).run Tryz.prog w= .ok (.int .i64 0) w:=by kernel_rfl
def idsF (P:List (B×Int)) (k:B×B):Option Int:=(P.find? (fun p=>decide (keyS (patL p.1)=k))).map (·.2)
def HasI (D:DataW Unit) (P:List (B×Int)):Prop:=∀ a b,shK a b→match idsF P (a,b) with
 |none=>Maps.has D (keyL a b)=false
 |some i=>Maps.has D (keyL a b)=true∧D.atKey (keyL a b) (.lit (.int .i64 0))= .lit (.int .i64 i)
def MapK (w:World) (m:Nat) (P:List (B×Int)):Prop:=∃ (n:Nat) (D:DataW Unit),w.ownsMap Tryz.prog 155 (plainElem Tryz.prog 3) m n D∧n≤P.length∧HasI D P
theorem MapK.keep {w w':World}{m:Nat}{P:List (B×Int)} (h:MapK w m P) (hb:w'.heap[m]?=w.heap[m]?):MapK w' m P:=by
 obtain⟨n,D,⟨es,clock,h1,r⟩,h2⟩:=h;exact⟨n,D,⟨es,clock,hb.trans h1,r⟩,h2⟩
theorem MapK.lt {w:World}{m:Nat}{P:List (B×Int)} (h:MapK w m P):m<w.heap.size:=by
 obtain⟨n,D,⟨es,clock,h1,r⟩,h2⟩:=h;exact lt_of_heap h1
theorem MapK.nocell {w:World}{m:Nat}{P:List (B×Int)}{cs:Array Value}{T:TypeId}{fr:Nat×Nat} (h:MapK w m P) (hc:w.heap[m]?=some (.cells cs T fr)):False:=by
 obtain⟨n,D,⟨es,clock,h1,r⟩,h2⟩:=h;rw [h1] at hc;cases hc
theorem MapK.made (w:World):MapK (w.alloc (.map #[] 0)) w.heap.size []:=⟨0,.map [],World.ownsMap_made w Tryz.prog 155 _,Nat.le_refl _,fun _ _ _=>rfl⟩
theorem ids_snoc (P:List (B×Int)) (q:B×Int) (k:B×B):idsF (P++ [q]) k=match idsF P k with
  |some i=>some i
  |none=>if keyS (patL q.1)=k then some q.2 else none:=by
 unfold idsF;rw [List.find?_append];cases P.find? (fun p=>decide (keyS (patL p.1)=k)) with
 |some p=>rfl
 |none=>
  by_cases h:keyS (patL q.1)=k <;> simp [List.find?,h]
theorem HasI.put {D:DataW Unit}{P:List (B×Int)}{q:B×Int}{a b:B} (h:HasI D P) (hI:Maps.IsMap D) (hk:keyS (patL q.1)=(a,b)) (hs:shK a b) (hno:idsF P (a,b)=none):
  HasI (D.put (keyL a b) (.lit (.int .i64 q.2))) (P++ [q]):=by
 intro c d hcd;rw [ids_snoc];by_cases e:(a,b)=(c,d)
 · injection e with e1 e2
   subst e1;subst e2;rw [hno];dsimp only;rw [if_pos hk];exact⟨Maps.has_put_same hI (keyL_is hs) _,Maps.atKey_put_same hI (keyL_is hs) _ _⟩
 · have hne:keyL c d≠keyL a b:=fun e1=>e (by obtain⟨e2,e3⟩:=keyL_inj hcd hs e1;rw [e2,e3])
   have h1:=h c d hcd;cases hi:idsF P (c,d) with
   |none=>
    rw [hi] at h1;dsimp only at h1 ⊢;rw [if_neg (fun e1=>e (hk.symm.trans e1))];dsimp only;rw [Maps.has_put_other hne];exact h1
   |some i=>
    rw [hi] at h1;dsimp only at h1 ⊢;rw [Maps.has_put_other hne,Maps.atKey_put_other hne];exact h1
theorem MapK.store {w:World}{m:Nat}{P:List (B×Int)} (h:MapK w m P) (hl:P.length≤100) {q:B×Int}{a b:B} (hk:keyS (patL q.1)=(a,b)) (hs:shK a b) (hno:idsF P (a,b)=none) (hw:(Lit.int .i64 q.2).wf=true):
  ∃ w',(Instr.mapUpdate 123 (.map (some m)) (keyV a b) (.int .i64 q.2)).run Tryz.prog w= .ok () w'∧MapK w' m (P++ [q])∧w.grownBy w' (some m):=by
 obtain⟨n,D,ho,hn,hD⟩:=h;obtain⟨w',hr,ho',ht⟩:=ho.store lawK Tryz.underlying123 (by unfold maxLen;omega) (key_lit hs) (plainElem_int Tryz.underlying3 hw);exact⟨w',hr,⟨n+1,_,ho',by rw [List.length_append];simp;omega,hD.put ho.isMap hk hs hno⟩,ht.grown⟩
theorem MapK.look {w:World}{m:Nat}{P:List (B×Int)} (h:MapK w m P) {a b:B} (hs:shK a b):
  ∃ c:Int,(Instr.lookup 123 (.map (some m)) (keyV a b) true).run Tryz.prog w= .ok (.tuple #[.int .i64 c,.bool (idsF P (a,b)).isSome]) w∧∀ i,idsF P (a,b)=some i→c=i:=by
 obtain⟨n,D,ho,hn,hD⟩:=h;obtain⟨v,ps,hr,hv⟩:=ho.look_ok lawK Tryz.underlying123 (zeroI w) (plainElem_int Tryz.underlying3 (by decide)) (key_lit hs);obtain⟨c,rfl,hc,_⟩:=plainElem_int_inv Tryz.underlying3 hv;have h1:=hD a b hs;refine⟨c,?_,fun i hi=>?_⟩
 · rw [hr];cases hi:idsF P (a,b) with
   |none=>rw [hi] at h1;dsimp only at h1;rw [h1];rfl
   |some i=>rw [hi] at h1;dsimp only at h1;rw [h1.1];rfl
 · rw [hi] at h1;dsimp only at h1;have h2:=congrArg Prod.fst hc;dsimp only at h2;rw [h1.2] at h2;injection h2 with h2
   injection h2 with _ h2
   exact h2.symm
theorem look_none (w:World) {a b:B} (hs:shK a b):(Instr.lookup 123 (.map none) (keyV a b) true).run Tryz.prog w= .ok (.tuple #[.int .i64 0,.bool false]) w:=by
 rw [Maps.look_nil true lawK Tryz.underlying123 (zeroI w) (key_lit hs)];rfl
end Go.Proofs.YtlmlljlappjjjaaGreatDoor
namespace Go.Proofs
open Go.Shelf
def Tryz.lays22_ren:Go.Shelf.Ren:=⟨fun|17=>196|22=>159|29=>179|30=>180|36=>191|n=>n,fun|24=>36|9=>9|3=>3|4=>4|0=>0|n=>n,fun n=>n⟩
theorem Tryz.lays22:Go.Proofs.Lays2.n22 Tryz.prog Tryz.lays22_ren:={
 mixed:=by kernel_rfl
 f17:=Tryz.func196.trans (congrArg some (by kernel_rfl))
 f22:=Tryz.func159.trans (congrArg some (by kernel_rfl))
 f29:=Tryz.func179.trans (congrArg some (by kernel_rfl))
 f30:=Tryz.func180.trans (congrArg some (by kernel_rfl))
 f36:=Tryz.func191.trans (congrArg some (by kernel_rfl))
 t0:=Tryz.underlying0
 a0:=Tryz.isAgg0
 z0:=Tryz.sizeOf0
 v0:=Tryz.zeroValue0
 t3:=Tryz.underlying3
 a3:=Tryz.isAgg3
 z3:=Tryz.sizeOf3
 v3:=Tryz.zeroValue3
 t4:=Tryz.underlying4
 a4:=Tryz.isAgg4
 z4:=Tryz.sizeOf4
 v4:=Tryz.zeroValue4
 t9:=Tryz.underlying9
 a9:=Tryz.isAgg9
 z9:=Tryz.sizeOf9
 v9:=Tryz.zeroValue9
 t24:=Tryz.underlying36
 a24:=Tryz.isAgg36
 z24:=Tryz.sizeOf36
 v24:=Tryz.zeroValue36
 i9:=by kernel_rfl
}
end Go.Proofs
namespace Go.Proofs.YtlmlljlappjjjaaGreatDoor
open Go.RowKit
def setL (cur:Array Value):Nat→List Value→Array Value
 |_,[]=>cur
 |o,v::r=>setL (cur.setIfInBounds o v) (o+1) r
theorem heap_sets {b:Nat}{T:TypeId}{fr:Nat×Nat}:∀ (vs:List Value) (o:Nat) (w:World) (cur:Array Value),w.heap[b]?=some (.cells cur T fr)→(w.setCells b o vs).heap[b]?=some (.cells (setL cur o vs) T fr)
 | [],_,_,_,h=>h
 |v::r,o,w,cur,h=>by
  unfold World.setCells setL;exact heap_sets r (o+1) _ _ (heap_set1 h)
theorem setL_size:∀ (vs:List Value) (o:Nat) (cur:Array Value),(setL cur o vs).size=cur.size
 | [],_,_=>rfl
 |v::r,o,cur=>by
  unfold setL;rw [setL_size r];simp
theorem setL_at:∀ (vs:List Value) (o:Nat) (cur:Array Value) (j:Nat),(setL cur o vs)[j]?=if o≤j∧j<o+vs.length∧j<cur.size then vs[j-o]? else cur[j]?
 | [],o,cur,j=>by
  rw [if_neg (by simp;omega)];rfl
 |v::r,o,cur,j=>by
  unfold setL;rw [setL_at r];have hs:(cur.setIfInBounds o v).size=cur.size:=by simp
  rw [hs];by_cases h1:o+1≤j∧j<o+1+r.length∧j<cur.size
  · rw [if_pos h1,if_pos ⟨by omega,by rw [List.length_cons];omega,h1.2.2⟩,show j-o=(j-(o+1))+1 by omega];simp
  · rw [if_neg h1];by_cases h2:o≤j∧j<o+(v::r).length∧j<cur.size
    · rw [if_pos h2];have:j=o:=by rw [List.length_cons] at h2;omega
      subst this;simp [h2.2.2]
    · rw [if_neg h2];rw [Array.getElem?_setIfInBounds];by_cases h3:o=j
      · subst h3;rw [if_pos rfl];have:¬o<cur.size:=fun h=>h2 ⟨by omega,by rw [List.length_cons];omega,h⟩
        rw [if_neg this];exact(Array.getElem?_eq_none (by omega)).symm
      · rw [if_neg h3]
theorem kept_sets (b:Nat):∀ (vs:List Value) (o:Nat) (w:World),Kept (fun i=>i=b) w (w.setCells b o vs)
 | [],_,_=>Kept.refl _ _
 |v::r,o,w=>(kept_set w b o v).trans (kept_sets b r (o+1) _) (fun _ _ h=>h)
def insC (cs:List Value) (i:Nat) (u:Value):List Value:=cs.take i++u::cs.drop i
theorem insC_at {cs:List Value}{i:Nat} (u:Value) (hi:i≤cs.length) (j:Nat):(insC cs i u)[j]?=if j<i then cs[j]? else if j=i then some u else cs[j-1]?:=by
 unfold insC;by_cases h1:j<i
 · rw [if_pos h1,List.getElem?_append_left (by simp;omega),List.getElem?_take,if_pos h1]
 · rw [if_neg h1,List.getElem?_append_right (by simp;omega)];have:(cs.take i).length=i:=by simp;omega
   rw [this];by_cases h2:j=i
   · subst h2;simp
   · rw [if_neg h2,show j-i=(j-i-1)+1 by omega,List.getElem?_cons_succ,List.getElem?_drop];congr 1;omega
theorem insC_len {cs:List Value}{i:Nat} (u:Value) (hi:i≤cs.length):(insC cs i u).length=cs.length+1:=by
 unfold insC;simp;omega
theorem strC_ins (s:B) (L:List B) (i:Nat):strC (L.take i++s::L.drop i)=insC (strC L) i (.string (str s)):=by
 unfold strC insC;simp
theorem take_cells {cur:Array Value}{n:Nat}{xs:List Value} (hx:xs.length=n) (h:∀ j,j<n→cur[j]?=xs[j]?):cur.toList.take (n*1)=xs:=by
 apply List.ext_getElem?;intro j;rw [List.getElem?_take];by_cases hj:j<n
 · rw [if_pos (by omega),Array.getElem?_toList,h j hj]
 · rw [if_neg (by omega),List.getElem?_eq_none (by omega)]
theorem row_cells {cur:Array Value}{n:Nat}{xs:List Value} (h:cur.toList.take (n*1)=xs) {j:Nat} (hj:j<n):cur[j]?=xs[j]?:=by
 rw [←h,List.getElem?_take,if_pos (by omega),Array.getElem?_toList]
theorem zero_size (n:Nat):(Builtin.zeroCells (Value.string ⟨#[]⟩).cells n).size=n:=by
 unfold Builtin.zeroCells;simp [Value.cells]
def InsAns (v:Value) (L:List B) (i:Nat) (s:B) (w:World) (e:Ending) (w':World):Prop:=∃ v',e= .returned v'∧OwnS w' 0 v' (L.take i++s::L.drop i)∧Kept (fun i=>v.ownBlock=some i) w w'∧(v'.ownBlock=v.ownBlock∨v'.ownBlock=some w.heap.size)
theorem ins_any (L:List B) (s:B) (i vb:Nat) (p:Option Addr) (n c:Nat) (hn:L.length=n) (hi:i≤n) (hnn:n≤100000) (w:World) (ho:OwnS w 0 (.slice p n c) L) (hv:w.heap[vb]?=some (.cells #[.string (str s)] 9 (0,0))) (hvb:(Value.slice p n c).ownBlock≠some vb):
    Calls Tryz.prog 159 #[.slice p n c,.int .i64 (i:Int),.slice (some ⟨vb,0,none⟩) 1 1] w fun e w'=>InsAns (.slice p n c) L i s w e w':=by
  have hcl:(strC L).length=n:=by unfold strC;rw [List.length_map];exact hn
  have hvs:∀ j v,[Value.string (str s)][j]?=some v→w.cell? ⟨vb,0+j,none⟩=some v:=by
    intro j v hj
    have hj0:j=0:=by
      have:=(List.getElem?_eq_some_iff.1 hj).1
      simp at this
      exact this
    subst hj0
    simp at hj
    subst hj
    simp only [World.cell?,hv]
    rfl
  have h1v:∀ v∈ [Value.string (str s)],v.oneCell'=true:=by intro v hv;simp at hv;subst hv;rfl
  have h1c:∀ v∈strC L,v.oneCell'=true:=by
    intro v hv
    unfold strC at hv
    obtain⟨t,_,rfl⟩:=List.mem_map.1 hv
    rfl
  have htl:(strC (L.take i++s::L.drop i))=insC (strC L) i (.string (str s)):=strC_ins s L i
  have hil:=insC_len (.string (str s)) (show i≤(strC L).length by omega)
  have htn:(L.take i++s::L.drop i).length=n+1:=by simp;omega
  rcases ho.2 with ⟨hnil,h0⟩|⟨g,cap,cur,hsl,_,hg,hle,hcap,hcs,htk⟩
  · -- no row yet
    have hn0:n=0:=by omega
    subst hn0
    injection hnil with e1 _ e3
    subst e1
    subst e3
    obtain rfl:i=0:=by omega
    obtain rfl:L= []:=List.eq_nil_of_length_eq_zero hn
    refine(Any2.slices_Insert_string_end_grow Tryz.lays22 none 0 0 vb 0 1 1 [] [.string (str s)] w (by omega) (by omega) (by omega) (by omega) rfl rfl (fun _=>rfl) (fun _ e=>by cases e) hvs h1v).mono ?_
    rintro e w' ⟨rfl,rfl⟩
    have hge:=grownCap_ge w (0+1) 0 9
    have hmx:=grownCap_le_maxLen w (0+1) 0 9 (by unfold maxLen;omega)
    refine⟨_,rfl,⟨rfl,.inr ⟨w.heap.size,_,_,rfl,Nat.zero_le _,heap_alloc_new w.drew _,hge,hmx,?_,?_⟩⟩,Below.kept (below_out (below_drewH w 1) (below_new w.drew _)),.inr rfl⟩
    · rw [Array.size_append,zero_size,Nat.mul_one]
      show 1+(grownCap w (0+1) 0 9-(0+1))=grownCap w (0+1) 0 9
      omega
    · refine take_cells rfl (fun j hj=>?_)
      obtain rfl:j=0:=by simpa using hj
      rw [Array.getElem?_append_left (by simp)]
      rfl
  · rw [hn] at hsl hle htk
    injection hsl with e1 _ e3
    subst e1
    subst e3
    have hc0:cur.size=c:=by omega
    have hcsx:∀ j v,(strC L)[j]?=some v→w.cell? ⟨g,0+j,none⟩=some v:=by
      intro j v hj
      have hlt:j<n:=by rw [←hcl];exact(List.getElem?_eq_some_iff.1 hj).1
      have:=row_cells htk hlt
      simp only [World.cell?,hg]
      rw [Nat.zero_add]
      simpa using this.trans hj
    have hsome:∀ j,j<c→(w.cell? ⟨g,0+j,none⟩).isSome=true:=by
      intro j hj
      simp only [World.cell?,hg,Nat.zero_add]
      simp [hc0,hj]
    have hfz:∀ j,w.frozen? ⟨g,j,none⟩=false:=by
      intro j
      simp only [World.frozen?,hg]
      simp
    have hgv:g≠vb:=fun e=>hvb (by rw [e];rfl)
    by_cases hroom:n+1≤c
    · by_cases hin:i=n
      · subst hin
        refine(Any2.slices_Insert_string_end_room Tryz.lays22 g 0 i c vb 0 1 1 [.string (str s)] w (by omega) hroom (by unfold maxLen at hcap;omega) rfl (fun j hj=>by have:=hsome (i+j) (by omega);rwa [Nat.zero_add] at this ⊢) (fun j _=>hfz _) hvs h1v).mono ?_
        rintro e w' ⟨rfl,rfl⟩
        refine⟨_,rfl,⟨by rw [htl,hil,hcl,htn,Nat.mul_one],.inr ⟨g,c,_,by rw [htn],Nat.zero_le _,heap_sets _ _ _ _ hg,by rw [htn];exact hroom,hcap,by rw [setL_size,hcs],?_⟩⟩,(kept_sets g _ _ w).mono (fun k _ h=>by rw [h];rfl),.inl rfl⟩
        rw [htn,htl]
        refine take_cells (by rw [hil,hcl]) (fun j hj=>?_)
        rw [setL_at,insC_at _ (by omega)]
        by_cases h1:j=i
        · subst h1
          rw [if_pos ⟨by omega,by simp,by omega⟩,if_neg (Nat.lt_irrefl _),if_pos rfl,Nat.zero_add,Nat.sub_self]
          rfl
        · rw [if_neg (by simp;omega),if_pos (by omega)]
          exact row_cells htk (by omega)
      · have hlt:i<n:=by omega
        refine(Any2.slices_Insert_string_shift Tryz.lays22 g 0 n c i vb 0 1 1 (strC L) [.string (str s)] w hlt (by omega) hroom (by unfold maxLen at hcap;omega) (fun e=>hgv e.symm) hcl rfl hcsx (fun j hj=>hsome j (by omega)) (fun j _=>hfz _) hvs h1c h1v 9 9 1 c (by simp only [World.shape?,hv];rfl) (by simp only [World.shape?,hg];rw [hc0]) (by omega) (by simp only [World.frozen?,hv];rfl) (by simp only [World.frozen?,hv];rfl)).mono ?_
        rintro e w' ⟨rfl,rfl⟩
        refine⟨_,rfl,⟨by rw [htl,hil,hcl,htn,Nat.mul_one],.inr ⟨g,c,_,by rw [htn],Nat.zero_le _,heap_sets _ _ _ _ (heap_sets _ _ w.drew _ hg),by rw [htn];exact hroom,hcap,by rw [setL_size,setL_size,hcs],?_⟩⟩,?_,.inl rfl⟩
        · rw [htn,htl]
          refine take_cells (by rw [hil,hcl]) (fun j hj=>?_)
          rw [setL_at,setL_at,setL_size,insC_at _ (by omega),List.length_drop,hcl]
          by_cases h1:j=i
          · subst h1
            rw [if_pos ⟨by omega,by simp,by omega⟩,if_neg (Nat.lt_irrefl _),if_pos rfl,Nat.zero_add,Nat.sub_self]
            rfl
          · rw [if_neg (by simp;omega)]
            by_cases h2:j<i
            · rw [if_neg (by omega),if_pos h2]
              exact row_cells htk (by omega)
            · rw [if_pos ⟨by omega,by omega,by omega⟩,if_neg h2,if_neg h1,List.getElem?_drop]
              congr 1
              omega
        · exact(((Below.kept (below_drewH w 1)).trans (kept_sets g _ _ _) (fun k _ h=>h)).trans (kept_sets g _ _ _) (fun k _ h=>h)).mono (fun k _ h=>by rw [h];rfl)
    · by_cases hin:i=n
      · subst hin
        refine(Any2.slices_Insert_string_end_grow Tryz.lays22 (some ⟨g,0,none⟩) i c vb 0 1 1 (strC L) [.string (str s)] w (by omega) hle (by omega) (by omega) hcl rfl (fun e=>by cases e) (fun a ha j v hj=>by
          injection ha with ha
          subst ha
          rw [add_off]
          have:=hcsx j v hj
          rwa [Nat.zero_add] at this) hvs h1v).mono ?_
        rintro e w' ⟨rfl,rfl⟩
        have hge:=grownCap_ge w (i+1) c 9
        have hmx:=grownCap_le_maxLen w (i+1) c 9 (by unfold maxLen;omega)
        refine⟨_,rfl,⟨by rw [htl,hil,hcl,htn,Nat.mul_one],.inr ⟨w.heap.size,_,_,by rw [htn];rfl,Nat.zero_le _,heap_alloc_new w.drew _,by rw [htn];exact hge,hmx,?_,?_⟩⟩,Below.kept (below_out (below_drewH w 1) (below_new w.drew _)),.inr rfl⟩
        · rw [Array.size_append,zero_size,List.size_toArray,List.length_append,hcl,Nat.mul_one]
          simp
          show _=grownCap w (i+1) c 9
          have hge':i+1≤grownCap w (i+1) c 9:=hge
          show i+1+(grownCap w (i+1) c 9-(i+1))=_
          omega
        · rw [htn,htl]
          refine take_cells (by rw [hil,hcl]) (fun j hj=>?_)
          rw [insC_at _ (by omega),Array.getElem?_append_left (by simp [hcl];omega),List.getElem?_toArray]
          by_cases h1:j=i
          · subst h1
            rw [if_neg (Nat.lt_irrefl _),if_pos rfl,List.getElem?_append_right (by omega),hcl,Nat.sub_self]
            rfl
          · rw [if_pos (by omega),List.getElem?_append_left (by omega)]
      · have hlt:i<n:=by omega
        refine(Any2.slices_Insert_string_grow Tryz.lays22 g 0 n c i vb 0 1 1 (strC L) [.string (str s)] w hlt (by omega) hle (by omega) (by omega) hcl rfl hcsx hvs h1c h1v).mono ?_
        rintro e w' ⟨rfl,rfl⟩
        have hge:=grownCap_ge w (n+1) c 9
        have hmx:=grownCap_le_maxLen w (n+1) c 9 (by unfold maxLen;omega)
        refine⟨_,rfl,⟨by rw [htl,hil,hcl,htn,Nat.mul_one],.inr ⟨w.heap.size,_,_,by rw [htn];rfl,Nat.zero_le _,heap_sets _ _ _ _ (show (World.drew _).heap[w.heap.size]?=_ from heap_sets _ _ _ _ (show (World.drew _).heap[w.heap.size]?=_ from heap_alloc_new w _)),by rw [htn];exact hge,hmx,?_,?_⟩⟩,?_,.inr rfl⟩
        · rw [setL_size,setL_size,Array.size_append,Array.size_append,zero_size,zero_size,List.size_toArray,List.length_take,hcl,Nat.mul_one]
          show min i n+(n+1-i)+(grownCap w (n+1) c 9-(n+1))=grownCap w (n+1) c 9
          omega
        · rw [htn,htl]
          refine take_cells (by rw [hil,hcl]) (fun j hj=>?_)
          rw [setL_at,setL_at,setL_size,insC_at _ (by omega),List.length_drop,hcl]
          rw [Array.size_append,Array.size_append,zero_size,zero_size,List.size_toArray,List.length_take,hcl]
          by_cases h1:j=i
          · subst h1
            rw [if_neg (by omega),if_pos ⟨by omega,by simp,by omega⟩,if_neg (Nat.lt_irrefl _),if_pos rfl,Nat.sub_self]
            rfl
          · by_cases h2:j<i
            · rw [if_neg (by omega),if_neg (by simp;omega),if_pos h2]
              rw [Array.append_assoc,Array.getElem?_append_left (by simp [hcl];omega),List.getElem?_toArray,List.getElem?_take,if_pos h2]
            · rw [if_pos ⟨by omega,by omega,by omega⟩,if_neg h2,if_neg h1,List.getElem?_drop]
              congr 1
              omega
        · refine((((Below.kept (F:=fun k=>k=w.heap.size) (below_new w _)).trans (Below.kept (below_drewH _ 1)) (fun _ _ h=>h)).trans (kept_sets w.heap.size _ _ _) (fun k _ h=>h)).trans (Below.kept (below_drewH _ 1)) (fun _ _ h=>h)).trans (kept_sets w.heap.size _ _ _) (fun k _ h=>h) |>.mono (fun k hk h=>?_)
          omega
theorem bs_end {L:List B}{s:B} (h:SrtO L) {lo:Nat} (hlo:lo≤L.length) (h1:∀ t x,t<lo→L[t]?=some x→ordO x s<0) (h2:∀ t x,lo≤t→L[t]?=some x→0≤ordO x s):belowO s L=lo:=by
 obtain⟨k1,k2,k3⟩:=@below_at L s h;rcases Nat.lt_trichotomy (belowO s L) lo with hl|hl|hl
 · have hk:belowO s L<L.length:=by omega
   have e:=List.getElem?_eq_getElem hk;have a:=h1 _ _ hl e;refine absurd a (k3 _ ?_);have e2:(L.drop (belowO s L))[0]?=some L[belowO s L]:=by rw [List.getElem?_drop,Nat.add_zero,e]
   exact List.mem_of_getElem? e2
 · exact hl
 · have hk:lo<L.length:=by omega
   have e:=List.getElem?_eq_getElem hk;refine absurd (k2 _ ?_) (Int.not_lt.2 (h2 _ _ (Nat.le_refl _) e));have:(L.take (belowO s L))[lo]?=some L[lo]:=by rw [List.getElem?_take,if_pos hl,e]
   exact List.mem_of_getElem? this
theorem bs_has {L:List B}{s x:B} (h:SrtO L) (hx:L[belowO s L]?=some x):decide (ordO x s=0)=decide (s∈L):=by
 rw [Bool.eq_iff_iff,decide_eq_true_eq,decide_eq_true_eq,←has_mem h];constructor
 · intro h0;exact⟨x,hx,h0⟩
 · rintro ⟨y,hy,h0⟩;rw [hx] at hy;exact(Option.some.inj hy) ▸ h0
theorem bs_no {L:List B}{s:B} (h:SrtO L) (hx:L[belowO s L]?=none):decide (s∈L)=false:=by
 rw [decide_eq_false_iff_not,←has_mem h];rintro ⟨y,hy,_⟩;rw [hx] at hy;cases hy
theorem bsearch_any (L:List B) (s:B) (p:Option Addr) (n c:Nat) (hn:L.length=n) (hnn:n≤100000) (hL:SrtO L) (hll:∀ x∈L,x.length≤254) (hs:s.length≤254) (w:World) (hT:LbAt w p L):
  Calls Tryz.prog 157 #[.slice p n c,.string (str s),.func (.func 158) #[] #[]] w fun e w'=>e= .returned (.tuple #[.int .i64 (belowO s L:Nat),.bool (decide (s∈L))])∧w'=w:=by
 have HO:=hid (fun (W:World) (x:B) (hx:x∈L)=>order_any x s (hll x hx) hs W);have HN:=hid hn;have HT:=hid hT;have HL:=hid hL;have HEnd:=hid (fun (lo:Nat) (hlo:lo≤L.length) h1 h2=>@bs_end L s hL lo hlo h1 h2);have HHas:=hid (fun (x:B) hx=>@bs_has L s x hL hx);have HNo:=hid (fun hx=>@bs_no L s hL hx);have HMo:=hid (fun (a b:Nat) (x y:B) (hab:a≤b) (hx:L[a]?=some x) (hy:L[b]?=some y) (hlt:ordO y s<0)=>srt_mono hL hab hx hy hlt);obtain⟨S,hS⟩:∃ S,str s=S:=⟨_,rfl⟩;rw [hS] at HO ⊢;obtain⟨k,hk⟩:∃ k,belowO s L=k:=⟨_,rfl⟩;obtain⟨has,hhas⟩:∃ b,decide (s∈L)=b:=⟨_,rfl⟩;rw [hk] at HEnd HHas HNo ⊢;rw [hhas] at HHas HNo ⊢;clear hS hn hT hL hll hs hk hhas;have e39:∀ args w,(callFunc 158 args).run Tryz.prog w= .ok (.enter 158 args) w:=enters_of Tryz.func158 (by kernel_rfl) rfl;go_enter Tryz.func157,Tryz.ntmps157;go_wp2;go_loopg [9,10] (n+1) (fun gk s9 s10 wr=>∃ lo hi:Nat,s9= .int .i64 (lo:Int)∧s10= .int .i64 (hi:Int)∧lo≤hi∧hi≤n∧gk=hi-lo+1∧wr=w∧Aside ((∀ t x,t<lo→L[t]?=some x→ordO x s<0)∧(∀ t x,hi≤t→L[t]?=some x→0≤ordO x s)))
 case atStart=>exact⟨0,n,rfl,rfl,Nat.zero_le _,Nat.le_refl _,by omega,rfl,(⟨fun t x ht=>absurd ht (Nat.not_lt_zero _),fun t x h1 h2=>by have:=(List.getElem?_eq_some_iff.1 h2).1;rw [HN.out] at this;omega⟩:(∀ t x,t<0→L[t]?=some x→ordO x s<0)∧(∀ t x,n≤t→L[t]?=some x→0≤ordO x s))⟩
 case round=>
  obtain⟨lo,hi,rfl,rfl,hlh,hin,rfl,rfl,I⟩:=hrel;by_cases hlt:lo<hi
  · have hm1:(lo+hi) / 2<L.length:=by rw [HN.out];omega
    obtain⟨x,hx⟩:∃ x,L[(lo+hi) / 2]?=some x:=⟨_,List.getElem?_eq_getElem hm1⟩;obtain⟨g1,o1,rfl,q1⟩:=HT.out _ x hx;have HOx:=hid (fun W:World=>HO.out W x (List.mem_of_getElem? hx));have HX:=hid hx;obtain⟨Sx,hSx⟩:∃ S,str x=S:=⟨_,rfl⟩;rw [hSx] at HOx q1;obtain⟨o,ho⟩:∃ o,ordO x s=o:=⟨_,rfl⟩;rw [ho] at HOx;have HOo:=hid ho;obtain⟨j,hj⟩:∃ j,(lo+hi) / 2=j:=⟨_,rfl⟩;have hji:((lo:Int)+(hi:Int)) / 2=(j:Int):=by omega
    have hjl:lo≤j:=by omega
    have hjh:j<hi:=by omega
    rw [hj] at q1 HX;clear hx hm1 hSx ho hj;by_cases hlo:o<0
    · go_wp2_with (go_at_call 158;(with_reducible refine(HOx.out _).mono ?_);rintro e w1 ⟨rfl,rfl⟩);go_roundg (hi-(j+1)+1)
      case measure=>omega
      case rel=>
       have I2:Aside ((∀ t x,t<j+1→L[t]?=some x→ordO x s<0)∧(∀ t x,hi≤t→L[t]?=some x→0≤ordO x s)):=⟨fun t y ht hy=>HMo.out t j y x (by omega) hy HX.out (by rw [HOo.out];exact hlo),I.out.2⟩;exact⟨j+1,hi,by push_cast;rfl,rfl,by omega,hin,rfl,rfl,I2⟩
    · go_wp2_with (go_at_call 158;(with_reducible refine(HOx.out _).mono ?_);rintro e w1 ⟨rfl,rfl⟩);go_roundg (j-lo+1)
      case measure=>omega
      case rel=>
       have I2:Aside ((∀ t x,t<lo→L[t]?=some x→ordO x s<0)∧(∀ t x,j≤t→L[t]?=some x→0≤ordO x s)):=⟨I.out.1,fun t y ht hy=>Int.not_lt.1 fun h=>by
        have:=HMo.out j t x y ht HX.out hy h;rw [HOo.out] at this;omega⟩
       exact⟨lo,j,rfl,rfl,by omega,by omega,rfl,rfl,I2⟩
  · obtain rfl:hi=lo:=by omega
    obtain rfl:k=hi:=HEnd.out hi (by rw [HN.out];exact hin) I.out.1 I.out.2;by_cases hkn:k<n
    · obtain⟨x,hx⟩:∃ x,L[k]?=some x:=⟨_,List.getElem?_eq_getElem (by rw [HN.out];exact hkn)⟩;obtain⟨g1,o1,rfl,q1⟩:=HT.out _ x hx;have HOx:=hid (fun W:World=>HO.out W x (List.mem_of_getElem? hx));have HH:=hid (HHas.out x hx);obtain⟨Sx,hSx⟩:∃ S,str x=S:=⟨_,rfl⟩;rw [hSx] at HOx q1;obtain⟨o,ho⟩:∃ o,ordO x s=o:=⟨_,rfl⟩;rw [ho] at HOx HH;clear hx hSx ho;by_cases hlo:o=0
      · rw [decide_eq_true hlo] at HH;go_wp2_with (go_at_call 158;(with_reducible refine(HOx.out _).mono ?_);rintro e w1 ⟨rfl,rfl⟩);go_ret2;exact⟨by rw [←HH.out];rfl,rfl⟩
      · rw [decide_eq_false hlo] at HH;have hlo2:(o== 0)=false:=by simpa using hlo
        go_wp2_with (go_at_call 158;(with_reducible refine(HOx.out _).mono ?_);rintro e w1 ⟨rfl,rfl⟩);go_ret2;exact⟨by rw [←HH.out];rfl,rfl⟩
    · have HH:=hid (HNo.out (List.getElem?_eq_none (by rw [HN.out];omega)));obtain rfl:n=k:=by omega
      go_wp2;go_ret2;exact⟨by rw [HH.out];rfl,rfl⟩
end Go.Proofs.YtlmlljlappjjjaaGreatDoor
