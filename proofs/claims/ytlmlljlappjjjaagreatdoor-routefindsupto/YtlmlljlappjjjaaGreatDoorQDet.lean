/- Rows whatever their elements; a row laid behind nil; the law's twin of routes. -/
import Derived.Test.YtlmlljlappjjjaaGreatDoorQPFind
namespace Go.Proofs.YtlmlljlappjjjaaGreatDoor
set_option maxRecDepth 20000
set_option maxHeartbeats 16000000
open Go.RowKit
def RowG {α:Type} (w:World) (sz:Nat) (f:α→List Value) (p:Option Addr) (l:List α):Prop:=∀ (j:Nat) (x:α),l[j]?=some x→∃ g o,p=some ⟨g,o,none⟩∧∀ (t:Nat) (u:Value),(f x)[t]?=some u→w.cell? ⟨g,o+j*sz+t,none⟩=some u
section
variable {α : Type} {sz : Nat} {f : α → List Value}
theorem RowG.next {w w':World}{p:Option Addr}{l:List α} (h:RowG w sz f p l) (hb:Below w.heap.size w w'):RowG w' sz f p l:=by
 intro j x hj;obtain⟨g,o,e,h1⟩:=h j x hj;exact⟨g,o,e,fun t u hu=>cell_keep hb (h1 t u hu)⟩
theorem flat_part (hf:∀ x,(f x).length=sz) (hs:0<sz):∀ (l:List α) (k:Nat) (u:Value),(l.flatMap f)[k]?=some u→∃ x,l[k / sz]?=some x∧(f x)[k % sz]?=some u
 | [],k,u,h=>by simp at h
 |y::l,k,u,h=>by
  rw [List.flatMap_cons] at h;by_cases hk:k<sz
  · rw [List.getElem?_append_left (by rw [hf];exact hk)] at h;exact⟨y,by rw [Nat.div_eq_of_lt hk];rfl,by rw [Nat.mod_eq_of_lt hk];exact h⟩
  · rw [List.getElem?_append_right (by rw [hf];omega),hf] at h;obtain⟨x,h1,h2⟩:=flat_part hf hs l (k-sz) u h;refine⟨x,?_,?_⟩
    · rw [Nat.div_eq_sub_div hs (by omega)];simpa using h1
    · rw [Nat.mod_eq_sub_mod (by omega)];exact h2
theorem flat_len (hf:∀ x,(f x).length=sz):∀ l:List α,(l.flatMap f).length=l.length*sz
 | []=>by simp
 |y::l=>by rw [List.flatMap_cons,List.length_append,flat_len hf l,hf,List.length_cons,Nat.succ_mul,Nat.add_comm]
theorem addr_add (g o k:Nat):(⟨g,o,none⟩:Addr).add k=⟨g,o+k,none⟩:=by
 unfold Addr.add;split <;> simp_all
theorem RowG.news {w:World}{ad:Addr}{l:List α} (hf:∀ x,(f x).length=sz) (hs:0<sz) (h:RowG w sz f (some ad) l):∀ (k:Nat) (u:Value),(l.flatMap f)[k]?=some u→w.cell? (ad.add k)=some u:=by
 intro k u hk;obtain⟨x,h1,h2⟩:=flat_part hf hs l k u hk;obtain⟨g,o,e,h3⟩:=h _ x h1;injection e with e
 subst e;have h4:=h3 _ u h2;rw [Nat.add_assoc,Nat.div_add_mod'] at h4;have ha:(⟨g,o,none⟩:Addr).add k=⟨g,o+k,none⟩:=addr_add g o k;rw [ha];exact h4
theorem flat_one (h1:∀ x,∀ u∈f x,u.oneCell'=true) (l:List α):∀ u∈l.flatMap f,u.oneCell'=true:=by
 intro u hu;obtain⟨x,_,hx⟩:=List.mem_flatMap.1 hu;exact h1 x u hx
theorem wp_append_rowG {w:World}{ops:Array Oper}{rest:List Oper}{o:Oper}{a:Act}{Q:Exit→Act→World→Prop} (hgd:o.guard=none) (s x:Operand) (t:TypeId)
  (ho:o.op= .call {callee:=.builtin .append,args:=#[s,x],argTypes:=#[t,t]}) (e:TypeId) (i:TypeInfo) (z:Value) (bytes:Nat) (ht:Tryz.prog.underlying t=some (.slice e)) (hi:Tryz.prog.info? e=some i) (hz:i.zero=some z)
  (hsize:i.size=sz) (hby:i.bytes=bytes) (hzs:z.cells.size=sz) (hsz:0<sz) (hs:a.eval s= .slice none 0 0) (hf:∀ x,(f x).length=sz) (h1:∀ x,∀ u∈f x,u.oneCell'=true)
  (p:Option Addr) (n c:Nat) (l:List α) (hx:a.eval x= .slice p n c) (hn:l.length=n) (hp:p=none→c=0) (hr:RowG w sz f p l) (hm:n≤1048576) (hby2:bytes≤1024)
  (h:∀ (q:Option Addr) (d:Nat) (w':World),OwnR e sz f w' w.heap.size (.slice q n d) l→Below w.heap.size w w'→wpList Tryz.prog ops Q rest (a.put o.dst (.slice q n d)) w'):wpList Tryz.prog ops Q (o::rest) a w:=by
 cases p with
 |none=>
  have hl:l= []:=by
   cases l with
   |nil=>rfl
   |cons y l=>obtain⟨g,o,e1,_⟩:=hr 0 y rfl;cases e1
  subst hl;subst hn;rw [hp rfl] at hx;exact wpList_append_own_none hgd s x t ho w.heap.size e i sz ht hi (.slice none 0 0) 0 [] hs ⟨by simp,.inl ⟨rfl,rfl⟩⟩ hx (h none 0 w (OwnR.nil _ _) (Below.refl _ _))
 |some ad=>
  have hb:n*bytes≤1048576*1024:=Nat.mul_le_mul hm hby2;refine wpList_append_own_at w hgd s x t ho w.heap.size e i z sz bytes ht hi hz hsize hby hzs hsz (.slice none 0 0) 0 [] hs ⟨by simp,.inl ⟨rfl,rfl⟩⟩ ad n c (l.flatMap f) hx (by rw [flat_len hf,hn]) (hr.news hf hsz) (flat_one h1 l) (by unfold maxLen;omega) (by rw [Nat.zero_add];omega) (Nat.le_refl _) ?_;intro v' w' hown hgr _ _;rw [Nat.zero_add,List.nil_append] at hown;obtain⟨q,L,d,rfl⟩:=own_slice3 hown;obtain rfl:L=n:=row_lenH hown;exact h q d w' (by unfold OwnR;rw [hn];exact hown) (kept_grown hgr |>.below (Nat.le_refl _) (fun i e=>by cases e))
theorem OwnR.rowG {T:TypeId}{w:World}{b n c:Nat}{p:Option Addr}{l:List α} (hf:∀ x,(f x).length=sz) (h:OwnR T sz f w b (.slice p n c) l):RowG w sz f p l:=by
 intro j x hj;obtain⟨g,e,hc⟩:=OwnR.at hf h hj;exact⟨g,0,e,fun t u hu=>by have h1:=hc t u hu;rwa [Nat.mul_comm sz j,show j*sz+t=0+j*sz+t from by omega] at h1⟩
end
abbrev txF:B→List Value:=fun t=>[.string (str t)]
theorem tx_rowG {w:World}{p:Option Addr}{l:List B} (h:TxAt w p l):RowG w 1 txF p l:=by
 intro j x hj;obtain⟨g,o,e,hc⟩:=h j x hj;refine⟨g,o,e,fun t u hu=>?_⟩;have ht:t=0:=by have:=(List.getElem?_eq_some_iff.1 hu).1;simpa using this
 subst ht;injection hu with hu
 rw [←hu,Nat.mul_one];exact hc
def TwR (x y:RtX):Prop:=y={x with q:=y.q,k:=y.k}
theorem TwR.r {x y:RtX} (h:TwR x y):y.r=x.r:=by rw [h]
theorem TwR.val {x y:RtX} (h:TwR x y) (hv:RtV x):RtV y:=by rw [h];exact hv
def TwL (l l':List RtX):Prop:=l'.length=l.length∧∀ (j:Nat) (x y:RtX),l[j]?=some x→l'[j]?=some y→TwR x y
theorem TwL.map {l l':List RtX} (h:TwL l l'):l'.map RtX.r=l.map RtX.r:=by
 refine List.ext_getElem? fun j=>?_
 rw [List.getElem?_map,List.getElem?_map];rcases Nat.lt_or_ge j l.length with hj|hj
 · obtain⟨x,hx⟩:∃ x,l[j]?=some x:=⟨_,List.getElem?_eq_getElem hj⟩;obtain⟨y,hy⟩:∃ y,l'[j]?=some y:=⟨_,List.getElem?_eq_getElem (by rw [h.1];exact hj)⟩;rw [hx,hy];show some y.r=some x.r;rw [(h.2 j x y hx hy).r]
 · rw [List.getElem?_eq_none hj,List.getElem?_eq_none (by rw [h.1];exact hj)]
theorem TwL.snoc {l l':List RtX}{i:Nat}{x:RtX} (h:TwL (l.take i) l') (hx:l[i]?=some x) (q:Option Addr) (k:Nat):TwL (l.take (i+1)) (l'++ [{x with q:=q,k:=k}]):=by
 have hi:=(List.getElem?_eq_some_iff.1 hx).1;have ht:l.take (i+1)=l.take i++ [x]:=by rw [List.take_add_one,hx];rfl
 have hl:l'.length=i:=by rw [h.1,List.length_take];omega
 have hlt:(l.take i).length=i:=by rw [List.length_take];omega
 rw [ht];refine⟨by rw [List.length_append,List.length_append,h.1];rfl,fun j a b ha hb=>?_⟩;rcases Nat.lt_or_ge j i with hj|hj
 · rw [List.getElem?_append_left (by omega)] at ha hb;exact h.2 j a b ha hb
 · rw [List.getElem?_append_right (by omega)] at ha hb;have e1:j-(l.take i).length=0:=by have:=(List.getElem?_eq_some_iff.1 ha).1;simp at this;omega
   have e2:j-l'.length=0:=by omega
   rw [e1] at ha;rw [e2] at hb;injection ha with ha
   injection hb with hb
   subst ha;rw [←hb];rfl
theorem TwL.zp {l l':List RtX} (h:TwL l l') (hz:∀ x∈l,RtZP x) (hk:∀ y∈l',y.r.ms.length≤y.k):∀ y∈l',RtZP y:=by
 intro y hy;obtain⟨j,hj⟩:=List.mem_iff_getElem?.1 hy;have hlt:j<l.length:=by have:=(List.getElem?_eq_some_iff.1 hj).1;rw [h.1] at this;exact this
 have hT:=h.2 j _ y (List.getElem?_eq_getElem hlt) hj;have hzx:=hz _ (List.getElem_mem hlt);refine⟨hT.val hzx.val,⟨?_,?_,?_,hk y hy,?_⟩,?_,?_⟩ <;> rw [hT.r]
 · exact hzx.z.host
 · exact hzx.z.path
 · exact hzx.z.ms
 · exact hzx.z.each
 · exact hzx.few
 · exact hzx.each
abbrev OwnRt:=OwnR 42 13 rtXF
theorem infoRt:(Tryz.prog.info? 42).map (fun i=>(i.zero,i.size,i.bytes))=some (some (.agg #[.string ⟨#[]⟩,.string ⟨#[]⟩,.slice none 0 0,.string ⟨#[]⟩,.bool false,.string ⟨#[]⟩,.string ⟨#[]⟩,.slice none 0 0,.int .i64 0,.int .i64 0,.int .i64 0,.int .i64 0,.int .i64 0]),13,176):=by kernel_rfl
structure OwnL (w:World) (b:Nat) (v:Value) (l:List RtX):Prop where
 row:OwnRt w b v l
 ms:∀ x∈l,OwnS w b (.slice x.q x.r.ms.length x.k) x.r.ms
theorem OwnL.next {w w':World}{b:Nat}{v:Value}{l:List RtX} (h:OwnL w b v l) (hb:Below w.heap.size w w'):OwnL w' b v l:=⟨h.row.keep hb,fun x hx=>(h.ms x hx).keep hb⟩
theorem OwnL.at {w:World}{b n c:Nat}{p:Option Addr}{l:List RtX} (h:OwnL w b (.slice p n c) l):RtsAt w p l:=by
 refine⟨fun j x hj=>?_,fun x hx=>(h.ms x hx).tx⟩;obtain⟨g,e,hc⟩:=OwnR.at (sz:=13) (f:=rtXF) (fun _=>rfl) h.row hj;exact⟨g,0,e,fun t u hu=>by have:=hc t u hu;rwa [Nat.mul_comm 13 j,show j*13+t=0+j*13+t from by omega] at this⟩
theorem OwnL.app {w w':World}{b:Nat}{v v':Value}{l:List RtX}{x:RtX} (h:OwnL w b v l) (hg:w.grownBy w' v.ownBlock) (hr:OwnRt w' b v' (l++ [x])) (hx:OwnS w b (.slice x.q x.r.ms.length x.k) x.r.ms):OwnL w' b v' (l++ [x]):=by
 have hms:∀ y:RtX,OwnS w b (.slice y.q y.r.ms.length y.k) y.r.ms→OwnS w' b (.slice y.q y.r.ms.length y.k) y.r.ms:=fun y hy=>ownR_S ((ownS_R hy).aside h.row (by decide) hg)
 refine⟨hr,fun y hy=>?_⟩;rcases List.mem_append.1 hy with hy|hy
 · exact hms y (h.ms y hy)
 · rw [List.mem_singleton.1 hy];exact hms x hx
structure R13 (w:World) (g:Nat) (a0 a1 a2 a3 a4 a5 a6 a7 a8 a9 a10 a11 a12:Value):Prop where
 c0:w.cell? ⟨g,0,none⟩=some a0
 c1:w.cell? ⟨g,1,none⟩=some a1
 c2:w.cell? ⟨g,2,none⟩=some a2
 c3:w.cell? ⟨g,3,none⟩=some a3
 c4:w.cell? ⟨g,4,none⟩=some a4
 c5:w.cell? ⟨g,5,none⟩=some a5
 c6:w.cell? ⟨g,6,none⟩=some a6
 c7:w.cell? ⟨g,7,none⟩=some a7
 c8:w.cell? ⟨g,8,none⟩=some a8
 c9:w.cell? ⟨g,9,none⟩=some a9
 c10:w.cell? ⟨g,10,none⟩=some a10
 c11:w.cell? ⟨g,11,none⟩=some a11
 c12:w.cell? ⟨g,12,none⟩=some a12
theorem r13_of {w:World}{g:Nat}{T:TypeId}{a0 a1 a2 a3 a4 a5 a6 a7 a8 a9 a10 a11 a12:Value} (h:w.heap[g]?=some (.cells #[a0,a1,a2,a3,a4,a5,a6,a7,a8,a9,a10,a11,a12] T (0,0))):R13 w g a0 a1 a2 a3 a4 a5 a6 a7 a8 a9 a10 a11 a12:=by
 refine⟨?_,?_,?_,?_,?_,?_,?_,?_,?_,?_,?_,?_,?_⟩ <;> simp [World.cell?,h]
theorem OwnL.setNew {w W:World}{b:Nat}{v:Value}{l:List RtX} (h:OwnL w b v l) (hb:Below w.heap.size w W) (o:Nat) (u:Value):OwnL (W.setCell ⟨w.heap.size,o,none⟩ u) b v l:=by
 have hk:∀ k,k<w.heap.size→(W.setCell ⟨w.heap.size,o,none⟩ u).heap[k]?=w.heap[k]?:=fun k hk=>(RowKit.Below.heap_setCell W ⟨w.heap.size,o,none⟩ u k (by intro e;have:k=w.heap.size:=e;omega)).trans (hb.block k hk)
 exact⟨h.row.keepB (fun g e=>hk g (h.row.lt e)),fun x hx=>(h.ms x hx).keepB (fun g e=>hk g ((h.ms x hx).lt e))⟩
def TwAns (l:List RtX) (w:World) (e:Ending) (w':World):Prop:=∃ q d l',e= .returned (.slice q l.length d)∧OwnL w' w.heap.size (.slice q l.length d) l'∧TwL l l'∧(∀ y∈l',y.r.ms.length≤y.k)∧Below w.heap.size w w'
theorem twin_any (l:List RtX) (p:Option Addr) (n c:Nat) (hn:l.length=n) (hnn:n≤1048576) (hz:∀ x∈l,RtZP x) (hf:∀ x∈l,x.r.ms.length≤1048576∧(x.q=none→x.k=0)) (w:World) (hT:RtsAt w p l):Calls Tryz.prog 8 #[.slice p n c] w fun e w'=>TwAns l w e w':=by
 obtain⟨s0,hs0,sy0,sy1,sy2⟩:=info_parts infoS;obtain⟨r0,hr0,ry0,ry1,ry2⟩:=info_parts infoRt;have HN:=hid hn;have HT:=hid hT;have HZ:=hid hz;have HF:=hid hf;clear hT hz hf hn;go_enter Tryz.func8,Tryz.ntmps8;go_wp2;go_loopg [3,4] (n+1) (fun gk s3 s4 wr=>∃ (i d:Nat) (q:Option Addr) (l':List RtX),i≤n∧gk=n-i+1∧s4= .int .i64 (i:Int)∧s3= .slice q i d∧OwnL wr w.heap.size (.slice q i d) l'∧TwL (l.take i) l'∧(∀ y∈l',y.r.ms.length≤y.k)∧Below w.heap.size w wr)
 case atStart=>exact⟨0,0,none,[],by omega,rfl,rfl,rfl,⟨OwnR.nil _ _,fun x hx=>(by cases hx)⟩,⟨rfl,fun j x y hx=>(by simp at hx)⟩,fun y hy=>(by cases hy),Below.refl _ _⟩
 case round=>
  obtain⟨i,d,q,l',hi,rfl,rfl,rfl,hO,hTw,hck,hb⟩:=hrel;have HO:=hid hO;have HTw:=hid hTw;have HCk:=hid hck;have HB:=hid hb;clear hO hTw hck hb;by_cases hin:i<n
  · have h1:i<l.length:=by rw [HN.out];exact hin
    obtain⟨x,hx⟩:∃ x,l[i]?=some x:=⟨_,List.getElem?_eq_getElem h1⟩;have HX:=hid hx;have hzx:=HZ.out x (List.mem_of_getElem? hx);have hfx:=HF.out x (List.mem_of_getElem? hx);obtain⟨g1,o1,rfl,hC⟩:=(HT.out.next HB.out).at hx;have HMt:=hid (HT.out.ms x (List.mem_of_getElem? hx));obtain⟨q0,q1,q2,q3,q4,q5,q6,q7,q8,q9,q10,q11,q12⟩:=hC;obtain⟨s3,s5,s6,b4,q7',n7,c7,i8,i9,i10,i11,i12,e3,e4,e5,e6,e7,e8,e9,e10,e11,e12⟩:=hzx.val;have HFl:=hid (show rtXF x= [.string (str x.r.host),.string (str x.r.path),.slice x.q x.r.ms.length x.k,.string s3,.bool b4,.string s5,.string s6,.slice q7' n7 c7,.int .i64 i8,.int .i64 i9,.int .i64 i10,.int .i64 i11,.int .i64 i12] from by unfold rtXF;rw [e3,e4,e5,e6,e7,e8,e9,e10,e11,e12]);have HFt:=hid (fun (qq:Option Addr) (kk:Nat)=>show rtXF {x with q:=qq,k:=kk}= [.string (str x.r.host),.string (str x.r.path),.slice qq x.r.ms.length kk,.string s3,.bool b4,.string s5,.string s6,.slice q7' n7 c7,.int .i64 i8,.int .i64 i9,.int .i64 i10,.int .i64 i11,.int .i64 i12] from by unfold rtXF;rw [e3,e4,e5,e6,e7,e8,e9,e10,e11,e12]);rw [e3] at q3;rw [e4] at q4;rw [e5] at q5;rw [e6] at q6;rw [e7] at q7;rw [e8] at q8;rw [e9] at q9;rw [e10] at q10;rw [e11] at q11;rw [e12] at q12;obtain⟨Sh,hSh⟩:∃ S,str x.r.host=S:=⟨_,rfl⟩;obtain⟨Sp,hSp⟩:∃ S,str x.r.path=S:=⟨_,rfl⟩;rw [hSh] at q0;rw [hSp] at q1;rw [hSh,hSp] at HFt;obtain⟨mn,hmn⟩:∃ mn,x.r.ms.length=mn:=⟨_,rfl⟩;have HMn:=hid hmn;rw [hmn] at q2 HFt;have HFx:=hid hfx;have hl':l'.length=i:=by rw [HTw.out.1,List.length_take];omega
    have HL':=hid hl';have HA:=hid (below_new wr (.cells #[.string Sh,.string Sp,.slice x.q mn x.k,.string s3,.bool b4,.string s5,.string s6,.slice q7' n7 c7,.int .i64 i8,.int .i64 i9,.int .i64 i10,.int .i64 i11,.int .i64 i12] 42 (0,0)));have HG:=hid (heap_alloc_new wr (.cells #[.string Sh,.string Sp,.slice x.q mn x.k,.string s3,.bool b4,.string s5,.string s6,.slice q7' n7 c7,.int .i64 i8,.int .i64 i9,.int .i64 i10,.int .i64 i11,.int .i64 i12] 42 (0,0)));have HRg:=hid (tx_rowG (((HMt.out.next HB.out)).next HA.out));have HB1:=hid (below_out HB.out HA.out);clear h1 hx hzx hSh hSp e3 e4 e5 e6 e7 e8 e9 e10 e11 e12 hfx hmn hl';go_wp2_with (first|(at_builtin;refine wp_append_rowG rfl (.tmp 17) (.tmp 19) 36 rfl 9 s0 _ 16 Tryz.underlying36 hs0 sy0 sy1 sy2 rfl (by decide) (by go_simp) (fun _=>rfl) (fun _ u hu=>by simp at hu;rw [hu];rfl) x.q mn x.k x.r.ms (by go_simp) HMn.out HFx.out.2 HRg.out (by rw [←HMn.out];exact HFx.out.1) (by omega) ?_;intro qm dm w2 hom hbm;have HOm:=hid (ownR_S hom);have HB2:=hid (below_out HB1.out hbm);have hg2:=kB hbm HG.out;have HG2:=hid hg2;have hc2:=(r13_of hg2).c2;have hfz2:=frozen_of_row w2 wr.heap.size 2 _ _ hg2;have HG3:=hid (show (w2.setCell ⟨wr.heap.size,2,none⟩ (.slice qm mn dm)).heap[wr.heap.size]?=some (.cells #[.string Sh,.string Sp,.slice qm mn dm,.string s3,.bool b4,.string s5,.string s6,.slice q7' n7 c7,.int .i64 i8,.int .i64 i9,.int .i64 i10,.int .i64 i11,.int .i64 i12] 42 (0,0)) from heap_set1 hg2 (o:=2));obtain⟨t0,t1,t2,t3,t4,t5,t6,t7,t8,t9,t10,t11,t12⟩:=r13_of HG3.out;have HOL:=hid ((HO.out.setNew (below_out HA.out hbm) 2 (.slice qm mn dm)).next (below_new (w2.setCell ⟨wr.heap.size,2,none⟩ (.slice qm mn dm)) (.cells #[.string Sh,.string Sp,.slice qm mn dm,.string s3,.bool b4,.string s5,.string s6,.slice q7' n7 c7,.int .i64 i8,.int .i64 i9,.int .i64 i10,.int .i64 i11,.int .i64 i12] 42 (0,0))));have HOM:=hid ((ownR_S ((ownS_R HOm.out).set (b:=wr.heap.size) (o:=2) (u:=.slice qm mn dm) (fun e=>absurd (own_ge hom e) (by simp)))).keep (below_new (w2.setCell ⟨wr.heap.size,2,none⟩ (.slice qm mn dm)) (.cells #[.string Sh,.string Sp,.slice qm mn dm,.string s3,.bool b4,.string s5,.string s6,.slice q7' n7 c7,.int .i64 i8,.int .i64 i9,.int .i64 i10,.int .i64 i11,.int .i64 i12] 42 (0,0))));have hcn:∀ (j:Nat) (u:Value),([.string Sh,.string Sp,.slice qm mn dm,.string s3,.bool b4,.string s5,.string s6,.slice q7' n7 c7,.int .i64 i8,.int .i64 i9,.int .i64 i10,.int .i64 i11,.int .i64 i12]:List Value)[j]?=some u→((w2.setCell ⟨wr.heap.size,2,none⟩ (.slice qm mn dm)).alloc (.cells #[.string Sh,.string Sp,.slice qm mn dm,.string s3,.bool b4,.string s5,.string s6,.slice q7' n7 c7,.int .i64 i8,.int .i64 i9,.int .i64 i10,.int .i64 i11,.int .i64 i12] 42 (0,0))).cell? ((⟨w2.heap.size,0,none⟩:Addr).add j)=some u:=(by have:=cells_new (w2.setCell ⟨wr.heap.size,2,none⟩ (.slice qm mn dm)) [.string Sh,.string Sp,.slice qm mn dm,.string s3,.bool b4,.string s5,.string s6,.slice q7' n7 c7,.int .i64 i8,.int .i64 i9,.int .i64 i10,.int .i64 i11,.int .i64 i12] 42;rwa [World.size_setCell] at this);have HCn:=hid hcn;have HBs:=hid ((HB2.out.setCell (by exact HB.out.size) (p:=⟨wr.heap.size,2,none⟩) (.slice qm mn dm)).alloc (by rw [World.size_setCell];exact HB2.out.size) (.cells #[.string Sh,.string Sp,.slice qm mn dm,.string s3,.bool b4,.string s5,.string s6,.slice q7' n7 c7,.int .i64 i8,.int .i64 i9,.int .i64 i10,.int .i64 i11,.int .i64 i12] 42 (0,0)));clear hom hbm hg2 hcn)|(at_builtin;refine wpList_append_own_at _ rfl (.tmp 22) (.tmp 24) 22 rfl w.heap.size 42 r0 _ 13 176 Tryz.underlying22 hr0 ry0 ry1 ry2 rfl (by decide) (.slice q i d) i (l'.flatMap rtXF) (by go_simp) (by have h8:=HOL.out.row;unfold OwnRt OwnR at h8;rw [HL'.out] at h8;exact h8) ⟨w2.heap.size,0,none⟩ 1 1 [.string Sh,.string Sp,.slice qm mn dm,.string s3,.bool b4,.string s5,.string s6,.slice q7' n7 c7,.int .i64 i8,.int .i64 i9,.int .i64 i10,.int .i64 i11,.int .i64 i12] (by go_simp) rfl HCn.out (by simp [Value.oneCell']) (by unfold maxLen;omega) (by omega) HBs.out.size ?_;intro v7 w7 hown hgr _ _;obtain⟨p7,L7,c7',rfl⟩:=own_slice3 hown;have HO7:=hid (show OwnRt w7 w.heap.size (.slice p7 L7 c7') (l'++ [{x with q:=qm,k:=dm}]) from OwnR.put HL'.out (by rw [HFt.out];exact hown));obtain⟨hL7,_⟩:L7=i+1∧True:=⟨row_lenH hown,trivial⟩;subst hL7;have HB7:=hid (HBs.out.trans (OwnR.below HOL.out.row HBs.out.size hgr));have HA7:=hid (HOL.out.app hgr HO7.out (by show OwnS _ _ (.slice qm x.r.ms.length dm) x.r.ms;rw [HMn.out];exact HOM.out.base HB1.out.size));have hcap:mn≤dm:=HOm.out.cap;have HCap:=hid hcap;clear hown hgr));go_roundg (n-(i+1)+1)
    case measure=>omega
    case rel=>
     refine⟨i+1,c7',p7,_,by omega,rfl,by push_cast;go_num,rfl,HA7.out,HTw.out.snoc HX.out qm dm,?_,HB7.out⟩;intro y hy;rcases List.mem_append.1 hy with hy|hy
     · exact HCk.out y hy
     · rw [List.mem_singleton.1 hy];show x.r.ms.length≤dm;rw [HMn.out];exact HCap.out
  · obtain rfl:n=i:=by omega
    have HLt:=hid (show l.take n=l from List.take_of_length_le (by rw [HN.out];exact Nat.le_refl _));rw [HLt.out] at HTw;go_wp2;go_ret;exact⟨q,d,l',by rw [HN.out];rfl,by rw [HN.out];exact HO.out,HTw.out,HCk.out,HB.out⟩
structure SmS (U:World) (gA gB g o g' o':Nat) (vA vB:Value) (N V:ByteArray):Prop where
 cA:U.cell? ⟨gA,1,none⟩=some vA
 cB:U.cell? ⟨gB,1,none⟩=some vB
 a0:U.cell? ⟨g,o,none⟩=some (.string N)
 a1:U.cell? ⟨g,o+1,none⟩=some (.string V)
 b0:U.cell? ⟨g',o',none⟩=some (.string N)
 b1:U.cell? ⟨g',o'+1,none⟩=some (.string V)
theorem same_yes (i:Nat) (m:B) (fs:List (B×B)) (p p':Option Addr) (n c c':Nat) (hn:fs.length=n) (hnn:n≤140737488355328) (w:World) (hF:FAt w p fs) (hF':FAt w p' fs):
  Calls Tryz.prog 14 #[foundV i (.slice p n c) m,foundV i (.slice p' n c') m] w fun e w'=>e= .returned (.bool true)∧Below w.heap.size w w':=by
 have HF:=hid hF;have HF':=hid hF';have HN:=hid hn;unfold foundV;obtain⟨SM,hSM⟩:∃ S,str m=S:=⟨_,rfl⟩;rw [hSM];have HBx:=hid (BxR.new w (.cells #[.int .i64 (i:Int),.slice p n c,.string SM] 47 (0,0)) (.cells #[.int .i64 (i:Int),.slice p' n c',.string SM] 50 (0,0)));clear hF hF' hn hSM;go_enter Tryz.func14,Tryz.ntmps14;go_wp2;obtain⟨W0,hW0⟩:∃ W0,(w.alloc (.cells #[.int .i64 (i:Int),.slice p n c,.string SM] 47 (0,0))).alloc (.cells #[.int .i64 (i:Int),.slice p' n c',.string SM] 50 (0,0))=W0:=⟨_,rfl⟩;rw [hW0] at HBx ⊢;go_loopg [5] (n+1) (fun gk s5 wr=>∃ k:Nat,s5= .int .i64 (k:Int)∧k≤n∧gk=n-k+1∧Below W0.heap.size W0 wr)
 case atStart=>exact⟨0,rfl,by omega,rfl,Below.refl _ _⟩
 case round=>
  obtain⟨k,rfl,hkn,rfl,hb⟩:=hrel;have HB:=hid hb;have HBk:=hid (HBx.out.next hb);clear hb;have cA:=(box3 HBk.out.a).2.1;have cB:=(box3 HBk.out.b).2.1;by_cases hlt:k<n
  · obtain⟨f,hf⟩:∃ f,fs[k]?=some f:=⟨fs[k]'(by rw [HN.out];exact hlt),List.getElem?_eq_getElem (by rw [HN.out];exact hlt)⟩;obtain⟨g,o,hp,c0,c1⟩:=(HF.out.next (below_out HBx.out.low HB.out)) k f hf;obtain⟨g',o',hp',d0,d1⟩:=(HF'.out.next (below_out HBx.out.low HB.out)) k f hf;subst hp hp';obtain⟨N,hN⟩:∃ N,str f.1=N:=⟨_,rfl⟩;obtain⟨V,hV⟩:∃ V,str f.2=V:=⟨_,rfl⟩;rw [hN] at c0 d0;rw [hV] at c1 d1;have hltI:(k:Int)<(n:Int):=by omega
    have hS0:SmS wr.drew w.heap.size (w.heap.size+1) g (o+k*2) g' (o'+k*2) (.slice (some ⟨g,o,none⟩) n c) (.slice (some ⟨g',o',none⟩) n c') N V:=⟨cA,cB,c0,c1,d0,d1⟩;clear hf hN hV;go_upto_region 6 with fail
    refine wp_region_noPanic ?_;refine any_begin 11 (by kernel_rfl) (by kernel_rfl) ?_;refine late_begin (fun U=>SmS U w.heap.size (w.heap.size+1) g (o+k*2) g' (o'+k*2) (.slice (some ⟨g,o,none⟩) n c) (.slice (some ⟨g',o',none⟩) n c') N V) (fun _=>false) hS0 (fun hS=>?_);refine ltk (i:=0) (some 34) rfl rfl (v:= ?v0a) ?hy0a hS ?rest0a
    case hy0a=>intro w0 hSw;obtain⟨x0,x1,a0,a1,b0,b1⟩:=hSw;go_simp;try with_reducible rfl
    simp only [Act.put,sA,sB,sC];refine ltk (i:=1) (some 35) rfl rfl (v:= ?v1a) ?hy1a hS ?rest1a
    case hy1a=>intro w0 hSw;obtain⟨x0,x1,a0,a1,b0,b1⟩:=hSw;go_simp;try with_reducible rfl
    simp only [Act.put,sA,sB,sC];refine ltk (i:=2) (some 36) rfl rfl (v:= ?v2a) ?hy2a hS ?rest2a
    case hy2a=>intro w0 hSw;obtain⟨x0,x1,a0,a1,b0,b1⟩:=hSw;go_simp;try with_reducible rfl
    simp only [Act.put,sA,sB,sC];refine ltk (i:=3) (some 37) rfl rfl (v:= ?v3a) ?hy3a hS ?rest3a
    case hy3a=>intro w0 hSw;obtain⟨x0,x1,a0,a1,b0,b1⟩:=hSw;go_simp;try with_reducible rfl
    simp only [Act.put,sA,sB,sC];refine ltk (i:=4) (some 38) rfl rfl (v:= ?v4a) ?hy4a hS ?rest4a
    case hy4a=>intro w0 hSw;obtain⟨x0,x1,a0,a1,b0,b1⟩:=hSw;go_simp;try with_reducible rfl
    simp only [Act.put,sA,sB,sC];refine ltk (i:=5) (some 39) rfl rfl (v:= ?v5a) ?hy5a hS ?rest5a
    case hy5a=>intro w0 hSw;obtain⟨x0,x1,a0,a1,b0,b1⟩:=hSw;go_simp;try with_reducible rfl
    simp only [Act.put,sA,sB,sC];refine ltk (i:=6) (some 40) rfl rfl (v:= ?v6a) ?hy6a hS ?rest6a
    case hy6a=>intro w0 hSw;obtain⟨x0,x1,a0,a1,b0,b1⟩:=hSw;go_simp;try with_reducible rfl
    simp only [Act.put,sA,sB,sC];refine ltk (i:=7) (some 41) rfl rfl (v:= ?v7a) ?hy7a hS ?rest7a
    case hy7a=>intro w0 hSw;obtain⟨x0,x1,a0,a1,b0,b1⟩:=hSw;go_simp;try with_reducible rfl
    simp only [Act.put,sA,sB,sC];refine ltk (i:=8) (some 42) rfl rfl (v:= ?v8a) ?hy8a hS ?rest8a
    case hy8a=>intro w0 hSw;obtain⟨x0,x1,a0,a1,b0,b1⟩:=hSw;go_simp;try with_reducible rfl
    simp only [Act.put,sA,sB,sC];refine ltk (i:=9) (some 43) rfl rfl (v:= ?v9a) ?hy9a hS ?rest9a
    case hy9a=>intro w0 hSw;obtain⟨x0,x1,a0,a1,b0,b1⟩:=hSw;go_simp;try with_reducible rfl
    simp only [Act.put,sA,sB,sC];refine ltk (i:=10) (some 44) rfl rfl (v:= ?v10a) ?hy10a hS ?rest10a
    case hy10a=>intro w0 hSw;obtain⟨x0,x1,a0,a1,b0,b1⟩:=hSw;go_simp;try with_reducible rfl
    simp only [Act.put,sA,sB,sC];refine late_done (by kernel_rfl) ?_ _;refine NoPanic.normal ?_;go_wp2;go_roundg (n-(k+1)+1)
    case measure=>omega
    case rel=>exact⟨k+1,by go_num,by omega,rfl,HB.out.drew⟩
  · obtain rfl:k=n:=by omega
    have hltI:¬(k:Int)<(k:Int):=by omega
    clear hlt;go_wp2;go_ret;exact⟨rfl,below_out HBx.out.low HB.out⟩
structure FineR (L:List RtC):Prop where
 few:L.length≤64
 chk:∀ r∈L,chkR r=0
 no:∀ i,i<L.length→∀ k,k<i→clashAt L k i=false
theorem fine_of {L:List RtC} (h:newE L=0):FineR L:=by
 unfold newE at h;split at h
 · cases h
 · rename_i h64
   cases hf:L.find? (fun r=>decide (chkR r≠0)) with
   |some r=>
    rw [hf] at h;have:=List.find?_some hf;simp at this;exact absurd h this
   |none=>
    rw [hf] at h;dsimp only at h;refine⟨by omega,fun r hr=>?_,fun i hi k hk=>?_⟩
    · have:=List.find?_eq_none.1 hf r hr;simpa using this
    · cases hc:clashAt L k i with
      |false=>rfl
      |true=>
       rw [if_pos (twice_yes hi hk hc)] at h;cases h
theorem takes_meet {a b:List B}{m:B} (ha:takesR a m=true) (hb:takesR b m=true):meetR a b=true:=by
 unfold takesR at ha hb;unfold meetR;cases ea:a.isEmpty with
 |true=>rfl
 |false=>
  cases eb:b.isEmpty with
  |true=>rfl
  |false=>
   rw [ea,Bool.false_or] at ha;rw [eb,Bool.false_or] at hb;rw [Bool.false_or,Bool.false_or];exact List.any_eq_true.2 ⟨m,List.contains_iff_mem.1 ha,hb⟩
theorem way_one {L:List RtC} (hf:FineR L) {h p m:B}{i j:Nat}{x y:RtC} (hi:i∈waysR L h p) (hj:j∈waysR L h p) (hx:L[i]?=some x) (hy:L[j]?=some y) (tx:takesR x.ms m=true) (ty:takesR y.ms m=true):i=j:=by
 have hw:∀ {i j:Nat}{x y:RtC},i<j→i∈waysR L h p→j∈waysR L h p→L[i]?=some x→L[j]?=some y→takesR x.ms m=true→takesR y.ms m=true→False:=by
  intro i j x y hij hi hj hx hy tx ty;obtain⟨x',hx',a1,a2⟩:=(mem_ways h p L i).1 hi;obtain⟨y',hy',b1,b2⟩:=(mem_ways h p L j).1 hj;rw [hx] at hx';rw [hy] at hy';injection hx' with hx'
  injection hy' with hy'
  subst hx' hy';have hc:=clash_of_at hf.no hx hy hij;have ht:clashR x y=true:=(clash_iff x y).2 ⟨a1.trans b1.symm,(like_iff _ _).2 ⟨(chk_parts (hf.chk x (List.mem_of_getElem? hx))).2,(chk_parts (hf.chk y (List.mem_of_getElem? hy))).2,by rw [a2,b2]⟩,.inr (takes_meet tx ty)⟩;rw [ht] at hc;cases hc
 rcases Nat.lt_trichotomy i j with h1|h1|h1
 · exact(hw h1 hi hj hx hy tx ty).elim
 · exact h1
 · exact(hw h1 hj hi hy hx ty tx).elim
theorem way_det {L:List RtC}{host m h h':B}{p p':B×Int}{F F':List (B×B)} (a:WayYes L host m h p F) (b:WayYes L host m h' p' F'):h=h'∧p=p'∧F=F':=by
 obtain⟨g,a1,a2,_,a4,a5,a6⟩:=a;obtain⟨g',b1,b2,_,b4,b5,b6⟩:=b;rw [a1] at b1;injection b1 with b1 _
 have hg:g=g':=by omega
 subst hg;rw [a2] at b2;injection b2 with b2
 subst b2;have hp:p=p':=by
  rcases a6 p' b4 (by rw [b5];rfl) with e|e
  · exact e.symm
  · rcases b6 p a4 (by rw [a5];rfl) with e2|e2
    · exact e2
    · have:=better_asymm e;rw [e2] at this;cases this
 subst hp;rw [a5] at b5;injection b5 with b5
 exact⟨rfl,rfl,b5⟩
theorem way_ex {L:List RtC}{host m h:B}{p:B×Int}{F:List (B×B)}{k:Nat} (a:WayYes L host m h p F) (b:WayNo L host m k):False:=by
 obtain⟨g,a1,a2,a3,a4,a5,_⟩:=a;rcases b with ⟨b1,_⟩|⟨g',h',b1,b2,b3⟩
 · rw [a1] at b1;exact b1 rfl
 · rw [a1] at b1;injection b1 with b1 _
   have hg:g=g':=by omega
   subst hg;rw [a2] at b2;injection b2 with b2
   subst b2;rcases b3 with ⟨b3,_⟩|⟨_,b4,_⟩
   · rw [a3] at b3;cases b3
   · have:=b4 p a4;rw [a5] at this;cases this
theorem wayNo_det {L:List RtC}{host m:B}{k k':Nat} (a:WayNo L host m k) (b:WayNo L host m k'):k=k':=by
 rcases a with ⟨a1,a2⟩|⟨g,h,a1,a2,a3⟩ <;> rcases b with ⟨b1,b2⟩|⟨g',h',b1,b2,b3⟩
 · rw [a2,b2]
 · rw [b1] at a1;exact absurd rfl a1
 · rw [a1] at b1;exact absurd rfl b1
 · rcases a3 with ⟨a3,a4⟩|⟨a3,_,a4⟩ <;> rcases b3 with ⟨b3,b4⟩|⟨b3,_,b4⟩
   · rw [a4,b4]
   · rw [a3] at b3;cases b3
   · rw [a3] at b3;cases b3
   · rw [a4,b4]
theorem yes_det {L:List RtC} (hf:FineR L) {host path method:B}{i i':Nat}{F F':List (B×B)}{m m':B} (a:FndYes L host path method i F m) (b:FndYes L host path method i' F' m'):i=i'∧F=F'∧m=m':=by
 obtain⟨_,a2,h,p,r,a3,a4,a5,a6⟩:=a;obtain⟨_,b2,h',p',r',b3,b4,b5,b6⟩:=b;rw [a2] at b2;injection b2 with b2
 subst b2;obtain⟨rfl,rfl,rfl⟩:=way_det a3 b3;exact⟨way_one hf a4 b4 a5 b5 a6 b6,rfl,rfl⟩
theorem yes_no {L:List RtC}{host path method:B}{i k:Nat}{F:List (B×B)}{m:B} (a:FndYes L host path method i F m) (b:FndNo L host path method k):False:=by
 obtain⟨a1,a2,h,p,r,a3,a4,a5,a6⟩:=a;rcases b with ⟨b1,_⟩|⟨_,b2,_⟩|⟨_,m',b2,b3⟩
 · exact b1 a1
 · rw [a2] at b2;cases b2
 · rw [a2] at b2;injection b2 with b2
   subst b2;rcases b3 with b3|⟨_,h',p',F',b3,b4⟩
   · exact way_ex a3 b3
   · obtain⟨rfl,rfl,_⟩:=way_det a3 b3;have:=b4 i r a4 a5;rw [a6] at this;cases this
theorem no_det {L:List RtC}{host path method:B}{k k':Nat} (a:FndNo L host path method k) (b:FndNo L host path method k'):k=k':=by
 rcases a with ⟨a1,a2⟩|⟨a1,a2,a3⟩|⟨a1,m,a2,a3⟩ <;> rcases b with ⟨b1,b2⟩|⟨b1,b2,b3⟩|⟨b1,m',b2,b3⟩
 · rw [a2,b2]
 · exact absurd b1 a1
 · exact absurd b1 a1
 · exact absurd a1 b1
 · rw [a3,b3]
 · rw [a2] at b2;cases b2
 · exact absurd a1 b1
 · rw [a2] at b2;cases b2
 · rw [a2] at b2;injection b2 with b2
   subst b2;rcases a3 with a3|⟨a3,h,p,F,a4,_⟩ <;> rcases b3 with b3|⟨b3,h',p',F',b4,_⟩
   · exact wayNo_det a3 b3
   · exact(way_ex b4 a3).elim
   · exact(way_ex a4 b3).elim
   · rw [a3,b3]
theorem canonN_le_q (s:B):(canonN s).2≤3:=by
 unfold canonN;split <;> simp
theorem findN_le_q (P:List (B×Int)) (host:B):(findN P host).2≤8:=by
 unfold findN;split
 · simp
 · split <;> simp
theorem no_le {L:List RtC}{host path method:B}{k:Nat} (h:FndNo L host path method k):k≤23:=by
 rcases h with ⟨_,h⟩|⟨_,_,h⟩|⟨_,m,_,h⟩
 · have:=canonN_le_q host;omega
 · omega
 · rcases h with (⟨_,h⟩|⟨g,x,_,_,h⟩)|⟨h,_⟩
   · have:=findN_le_q (idxP (grpsR L)) host;omega
   · rcases h with ⟨_,h⟩|⟨_,_,h⟩ <;> omega
   · omega
end Go.Proofs.YtlmlljlappjjjaaGreatDoor
