/- The library's functions that the program calls: Cut, Split, Clone. -/
import Derived.Test.YtlmlljlappjjjaaGreatDoorShelf
import Derived.Test.YtlmlljlappjjjaaGreatDoorTSeg
namespace Go.Proofs.YtlmlljlappjjjaaGreatDoor
set_option maxRecDepth 20000
set_option maxHeartbeats 4000000
open Go.RowKit
def MxAt (w:World):Prop:=∃ m:Int,w.cell? ⟨0,0,none⟩=some (.int .i64 m)
theorem MxAt.next {w w':World} (h:MxAt w) (hb:Below w.heap.size w w'):MxAt w':=by
 obtain⟨m,h⟩:=h;exact⟨m,cell_keep hb h⟩
theorem byte_missX (x:UInt8):∀ l:List UInt8,Lib.indexByte l x= -1→∀ y∈l,y≠x
 | [],_,y,hy=>by simp at hy
 |b::l,h,y,hy=>by
  unfold Lib.indexByte at h;split at h
  · simp at h
  · rename_i hb
    split at h
    · rename_i h2
      rcases List.mem_cons.1 hy with rfl|hy
      · simpa using hb
      · exact byte_missX x l (by simpa using h2) y hy
    · rename_i h2
      have:=Lib.indexByte_ge l x;simp at h2;omega
theorem byte_hitX (x:UInt8):∀ (l:List UInt8) (i:Nat),Lib.indexByte l x=i→(∀ y∈l.take i,y≠x)∧l=l.take i++x::l.drop (i+1)
 | [],i,h=>by simp [Lib.indexByte] at h
 |b::l,i,h=>by
  unfold Lib.indexByte at h;split at h
  · rename_i hb
    have hi:i=0:=by omega
    subst hi;have hb':b=x:=by simpa using hb
    subst hb';simp
  · rename_i hb
    split at h
    · omega
    · rename_i h2
      have:=Lib.indexByte_ge l x;simp at h2;obtain⟨j,rfl⟩:∃ j,i=j+1:=⟨i-1,by omega⟩;obtain⟨h3,h4⟩:=byte_hitX x l j (by omega);refine⟨?_,?_⟩
      · intro y hy;rw [List.take_succ_cons] at hy;rcases List.mem_cons.1 hy with rfl|hy
        · simpa using hb
        · exact h3 y hy
      · rw [List.take_succ_cons,List.drop_succ_cons,List.cons_append,←h4]
theorem split_cutH:∀ (n:Nat) (s:ByteArray),Lib.countB s ⟨#[46]⟩=n→(Lib.splitB ⟨#[46]⟩ 0 n s).map (fun p=>p.data.toList)=cutH s.data.toList
 |n,s,h=>by
  have hx:Lib.indexB s ⟨#[46]⟩=Lib.indexByte s.data.toList 46:=Lib.index_one s.data.toList 46;by_cases hm:Lib.indexB s ⟨#[46]⟩= -1
  · rw [Lib.splitB_miss _ _ _ _ hm];rw [hx] at hm;rw [cutH_only _ (fun h1=>byte_missX 46 _ hm 46 h1 rfl)];rfl
  · have hge:=Lib.indexByte_ge s.data.toList 46;obtain⟨i,hi⟩:∃ i:Nat,Lib.indexB s ⟨#[46]⟩=i:=⟨(Lib.indexB s ⟨#[46]⟩).toNat,by omega⟩;have hc:=Lib.countB_hit s ⟨#[46]⟩ i (Nat.le_refl 1) hi;obtain⟨m,rfl⟩:∃ m,n=m+1:=⟨n-1,by omega⟩;rw [Lib.splitB_hit _ _ _ _ _ hi];have hrec:=split_cutH m (s.extract (i+(⟨#[46]⟩:ByteArray).size) s.size) (by omega);rw [List.map_cons,hrec];rw [hx] at hi;obtain⟨h1,h2⟩:=byte_hitX 46 _ _ hi;have e:=cutH_app (s.data.toList.take i) (s.data.toList.drop (i+1)) (fun h3=>h1 46 h3 rfl);rw [←h2] at e;rw [e];have e1:(s.extract 0 (i+0)).data.toList=s.data.toList.take i:=by simp
    have e2:(s.extract (i+(⟨#[46]⟩:ByteArray).size) s.size).data.toList=s.data.toList.drop (i+1):=by
     rw [show (⟨#[46]⟩:ByteArray).size=1 from rfl];simp;rw [List.take_of_length_le (by simp)]
    rw [e1,e2]
theorem psplitH (s:B) (hs:s.length≤4294967280) (w:World) (hmx:MxAt w):Calls Tryz.prog 133 #[.string (str s),.string ⟨#[46]⟩] w fun e w'=>∃ p c,e= .returned (.slice p (cutH s).length c)∧OwnS w' w.heap.size (.slice p (cutH s).length c) (cutH s)∧Below w.heap.size w w':=by
 obtain⟨m,hm⟩:=hmx;refine(Tryz.strings_Split (str s) ⟨#[46]⟩ m w (by rw [str_size];omega) hm (Nat.le_refl 1)).mono ?_;rintro e w' ⟨rfl,rfl⟩;have hcut:=split_cutH _ (str s) rfl;rw [show (str s).data.toList=s by simp] at hcut;have hlen:(Lib.splitB ⟨#[46]⟩ 0 (Lib.countB (str s) ⟨#[46]⟩) (str s)).length=Lib.countB (str s) ⟨#[46]⟩+1:=Lib.splitB_all ⟨#[46]⟩ (Nat.le_refl 1) 0 _ (str s) rfl;have hl2:(cutH s).length=Lib.countB (str s) ⟨#[46]⟩+1:=by rw [←hlen,←hcut,List.length_map]
 have hle:=Lib.countB_le ⟨#[46]⟩ (Nat.le_refl 1) _ (str s) (Nat.le_refl _);rw [str_size] at hle;have hcells:(Lib.splitB ⟨#[46]⟩ 0 (Lib.countB (str s) ⟨#[46]⟩) (str s)).map Value.string=strC (cutH s):=by
  rw [←hcut];unfold strC;rw [List.map_map];rfl
 refine⟨some ⟨w.heap.size,0,none⟩,Lib.countB (str s) ⟨#[46]⟩+1,by rw [hl2],?_,below_new _ _⟩;refine⟨by simp [strC],.inr ⟨w.heap.size,Lib.countB (str s) ⟨#[46]⟩+1,_,rfl,Nat.le_refl _,heap_alloc_new w _,by omega,by unfold maxLen;omega,by simp [hlen],?_⟩⟩;rw [hcells];exact List.take_of_length_le (by simp [strC])
theorem cloneH (s:B) (w:World) (hs:s.length≤281474976710656):
  Calls Tryz.prog 58 #[.string (str s)] w fun e w'=>e= .returned (.string (str s))∧Below w.heap.size w w':=by
 have HC:=hid (fun W:World=>Tryz.stringslite_Clone (str s) W (by rw [str_size];exact hs));obtain⟨S,hS⟩:∃ S,str s=S:=⟨_,rfl⟩;rw [hS] at HC ⊢;clear hS;go_enter Tryz.func58,Tryz.ntmps58;go_wp2_with (go_at_call 98;(with_reducible refine(HC.out _).mono ?_);rintro e w' ⟨rfl,hb⟩);go_ret;exact⟨rfl,by assumption⟩
theorem pcut_lite_r (s:B) (hs:s.length≤140737488355328) (w:World):Calls Tryz.prog 122 #[.string (str s),.string ⟨#[47]⟩] w fun e w'=>e= .returned (.tuple #[.string (str (cutF 47 s).1),.string (str (cutF 47 s).2.1),.bool (cutF 47 s).2.2])∧∃ q,w'=w.drewN q:=by
 have HI:=hid (fun W:World=>Tryz.stringslite_Index_one (str s) 47 W);rw [show (str s).data.toList=s by simp] at HI;have hge:=Lib.indexByte_ge s 47;obtain⟨n,hn⟩:∃ n,s.length=n:=⟨_,rfl⟩;obtain⟨S,hS⟩:∃ S,str s=S:=⟨_,rfl⟩;have hSn:S.size=n:=by rw [←hS,str_size,hn]
 by_cases h:Lib.indexByte s 47= -1
 · rw [cutF_no s (byte_missX 47 s h)];dsimp only;rw [h] at HI;rw [hS] at HI;rw [hS,show str []=⟨#[]⟩ from rfl];clear hS hn h hge;go_enter Tryz.func122,Tryz.ntmps122;go_wp2_with (go_at_call 150;(with_reducible refine(HI.out _).mono ?_);rintro e w1 ⟨rfl,hw1⟩;subst w1);go_ret3;exact⟨rfl,0,rfl⟩
 · obtain⟨i,hi⟩:∃ i:Nat,Lib.indexByte s 47=i:=⟨(Lib.indexByte s 47).toNat,by omega⟩;obtain⟨h1,h2⟩:=byte_hitX 47 s i hi;have hc:cutF 47 s=(s.take i,s.drop (i+1),true):=by
    conv=>lhs;rw [h2]
    exact cutF_at _ _ h1
   have hin:i<n:=by
    have h3:=congrArg List.length h2;rw [List.length_append,List.length_cons,List.length_take,List.length_drop,hn] at h3;omega
   rw [hc];dsimp only;rw [hi,hS] at HI;have he1:S.extract 0 i=str (s.take i):=by rw [←hS];exact take_ext s i
   have he2:S.extract (i+1) n=str (s.drop (i+1)):=by rw [←hS];exact ext_drop s (i+1) n hn
   obtain⟨S1,hS1⟩:∃ S,str (s.take i)=S:=⟨_,rfl⟩;obtain⟨S2,hS2⟩:∃ S,str (s.drop (i+1))=S:=⟨_,rfl⟩;rw [hS1] at he1;rw [hS2] at he2;rw [hS1,hS2,hS];have hnb:n≤140737488355328:=by omega
   have hzz:(⟨#[47]⟩:ByteArray).size=1:=rfl;clear hS hn h hge hi h1 h2 hc hS1 hS2 hs;go_enter Tryz.func122,Tryz.ntmps122;go_wp2_with (go_at_call 150;(with_reducible refine(HI.out _).mono ?_);rintro e w1 ⟨rfl,hw1⟩;subst w1);go_quiet (fail);go_wp2;go_ret3;exact⟨rfl,_,rfl⟩
theorem pcutT (s:B) (hs:s.length≤140737488355328) (w:World) (_:MxAt w):Calls Tryz.prog 80 #[.string (str s),.string ⟨#[47]⟩] w fun e w'=>e= .returned (.tuple #[.string (str (cutF 47 s).1),.string (str (cutF 47 s).2.1),.bool (cutF 47 s).2.2])∧∃ q,w'=w.drewN q:=by
 have HL:=hid (fun W:World=>pcut_lite_r s hs W);obtain⟨S,hS⟩:∃ S,str s=S:=⟨_,rfl⟩;obtain⟨A1,hA1⟩:∃ A,str (cutF 47 s).1=A:=⟨_,rfl⟩;obtain⟨A2,hA2⟩:∃ A,str (cutF 47 s).2.1=A:=⟨_,rfl⟩;obtain⟨b,hb⟩:∃ b,(cutF 47 s).2.2=b:=⟨_,rfl⟩;rw [hS,hA1,hA2,hb] at HL;rw [hS,hA1,hA2,hb];clear hS hA1 hA2 hb;go_enter Tryz.func80,Tryz.ntmps80;go_wp2_with (go_at_call 122;(with_reducible refine(HL.out _).mono ?_);rintro e w1 ⟨rfl,q,rfl⟩);go_ret3;exact⟨rfl,q,rfl⟩
theorem cutT_cut (s:B):cutT s=(cutF 47 s).1::(if (cutF 47 s).2.2 then cutT (cutF 47 s).2.1 else []):=by
 obtain⟨h1,h2,_⟩:=cutF_spec 47 s;have h3:(47:UInt8)∉(cutF 47 s).1:=fun h=>h1 47 h rfl
 by_cases h:(cutF 47 s).2.2=true
 · rw [if_pos h] at h2 ⊢;conv=>lhs;rw [h2]
   exact cutT_app _ _ h3
 · rw [if_neg h] at h2 ⊢;rw [List.append_nil] at h2;conv=>lhs;rw [h2]
   exact cutT_only _ h3
theorem split_cutT:∀ (n:Nat) (s:ByteArray),Lib.countB s ⟨#[47]⟩=n→(Lib.splitB ⟨#[47]⟩ 0 n s).map (fun p=>p.data.toList)=cutT s.data.toList
 |n,s,h=>by
  have hx:Lib.indexB s ⟨#[47]⟩=Lib.indexByte s.data.toList 47:=Lib.index_one s.data.toList 47;by_cases hm:Lib.indexB s ⟨#[47]⟩= -1
  · rw [Lib.splitB_miss _ _ _ _ hm];rw [hx] at hm;rw [cutT_only _ (fun h1=>byte_missX 47 _ hm 47 h1 rfl)];rfl
  · have hge:=Lib.indexByte_ge s.data.toList 47;obtain⟨i,hi⟩:∃ i:Nat,Lib.indexB s ⟨#[47]⟩=i:=⟨(Lib.indexB s ⟨#[47]⟩).toNat,by omega⟩;have hc:=Lib.countB_hit s ⟨#[47]⟩ i (Nat.le_refl 1) hi;obtain⟨m,rfl⟩:∃ m,n=m+1:=⟨n-1,by omega⟩;rw [Lib.splitB_hit _ _ _ _ _ hi];have hrec:=split_cutT m (s.extract (i+(⟨#[47]⟩:ByteArray).size) s.size) (by omega);rw [List.map_cons,hrec];rw [hx] at hi;obtain⟨h1,h2⟩:=byte_hitX 47 _ _ hi;have e:=cutT_app (s.data.toList.take i) (s.data.toList.drop (i+1)) (fun h3=>h1 47 h3 rfl);rw [←h2] at e;rw [e];have e1:(s.extract 0 (i+0)).data.toList=s.data.toList.take i:=by simp
    have e2:(s.extract (i+(⟨#[47]⟩:ByteArray).size) s.size).data.toList=s.data.toList.drop (i+1):=by
     rw [show (⟨#[47]⟩:ByteArray).size=1 from rfl];simp;rw [List.take_of_length_le (by simp)]
    rw [e1,e2]
theorem psplitT (s:B) (hs:s.length≤4294967280) (w:World) (hmx:MxAt w):Calls Tryz.prog 133 #[.string (str s),.string ⟨#[47]⟩] w fun e w'=>∃ p c,e= .returned (.slice p (cutT s).length c)∧OwnS w' w.heap.size (.slice p (cutT s).length c) (cutT s)∧Below w.heap.size w w':=by
 obtain⟨m,hm⟩:=hmx;refine(Tryz.strings_Split (str s) ⟨#[47]⟩ m w (by rw [str_size];omega) hm (Nat.le_refl 1)).mono ?_;rintro e w' ⟨rfl,rfl⟩;have hcut:=split_cutT _ (str s) rfl;rw [show (str s).data.toList=s by simp] at hcut;have hlen:(Lib.splitB ⟨#[47]⟩ 0 (Lib.countB (str s) ⟨#[47]⟩) (str s)).length=Lib.countB (str s) ⟨#[47]⟩+1:=Lib.splitB_all ⟨#[47]⟩ (Nat.le_refl 1) 0 _ (str s) rfl;have hl2:(cutT s).length=Lib.countB (str s) ⟨#[47]⟩+1:=by rw [←hlen,←hcut,List.length_map]
 have hle:=Lib.countB_le ⟨#[47]⟩ (Nat.le_refl 1) _ (str s) (Nat.le_refl _);rw [str_size] at hle;have hcells:(Lib.splitB ⟨#[47]⟩ 0 (Lib.countB (str s) ⟨#[47]⟩) (str s)).map Value.string=strC (cutT s):=by
  rw [←hcut];unfold strC;rw [List.map_map];rfl
 refine⟨some ⟨w.heap.size,0,none⟩,Lib.countB (str s) ⟨#[47]⟩+1,by rw [hl2],?_,below_new _ _⟩;refine⟨by simp [strC],.inr ⟨w.heap.size,Lib.countB (str s) ⟨#[47]⟩+1,_,rfl,Nat.le_refl _,heap_alloc_new w _,by omega,by unfold maxLen;omega,by simp [hlen],?_⟩⟩;rw [hcells];exact List.take_of_length_le (by simp [strC])
theorem cloneT (s:B) (w:World) (hs:s.length≤281474976710656):
  Calls Tryz.prog 58 #[.string (str s)] w fun e w'=>e= .returned (.string (str s))∧Below w.heap.size w w':=by
 have HC:=hid (fun W:World=>Tryz.stringslite_Clone (str s) W (by rw [str_size];exact hs));obtain⟨S,hS⟩:∃ S,str s=S:=⟨_,rfl⟩;rw [hS] at HC ⊢;clear hS;go_enter Tryz.func58,Tryz.ntmps58;go_wp2_with (go_at_call 98;(with_reducible refine(HC.out _).mono ?_);rintro e w' ⟨rfl,hb⟩);go_ret;exact⟨rfl,by assumption⟩
def OwnR_r {α:Type} (T:TypeId) (sz:Nat) (f:α→List Value) (w:World) (base:Nat) (v:Value) (l:List α):Prop:=w.ownsRow base T sz v l.length (l.flatMap f)
section
variable {α : Type} {T : TypeId} {sz : Nat} {f : α → List Value}
theorem OwnR_r.nil (w:World) (base:Nat):OwnR_r T sz f w base (.slice none 0 0) []:=⟨by simp,.inl ⟨rfl,rfl⟩⟩
theorem OwnR_r.put {w':World}{base n:Nat}{v':Value}{acc:List α}{x:α} (hn:acc.length=n) (h:w'.ownsRow base T sz v' (n+1) (acc.flatMap f++f x)):OwnR_r T sz f w' base v' (acc++ [x]):=by
 subst hn;unfold OwnR_r;rw [List.length_append,List.flatMap_append];simpa using h
theorem OwnR_r.below {w w':World}{base:Nat}{v:Value}{acc:List α} (h:OwnR_r T sz f w base v acc) (hb:base≤w.heap.size) (hg:w.grownBy w' v.ownBlock):Below base w w':=
 ⟨hg.os,hg.tape,hg.output,hg.size,fun k hk=>hg.block k (Nat.lt_of_lt_of_le hk hb) (fun e=>by have:=own_ge h e.symm;omega)⟩
theorem OwnR_r.keepB {w w':World}{base:Nat}{v:Value}{acc:List α} (h:OwnR_r T sz f w base v acc) (hb:∀ g,v.ownBlock=some g→w'.heap[g]?=w.heap[g]?):OwnR_r T sz f w' base v acc:=by
 refine⟨h.1,?_⟩;rcases h.2 with h1|⟨g,cap,cur,h1,h2,h3,h4⟩
 · exact .inl h1
 · exact .inr ⟨g,cap,cur,h1,h2,(hb g (by rw [h1];rfl)).trans h3,h4⟩
theorem OwnR_r.lt {w:World}{base g:Nat}{v:Value}{acc:List α} (h:OwnR_r T sz f w base v acc) (e:v.ownBlock=some g):g<w.heap.size:=by
 rcases h.2 with ⟨h1,_⟩|⟨g',cap,cur,h1,h2,h3,h4⟩
 · rw [h1] at e;cases e
 · rw [h1] at e;obtain rfl:g'=g:=by simpa [Value.ownBlock] using e
   exact lt_of_heap h3
theorem OwnR_r.keep {w w':World}{base:Nat}{v:Value}{acc:List α} (h:OwnR_r T sz f w base v acc) (hb:Below w.heap.size w w'):OwnR_r T sz f w' base v acc:=h.keepB fun g e=>hb.block g (h.lt e)
theorem OwnR_r.alloc {w:World}{base:Nat}{v:Value}{acc:List α} (h:OwnR_r T sz f w base v acc) (o:Obj):OwnR_r T sz f (w.alloc o) base v acc:=h.keep (below_new w o)
theorem OwnR_r.lower {w:World}{base b':Nat}{v:Value}{acc:List α} (h:OwnR_r T sz f w base v acc) (hb:b'≤base):OwnR_r T sz f w b' v acc:=by
 refine⟨h.1,?_⟩;rcases h.2 with h1|⟨g,cap,cur,h1,h2,h3⟩
 · exact .inl h1
 · exact .inr ⟨g,cap,cur,h1,Nat.le_trans hb h2,h3⟩
theorem OwnR_r.at {w:World}{base n c j:Nat}{p:Option Addr}{l:List α}{x:α} (hf:∀ x,(f x).length=sz) (h:OwnR_r T sz f w base (.slice p n c) l) (hj:l[j]?=some x):∃ g,p=some ⟨g,0,none⟩∧∀ (t:Nat) (u:Value),(f x)[t]?=some u→w.cell? ⟨g,sz*j+t,none⟩=some u:=by
 have hlt:j<l.length:=(List.getElem?_eq_some_iff.1 hj).1;rcases h.2 with ⟨h1,h2⟩|⟨g,cap,cur,h1,h2,h3,h4,_,h6,h7⟩
 · omega
 · refine⟨g,by cases h1;rfl,fun t u hu=>?_⟩;have ht:t<sz:=by rw [←hf x];exact(List.getElem?_eq_some_iff.1 hu).1
   have k1:=flat_at hf l j x hj t u ht hu;have hm:sz*j+t<l.length*sz:=by
    have:=Nat.mul_le_mul_right sz (Nat.succ_le_of_lt hlt);rw [Nat.succ_mul,Nat.mul_comm j sz] at this;omega
   rw [←h7,List.getElem?_take,if_pos hm] at k1;simp only [World.cell?,h3];simpa using k1
theorem OwnR_r.aside {T':TypeId}{sz' n':Nat}{xs':List Value}{w w':World}{base base':Nat}{v v':Value}{acc:List α} (h:OwnR_r T sz f w base v acc) (h':w.ownsRow base' T' sz' v' n' xs') (hT:T≠T') (hg:w.grownBy w' v'.ownBlock):OwnR_r T sz f w' base v acc:=by
 refine h.keepB fun g e=>hg.block g (h.lt e) (fun e'=>?_)
 rcases h.2 with ⟨h1,_⟩|⟨g1,cap,cur,h1,h2,h3,h4⟩
 · rw [h1] at e;cases e
 · rw [h1] at e;obtain rfl:g1=g:=by simpa [Value.ownBlock] using e
   rcases h'.2 with ⟨k1,_⟩|⟨g2,cap2,cur2,k1,k2,k3,k4⟩
   · rw [k1] at e';cases e'
   · rw [k1] at e';obtain rfl:g1=g2:=by simpa [Value.ownBlock] using e'
     rw [h3] at k3;injection k3 with k3
     injection k3 with _ k5 _
     exact hT k5
end
theorem OwnR_r.set {α:Type}{T:TypeId}{sz:Nat}{f:α→List Value}{w:World}{base b o:Nat}{v u:Value}{acc:List α} (h:OwnR_r T sz f w base v acc) (hb:v.ownBlock≠some b):OwnR_r T sz f (w.setCell ⟨b,o,none⟩ u) base v acc:=
 h.keepB fun g e=>RowKit.Below.heap_setCell w ⟨b,o,none⟩ u g (fun e'=>hb (by rw [e,e']))
theorem ownR_S_r {w:World}{b:Nat}{v:Value}{l:List B} (h:OwnR_r 9 1 (fun t:B=>[.string (str t)]) w b v l):OwnS w b v l:=by
 unfold OwnR_r at h;unfold OwnS strC;rw [show (l.flatMap fun t:B=>[Value.string (str t)])=l.map fun t:B=>Value.string (str t) by clear h;induction l <;> simp_all] at h;exact h
def segF (x:B):List Value:=[.int .i64 (kindT x:Int),.string (str (segX x))]
abbrev OwnG:=OwnR_r 174 2 segF
theorem infoG:(Tryz.prog.info? 174).map (fun i=>(i.zero,i.size,i.bytes))=some (some (.agg #[.int .i64 0,.string ⟨#[]⟩]),2,24):=by kernel_rfl
theorem cutT_mem_len {t x:B} (h:x∈cutT t):x.length≤t.length:=by
 have:=joinT_mem h
 rwa [joinT_cut] at this
theorem drop_at {l:List B}{i:Nat}{a:B} (h:l[i]?=some a):l.drop i=a::l.drop (i+1):=by
 obtain⟨h1,e1⟩:=List.getElem?_eq_some_iff.1 h;rw [List.drop_eq_getElem_cons h1,e1]
theorem OwnF.lowT {w:World}{b b':Nat}{v:Value}{acc:List (B×B)} (h:OwnF w b v acc) (hb:b'≤b):OwnF w b' v acc:=by
 refine⟨h.1,?_⟩;rcases h.2 with h1|⟨g,cap,cur,h1,h2,h3⟩
 · exact .inl h1
 · exact .inr ⟨g,cap,cur,h1,Nat.le_trans hb h2,h3⟩
structure Two (U:World) (g1 o1 g2 o2:Nat) (X Y:ByteArray):Prop where
 a0:U.cell? ⟨g1,o1,none⟩=some (.string X)
 a1:U.cell? ⟨g2,o2,none⟩=some (.string Y)
end Go.Proofs.YtlmlljlappjjjaaGreatDoor
