/- The library's functions that the program calls: Cut, Split, Clone. -/
import Derived.Test.YtlmlljlappjjjaaGreatDoorShelf
import Derived.Test.YtlmlljlappjjjaaGreatDoorTSeg
namespace Go.Proofs.YtlmlljlappjjjaaGreatDoor
set_option maxRecDepth 20000
set_option maxHeartbeats 8000000
open Go.RowKit
def MxAt (w:World):Prop:=∃ m:Int,w.cell? ⟨0,0,none⟩=some (.int .i64 m)
theorem MxAt.next {w w':World} (h:MxAt w) (hb:Below w.heap.size w w'):MxAt w':=by
 obtain⟨m,h⟩:=h;exact⟨m,cell_keep hb h⟩
theorem byte_missX (x:UInt8):∀ l:List UInt8,Lib.indexByte l x= -1→∀ y∈l,y≠x
 | [],_,y,hy=>by simp at hy
 |b::l,h,y,hy=>by
  unfold Lib.indexByte at h;split at h
  · simp at h
  · rename_i hb
    split at h
    · rename_i h2
      rcases List.mem_cons.1 hy with rfl|hy
      · simpa using hb
      · exact byte_missX x l (by simpa using h2) y hy
    · rename_i h2
      have:=Lib.indexByte_ge l x;simp at h2;omega
theorem byte_hitX (x:UInt8):∀ (l:List UInt8) (i:Nat),Lib.indexByte l x=i→(∀ y∈l.take i,y≠x)∧l=l.take i++x::l.drop (i+1)
 | [],i,h=>by simp [Lib.indexByte] at h
 |b::l,i,h=>by
  unfold Lib.indexByte at h;split at h
  · rename_i hb
    have hi:i=0:=by omega
    subst hi;have hb':b=x:=by simpa using hb
    subst hb';simp
  · rename_i hb
    split at h
    · omega
    · rename_i h2
      have:=Lib.indexByte_ge l x;simp at h2;obtain⟨j,rfl⟩:∃ j,i=j+1:=⟨i-1,by omega⟩;obtain⟨h3,h4⟩:=byte_hitX x l j (by omega);refine⟨?_,?_⟩
      · intro y hy;rw [List.take_succ_cons] at hy;rcases List.mem_cons.1 hy with rfl|hy
        · simpa using hb
        · exact h3 y hy
      · rw [List.take_succ_cons,List.drop_succ_cons,List.cons_append,←h4]
theorem split_cutH:∀ (n:Nat) (s:ByteArray),Lib.countB s ⟨#[46]⟩=n→(Lib.splitB ⟨#[46]⟩ 0 n s).map (fun p=>p.data.toList)=cutH s.data.toList
 |n,s,h=>by
  have hx:Lib.indexB s ⟨#[46]⟩=Lib.indexByte s.data.toList 46:=Lib.index_one s.data.toList 46;by_cases hm:Lib.indexB s ⟨#[46]⟩= -1
  · rw [Lib.splitB_miss _ _ _ _ hm];rw [hx] at hm;rw [cutH_only _ (fun h1=>byte_missX 46 _ hm 46 h1 rfl)];rfl
  · have hge:=Lib.indexByte_ge s.data.toList 46;obtain⟨i,hi⟩:∃ i:Nat,Lib.indexB s ⟨#[46]⟩=i:=⟨(Lib.indexB s ⟨#[46]⟩).toNat,by omega⟩;have hc:=Lib.countB_hit s ⟨#[46]⟩ i (Nat.le_refl 1) hi;obtain⟨m,rfl⟩:∃ m,n=m+1:=⟨n-1,by omega⟩;rw [Lib.splitB_hit _ _ _ _ _ hi];have hrec:=split_cutH m (s.extract (i+(⟨#[46]⟩:ByteArray).size) s.size) (by omega);rw [List.map_cons,hrec];rw [hx] at hi;obtain⟨h1,h2⟩:=byte_hitX 46 _ _ hi;have e:=cutH_app (s.data.toList.take i) (s.data.toList.drop (i+1)) (fun h3=>h1 46 h3 rfl);rw [←h2] at e;rw [e];have e1:(s.extract 0 (i+0)).data.toList=s.data.toList.take i:=by simp
    have e2:(s.extract (i+(⟨#[46]⟩:ByteArray).size) s.size).data.toList=s.data.toList.drop (i+1):=by
     rw [show (⟨#[46]⟩:ByteArray).size=1 from rfl];simp;rw [List.take_of_length_le (by simp)]
    rw [e1,e2]
theorem psplitH (s:B) (hs:s.length≤4294967280) (w:World) (hmx:MxAt w):Calls Tryz.prog 133 #[.string (str s),.string ⟨#[46]⟩] w fun e w'=>∃ p c,e= .returned (.slice p (cutH s).length c)∧OwnS w' w.heap.size (.slice p (cutH s).length c) (cutH s)∧Below w.heap.size w w':=by
 obtain⟨m,hm⟩:=hmx;refine(Tryz.strings_Split (str s) ⟨#[46]⟩ m w (by rw [str_size];omega) hm (Nat.le_refl 1)).mono ?_;rintro e w' ⟨rfl,rfl⟩;have hcut:=split_cutH _ (str s) rfl;rw [show (str s).data.toList=s by simp] at hcut;have hlen:(Lib.splitB ⟨#[46]⟩ 0 (Lib.countB (str s) ⟨#[46]⟩) (str s)).length=Lib.countB (str s) ⟨#[46]⟩+1:=Lib.splitB_all ⟨#[46]⟩ (Nat.le_refl 1) 0 _ (str s) rfl;have hl2:(cutH s).length=Lib.countB (str s) ⟨#[46]⟩+1:=by rw [←hlen,←hcut,List.length_map]
 have hle:=Lib.countB_le ⟨#[46]⟩ (Nat.le_refl 1) _ (str s) (Nat.le_refl _);rw [str_size] at hle;have hcells:(Lib.splitB ⟨#[46]⟩ 0 (Lib.countB (str s) ⟨#[46]⟩) (str s)).map Value.string=strC (cutH s):=by
  rw [←hcut];unfold strC;rw [List.map_map];rfl
 refine⟨some ⟨w.heap.size,0,none⟩,Lib.countB (str s) ⟨#[46]⟩+1,by rw [hl2],?_,below_new _ _⟩;refine⟨by simp [strC],.inr ⟨w.heap.size,Lib.countB (str s) ⟨#[46]⟩+1,_,rfl,Nat.le_refl _,heap_alloc_new w _,by omega,by unfold maxLen;omega,by simp [hlen],?_⟩⟩;rw [hcells];exact List.take_of_length_le (by simp [strC])
theorem cloneH (s:B) (w:World) (hs:s.length≤281474976710656):
  Calls Tryz.prog 58 #[.string (str s)] w fun e w'=>e= .returned (.string (str s))∧Below w.heap.size w w':=by
 have HC:=hid (fun W:World=>Tryz.stringslite_Clone (str s) W (by rw [str_size];exact hs));obtain⟨S,hS⟩:∃ S,str s=S:=⟨_,rfl⟩;rw [hS] at HC ⊢;clear hS;go_enter Tryz.func58,Tryz.ntmps58;go_wp2_with (go_at_call 98;(with_reducible refine(HC.out _).mono ?_);rintro e w' ⟨rfl,hb⟩);go_ret;exact⟨rfl,by assumption⟩
theorem pcut_lite_r (s:B) (hs:s.length≤140737488355328) (w:World):Calls Tryz.prog 122 #[.string (str s),.string ⟨#[47]⟩] w fun e w'=>e= .returned (.tuple #[.string (str (cutF 47 s).1),.string (str (cutF 47 s).2.1),.bool (cutF 47 s).2.2])∧∃ q,w'=w.drewN q:=by
 have HI:=hid (fun W:World=>Tryz.stringslite_Index_one (str s) 47 W);rw [show (str s).data.toList=s by simp] at HI;have hge:=Lib.indexByte_ge s 47;obtain⟨n,hn⟩:∃ n,s.length=n:=⟨_,rfl⟩;obtain⟨S,hS⟩:∃ S,str s=S:=⟨_,rfl⟩;have hSn:S.size=n:=by rw [←hS,str_size,hn]
 by_cases h:Lib.indexByte s 47= -1
 · rw [cutF_no s (byte_missX 47 s h)];dsimp only;rw [h] at HI;rw [hS] at HI;rw [hS,show str []=⟨#[]⟩ from rfl];clear hS hn h hge;go_enter Tryz.func122,Tryz.ntmps122;go_wp2_with (go_at_call 150;(with_reducible refine(HI.out _).mono ?_);rintro e w1 ⟨rfl,hw1⟩;subst w1);go_ret3;exact⟨rfl,0,rfl⟩
 · obtain⟨i,hi⟩:∃ i:Nat,Lib.indexByte s 47=i:=⟨(Lib.indexByte s 47).toNat,by omega⟩;obtain⟨h1,h2⟩:=byte_hitX 47 s i hi;have hc:cutF 47 s=(s.take i,s.drop (i+1),true):=by
    conv=>lhs;rw [h2]
    exact cutF_at _ _ h1
   have hin:i<n:=by
    have h3:=congrArg List.length h2;rw [List.length_append,List.length_cons,List.length_take,List.length_drop,hn] at h3;omega
   rw [hc];dsimp only;rw [hi,hS] at HI;have he1:S.extract 0 i=str (s.take i):=by rw [←hS];exact take_ext s i
   have he2:S.extract (i+1) n=str (s.drop (i+1)):=by rw [←hS];exact ext_drop s (i+1) n hn
   obtain⟨S1,hS1⟩:∃ S,str (s.take i)=S:=⟨_,rfl⟩;obtain⟨S2,hS2⟩:∃ S,str (s.drop (i+1))=S:=⟨_,rfl⟩;rw [hS1] at he1;rw [hS2] at he2;rw [hS1,hS2,hS];have hnb:n≤140737488355328:=by omega
   have hzz:(⟨#[47]⟩:ByteArray).size=1:=rfl;clear hS hn h hge hi h1 h2 hc hS1 hS2 hs;go_enter Tryz.func122,Tryz.ntmps122;go_wp2_with (go_at_call 150;(with_reducible refine(HI.out _).mono ?_);rintro e w1 ⟨rfl,hw1⟩;subst w1);go_quiet (fail);go_wp2;go_ret3;exact⟨rfl,_,rfl⟩
theorem pcutT (s:B) (hs:s.length≤140737488355328) (w:World) (_:MxAt w):Calls Tryz.prog 80 #[.string (str s),.string ⟨#[47]⟩] w fun e w'=>e= .returned (.tuple #[.string (str (cutF 47 s).1),.string (str (cutF 47 s).2.1),.bool (cutF 47 s).2.2])∧∃ q,w'=w.drewN q:=by
 have HL:=hid (fun W:World=>pcut_lite_r s hs W);obtain⟨S,hS⟩:∃ S,str s=S:=⟨_,rfl⟩;obtain⟨A1,hA1⟩:∃ A,str (cutF 47 s).1=A:=⟨_,rfl⟩;obtain⟨A2,hA2⟩:∃ A,str (cutF 47 s).2.1=A:=⟨_,rfl⟩;obtain⟨b,hb⟩:∃ b,(cutF 47 s).2.2=b:=⟨_,rfl⟩;rw [hS,hA1,hA2,hb] at HL;rw [hS,hA1,hA2,hb];clear hS hA1 hA2 hb;go_enter Tryz.func80,Tryz.ntmps80;go_wp2_with (go_at_call 122;(with_reducible refine(HL.out _).mono ?_);rintro e w1 ⟨rfl,q,rfl⟩);go_ret3;exact⟨rfl,q,rfl⟩
theorem cutT_cut (s:B):cutT s=(cutF 47 s).1::(if (cutF 47 s).2.2 then cutT (cutF 47 s).2.1 else []):=by
 obtain⟨h1,h2,_⟩:=cutF_spec 47 s;have h3:(47:UInt8)∉(cutF 47 s).1:=fun h=>h1 47 h rfl
 by_cases h:(cutF 47 s).2.2=true
 · rw [if_pos h] at h2 ⊢;conv=>lhs;rw [h2]
   exact cutT_app _ _ h3
 · rw [if_neg h] at h2 ⊢;rw [List.append_nil] at h2;conv=>lhs;rw [h2]
   exact cutT_only _ h3
theorem split_cutT:∀ (n:Nat) (s:ByteArray),Lib.countB s ⟨#[47]⟩=n→(Lib.splitB ⟨#[47]⟩ 0 n s).map (fun p=>p.data.toList)=cutT s.data.toList
 |n,s,h=>by
  have hx:Lib.indexB s ⟨#[47]⟩=Lib.indexByte s.data.toList 47:=Lib.index_one s.data.toList 47;by_cases hm:Lib.indexB s ⟨#[47]⟩= -1
  · rw [Lib.splitB_miss _ _ _ _ hm];rw [hx] at hm;rw [cutT_only _ (fun h1=>byte_missX 47 _ hm 47 h1 rfl)];rfl
  · have hge:=Lib.indexByte_ge s.data.toList 47;obtain⟨i,hi⟩:∃ i:Nat,Lib.indexB s ⟨#[47]⟩=i:=⟨(Lib.indexB s ⟨#[47]⟩).toNat,by omega⟩;have hc:=Lib.countB_hit s ⟨#[47]⟩ i (Nat.le_refl 1) hi;obtain⟨m,rfl⟩:∃ m,n=m+1:=⟨n-1,by omega⟩;rw [Lib.splitB_hit _ _ _ _ _ hi];have hrec:=split_cutT m (s.extract (i+(⟨#[47]⟩:ByteArray).size) s.size) (by omega);rw [List.map_cons,hrec];rw [hx] at hi;obtain⟨h1,h2⟩:=byte_hitX 47 _ _ hi;have e:=cutT_app (s.data.toList.take i) (s.data.toList.drop (i+1)) (fun h3=>h1 47 h3 rfl);rw [←h2] at e;rw [e];have e1:(s.extract 0 (i+0)).data.toList=s.data.toList.take i:=by simp
    have e2:(s.extract (i+(⟨#[47]⟩:ByteArray).size) s.size).data.toList=s.data.toList.drop (i+1):=by
     rw [show (⟨#[47]⟩:ByteArray).size=1 from rfl];simp;rw [List.take_of_length_le (by simp)]
    rw [e1,e2]
theorem psplitT (s:B) (hs:s.length≤4294967280) (w:World) (hmx:MxAt w):Calls Tryz.prog 133 #[.string (str s),.string ⟨#[47]⟩] w fun e w'=>∃ p c,e= .returned (.slice p (cutT s).length c)∧OwnS w' w.heap.size (.slice p (cutT s).length c) (cutT s)∧Below w.heap.size w w':=by
 obtain⟨m,hm⟩:=hmx;refine(Tryz.strings_Split (str s) ⟨#[47]⟩ m w (by rw [str_size];omega) hm (Nat.le_refl 1)).mono ?_;rintro e w' ⟨rfl,rfl⟩;have hcut:=split_cutT _ (str s) rfl;rw [show (str s).data.toList=s by simp] at hcut;have hlen:(Lib.splitB ⟨#[47]⟩ 0 (Lib.countB (str s) ⟨#[47]⟩) (str s)).length=Lib.countB (str s) ⟨#[47]⟩+1:=Lib.splitB_all ⟨#[47]⟩ (Nat.le_refl 1) 0 _ (str s) rfl;have hl2:(cutT s).length=Lib.countB (str s) ⟨#[47]⟩+1:=by rw [←hlen,←hcut,List.length_map]
 have hle:=Lib.countB_le ⟨#[47]⟩ (Nat.le_refl 1) _ (str s) (Nat.le_refl _);rw [str_size] at hle;have hcells:(Lib.splitB ⟨#[47]⟩ 0 (Lib.countB (str s) ⟨#[47]⟩) (str s)).map Value.string=strC (cutT s):=by
  rw [←hcut];unfold strC;rw [List.map_map];rfl
 refine⟨some ⟨w.heap.size,0,none⟩,Lib.countB (str s) ⟨#[47]⟩+1,by rw [hl2],?_,below_new _ _⟩;refine⟨by simp [strC],.inr ⟨w.heap.size,Lib.countB (str s) ⟨#[47]⟩+1,_,rfl,Nat.le_refl _,heap_alloc_new w _,by omega,by unfold maxLen;omega,by simp [hlen],?_⟩⟩;rw [hcells];exact List.take_of_length_le (by simp [strC])
theorem cloneT (s:B) (w:World) (hs:s.length≤281474976710656):
  Calls Tryz.prog 58 #[.string (str s)] w fun e w'=>e= .returned (.string (str s))∧Below w.heap.size w w':=by
 have HC:=hid (fun W:World=>Tryz.stringslite_Clone (str s) W (by rw [str_size];exact hs));obtain⟨S,hS⟩:∃ S,str s=S:=⟨_,rfl⟩;rw [hS] at HC ⊢;clear hS;go_enter Tryz.func58,Tryz.ntmps58;go_wp2_with (go_at_call 98;(with_reducible refine(HC.out _).mono ?_);rintro e w' ⟨rfl,hb⟩);go_ret;exact⟨rfl,by assumption⟩
def OwnR_r {α:Type} (T:TypeId) (sz:Nat) (f:α→List Value) (w:World) (base:Nat) (v:Value) (l:List α):Prop:=w.ownsRow base T sz v l.length (l.flatMap f)
section
variable {α : Type} {T : TypeId} {sz : Nat} {f : α → List Value}
theorem OwnR_r.nil (w:World) (base:Nat):OwnR_r T sz f w base (.slice none 0 0) []:=⟨by simp,.inl ⟨rfl,rfl⟩⟩
theorem OwnR_r.put {w':World}{base n:Nat}{v':Value}{acc:List α}{x:α} (hn:acc.length=n) (h:w'.ownsRow base T sz v' (n+1) (acc.flatMap f++f x)):OwnR_r T sz f w' base v' (acc++ [x]):=by
 subst hn;unfold OwnR_r;rw [List.length_append,List.flatMap_append];simpa using h
theorem OwnR_r.below {w w':World}{base:Nat}{v:Value}{acc:List α} (h:OwnR_r T sz f w base v acc) (hb:base≤w.heap.size) (hg:w.grownBy w' v.ownBlock):Below base w w':=
 ⟨hg.os,hg.tape,hg.output,hg.size,fun k hk=>hg.block k (Nat.lt_of_lt_of_le hk hb) (fun e=>by have:=own_ge h e.symm;omega)⟩
theorem OwnR_r.keepB {w w':World}{base:Nat}{v:Value}{acc:List α} (h:OwnR_r T sz f w base v acc) (hb:∀ g,v.ownBlock=some g→w'.heap[g]?=w.heap[g]?):OwnR_r T sz f w' base v acc:=by
 refine⟨h.1,?_⟩;rcases h.2 with h1|⟨g,cap,cur,h1,h2,h3,h4⟩
 · exact .inl h1
 · exact .inr ⟨g,cap,cur,h1,h2,(hb g (by rw [h1];rfl)).trans h3,h4⟩
theorem OwnR_r.lt {w:World}{base g:Nat}{v:Value}{acc:List α} (h:OwnR_r T sz f w base v acc) (e:v.ownBlock=some g):g<w.heap.size:=by
 rcases h.2 with ⟨h1,_⟩|⟨g',cap,cur,h1,h2,h3,h4⟩
 · rw [h1] at e;cases e
 · rw [h1] at e;obtain rfl:g'=g:=by simpa [Value.ownBlock] using e
   exact lt_of_heap h3
theorem OwnR_r.keep {w w':World}{base:Nat}{v:Value}{acc:List α} (h:OwnR_r T sz f w base v acc) (hb:Below w.heap.size w w'):OwnR_r T sz f w' base v acc:=h.keepB fun g e=>hb.block g (h.lt e)
theorem OwnR_r.alloc {w:World}{base:Nat}{v:Value}{acc:List α} (h:OwnR_r T sz f w base v acc) (o:Obj):OwnR_r T sz f (w.alloc o) base v acc:=h.keep (below_new w o)
theorem OwnR_r.lower {w:World}{base b':Nat}{v:Value}{acc:List α} (h:OwnR_r T sz f w base v acc) (hb:b'≤base):OwnR_r T sz f w b' v acc:=by
 refine⟨h.1,?_⟩;rcases h.2 with h1|⟨g,cap,cur,h1,h2,h3⟩
 · exact .inl h1
 · exact .inr ⟨g,cap,cur,h1,Nat.le_trans hb h2,h3⟩
theorem OwnR_r.at {w:World}{base n c j:Nat}{p:Option Addr}{l:List α}{x:α} (hf:∀ x,(f x).length=sz) (h:OwnR_r T sz f w base (.slice p n c) l) (hj:l[j]?=some x):∃ g,p=some ⟨g,0,none⟩∧∀ (t:Nat) (u:Value),(f x)[t]?=some u→w.cell? ⟨g,sz*j+t,none⟩=some u:=by
 have hlt:j<l.length:=(List.getElem?_eq_some_iff.1 hj).1;rcases h.2 with ⟨h1,h2⟩|⟨g,cap,cur,h1,h2,h3,h4,_,h6,h7⟩
 · omega
 · refine⟨g,by cases h1;rfl,fun t u hu=>?_⟩;have ht:t<sz:=by rw [←hf x];exact(List.getElem?_eq_some_iff.1 hu).1
   have k1:=flat_at hf l j x hj t u ht hu;have hm:sz*j+t<l.length*sz:=by
    have:=Nat.mul_le_mul_right sz (Nat.succ_le_of_lt hlt);rw [Nat.succ_mul,Nat.mul_comm j sz] at this;omega
   rw [←h7,List.getElem?_take,if_pos hm] at k1;simp only [World.cell?,h3];simpa using k1
theorem OwnR_r.aside {T':TypeId}{sz' n':Nat}{xs':List Value}{w w':World}{base base':Nat}{v v':Value}{acc:List α} (h:OwnR_r T sz f w base v acc) (h':w.ownsRow base' T' sz' v' n' xs') (hT:T≠T') (hg:w.grownBy w' v'.ownBlock):OwnR_r T sz f w' base v acc:=by
 refine h.keepB fun g e=>hg.block g (h.lt e) (fun e'=>?_)
 rcases h.2 with ⟨h1,_⟩|⟨g1,cap,cur,h1,h2,h3,h4⟩
 · rw [h1] at e;cases e
 · rw [h1] at e;obtain rfl:g1=g:=by simpa [Value.ownBlock] using e
   rcases h'.2 with ⟨k1,_⟩|⟨g2,cap2,cur2,k1,k2,k3,k4⟩
   · rw [k1] at e';cases e'
   · rw [k1] at e';obtain rfl:g1=g2:=by simpa [Value.ownBlock] using e'
     rw [h3] at k3;injection k3 with k3
     injection k3 with _ k5 _
     exact hT k5
end
theorem OwnR_r.set {α:Type}{T:TypeId}{sz:Nat}{f:α→List Value}{w:World}{base b o:Nat}{v u:Value}{acc:List α} (h:OwnR_r T sz f w base v acc) (hb:v.ownBlock≠some b):OwnR_r T sz f (w.setCell ⟨b,o,none⟩ u) base v acc:=
 h.keepB fun g e=>RowKit.Below.heap_setCell w ⟨b,o,none⟩ u g (fun e'=>hb (by rw [e,e']))
theorem ownR_S_r {w:World}{b:Nat}{v:Value}{l:List B} (h:OwnR_r 9 1 (fun t:B=>[.string (str t)]) w b v l):OwnS w b v l:=by
 unfold OwnR_r at h;unfold OwnS strC;rw [show (l.flatMap fun t:B=>[Value.string (str t)])=l.map fun t:B=>Value.string (str t) by clear h;induction l <;> simp_all] at h;exact h
def segF (x:B):List Value:=[.int .i64 (kindT x:Int),.string (str (segX x))]
abbrev OwnG:=OwnR_r 174 2 segF
theorem infoG:(Tryz.prog.info? 174).map (fun i=>(i.zero,i.size,i.bytes))=some (some (.agg #[.int .i64 0,.string ⟨#[]⟩]),2,24):=by kernel_rfl
theorem below_drewT (w:World) (n:Nat):Below w.heap.size w (w.drewN n):=⟨rfl,rfl,rfl,Nat.le_refl _,fun _ _=>rfl⟩
theorem cutT_mem_len {t x:B} (h:x∈cutT t):x.length≤t.length:=by
 have:=joinT_mem h
 rwa [joinT_cut] at this
theorem better_step {x y:List B}{i:Nat}{a b:B} (ha:x[i]?=some a) (hb:y[i]?=some b):betterT (x.drop i) (y.drop i)=if kindT a=kindT b then betterT (x.drop (i+1)) (y.drop (i+1)) else decide (kindT a<kindT b):=by
 have e1:=(List.getElem?_eq_some_iff.1 ha);have e2:=(List.getElem?_eq_some_iff.1 hb);obtain⟨h1,e1⟩:=e1;obtain⟨h2,e2⟩:=e2;rw [List.drop_eq_getElem_cons h1,List.drop_eq_getElem_cons h2,e1,e2];rfl
theorem rbetter_any (ta tb:B) (ha:ta.length<4398046511104) (hb:tb.length<4398046511104) (w:World):Calls Tryz.prog 73 #[.string (str (47::ta)),.string (str (47::tb))] w fun e w'=>e= .returned (.bool (betterT (cutT ta) (cutT tb)))∧Below w.heap.size w w':=by
 have HSa:=hid (fun W:World=>rsplit_yes ta ha W);have HSb:=hid (fun W:World=>rsplit_yes tb hb W);have HXa:=hid (show ∀ x∈cutT ta,x.length≤4398046511104 from fun x h=>Nat.le_trans (cutT_mem_len h) (by omega));have HXb:=hid (show ∀ x∈cutT tb,x.length≤4398046511104 from fun x h=>Nat.le_trans (cutT_mem_len h) (by omega));have hla:=cutT_len ta;have hlb:=cutT_len tb;have HKi:=hid (fun (x:B) (hx:x.length≤4398046511104) (W:World)=>rkind_any x hx W);obtain⟨x,hx⟩:∃ x,cutT ta=x:=⟨_,rfl⟩;obtain⟨y,hy⟩:∃ y,cutT tb=y:=⟨_,rfl⟩;rw [hx] at HSa HXa hla ⊢;rw [hy] at HSb HXb hlb ⊢;obtain⟨A,hA⟩:∃ A,str (47::ta)=A:=⟨_,rfl⟩;obtain⟨C,hC⟩:∃ C,str (47::tb)=C:=⟨_,rfl⟩;rw [hA] at HSa ⊢;rw [hC] at HSb ⊢;obtain⟨n,hn⟩:∃ n,x.length=n:=⟨_,rfl⟩;obtain⟨m,hm⟩:∃ m,y.length=m:=⟨_,rfl⟩;have HN:=hid hn;have HM:=hid hm;rw [hn] at HSa hla;rw [hm] at HSb hlb;have hnn:n≤4398046511104:=by omega
 have hmm:m≤4398046511104:=by omega
 clear hx hy hA hC hn hm ha hb hla hlb;go_enter Tryz.func73,Tryz.ntmps73;go_wp2_with (go_at_call 53;first|((with_reducible refine(HSa.out _).mono ?_);rintro e w1 ⟨p1,c1,rfl,ho,hb⟩;have HT1:=hid ho.tx;have HB1:=hid hb;clear ho hb HSa)|((with_reducible refine(HSb.out _).mono ?_);rintro e w2 ⟨p2,c2,rfl,ho,hb⟩;have HT2:=hid ho.tx;have HT3:=hid (HT1.out.next hb);have HB2:=hid (below_out HB1.out hb);clear ho hb HSb HT1 HB1));go_loopg [9] (n+1) (fun gk s9 wr=>∃ i:Nat,i≤n∧i≤m∧gk=n-i+1∧s9= .int .i64 (i:Int)∧betterT x y=betterT (x.drop i) (y.drop i)∧Below w2.heap.size w2 wr)
 case atStart=>exact⟨0,by omega,by omega,rfl,rfl,rfl,Below.refl _ _⟩
 case round=>
  obtain⟨i,hi,hi',rfl,rfl,hE,hb⟩:=hrel;have HE:=hid hE;have HB:=hid hb;clear hE hb;by_cases hin:i<n
  · by_cases him:i<m
    · have h1:i<x.length:=by rw [HN.out];exact hin
      have h2:i<y.length:=by rw [HM.out];exact him
      obtain⟨a,ha⟩:∃ a,x[i]?=some a:=⟨_,List.getElem?_eq_getElem h1⟩;obtain⟨b,hb⟩:∃ b,y[i]?=some b:=⟨_,List.getElem?_eq_getElem h2⟩;obtain⟨g1,o1,rfl,q1⟩:=(HT3.out.next HB.out) i a ha;obtain⟨g2,o2,rfl,q2⟩:=(HT2.out.next HB.out) i b hb;have HSt:=hid (better_step ha hb);have HKa:=hid (fun W:World=>HKi.out a (HXa.out a (List.mem_of_getElem? ha)) W);have HKb:=hid (fun W:World=>HKi.out b (HXb.out b (List.mem_of_getElem? hb)) W);obtain⟨Ka,hKa⟩:∃ K,kindT a=K:=⟨_,rfl⟩;obtain⟨Kb,hKb⟩:∃ K,kindT b=K:=⟨_,rfl⟩;have hka2:=kindT_le a;have hkb2:=kindT_le b;obtain⟨Sa,hSa⟩:∃ S,str a=S:=⟨_,rfl⟩;obtain⟨Sb,hSb⟩:∃ S,str b=S:=⟨_,rfl⟩;rw [hKa] at HKa HSt hka2;rw [hKb] at HKb HSt hkb2;rw [hSa] at HKa q1;rw [hSb] at HKb q2;clear h1 h2 ha hb hKa hKb hSa hSb;by_cases hk:Ka=Kb
      · subst hk;rw [if_pos rfl] at HSt;go_wp2;go_quiet ((go_at_call 62;first|(with_reducible exact Calls.quiet_of_same (HKa.out _))|(with_reducible exact Calls.quiet_of_same (HKb.out _))));go_wp2;go_roundg (n-(i+1)+1)
        case measure=>omega
        case rel=>exact⟨i+1,by omega,by omega,rfl,by push_cast;go_num,HE.out.trans HSt.out,HB.out.trans ((below_drewT _ _).mono HB.out.size)⟩
      · have hk1:¬(Ka:Int)=(Kb:Int):=by omega
        have hk2:((Ka:Int)== (Kb:Int))=false:=by simp;omega
        have hk3:((Ka:Int) != (Kb:Int))=true:=by simp;omega
        rw [if_neg hk] at HSt;go_wp2;go_quiet ((go_at_call 62;first|(with_reducible exact Calls.quiet_of_same (HKa.out _))|(with_reducible exact Calls.quiet_of_same (HKb.out _))));go_wp2;obtain⟨w5,hw5⟩:∃ w5,wr.drewN nq=w5:=⟨_,rfl⟩;have q3:w5.cell? ⟨g1,o1+i,none⟩=some (.string Sa):=by rw [←hw5];exact q1
        have q4:w5.cell? ⟨g2,o2+i,none⟩=some (.string Sb):=by rw [←hw5];exact q2
        have HB5:=hid (show Below w2.heap.size w2 w5 from by rw [←hw5];exact HB.out.trans ((below_drewT _ _).mono HB.out.size));rw [hw5];clear hw5 q1 q2 HB;go_quiet ((go_at_call 62;first|(with_reducible exact Calls.quiet_of_same (HKa.out _))|(with_reducible exact Calls.quiet_of_same (HKb.out _))));go_wp2;go_ret;refine⟨?_,below_out HB2.out (HB5.out.trans ((below_drewT _ _).mono HB5.out.size))⟩;rw [HE.out,HSt.out];simp
    · obtain rfl:m=i:=by omega
      have HV:=hid (show betterT (x.drop m) (y.drop m)=false from by
       rw [List.drop_of_length_le (l:=y) (by rw [HM.out];exact Nat.le_refl _)];cases x.drop m <;> rfl)
      go_wp2;go_ret;exact⟨by rw [HE.out,HV.out];rfl,below_out HB2.out HB.out⟩
  · obtain rfl:n=i:=by omega
    have HV:=hid (show betterT (x.drop n) (y.drop n)=false from by
     rw [List.drop_of_length_le (l:=x) (by rw [HN.out];exact Nat.le_refl _)];rfl)
    go_wp2;go_ret;exact⟨by rw [HE.out,HV.out];rfl,below_out HB2.out HB.out⟩
theorem alike_len:∀ {x y:List B},alikeT x y=true→x.length=y.length
 | [],[],_=>rfl
 | [],_::_,h=>by simp [alikeT] at h
 |_::_,[],h=>by simp [alikeT] at h
 |a::x,b::y,h=>by
  unfold alikeT at h;rw [Bool.and_eq_true] at h;rw [List.length_cons,List.length_cons,alike_len h.2]
theorem alike_step {x y:List B}{i:Nat}{a b:B} (ha:x[i]?=some a) (hb:y[i]?=some b):alikeT (x.drop i) (y.drop i)=(decide (kindT a=kindT b) && (decide (kindT a≠0) || decide (a=b)) && alikeT (x.drop (i+1)) (y.drop (i+1))):=by
 obtain⟨h1,e1⟩:=(List.getElem?_eq_some_iff.1 ha);obtain⟨h2,e2⟩:=(List.getElem?_eq_some_iff.1 hb);rw [List.drop_eq_getElem_cons h1,List.drop_eq_getElem_cons h2,e1,e2];rfl
theorem str_injT {a b:B} (h:str a=str b):a=b:=by
 have:=congrArg (fun s:ByteArray=>s.data.toList) h;simpa [str] using this
theorem ralike_any (ta tb:B) (ha:ta.length<4398046511104) (hb:tb.length<4398046511104) (w:World):Calls Tryz.prog 138 #[.string (str (47::ta)),.string (str (47::tb))] w fun e w'=>e= .returned (.bool (alikeT (cutT ta) (cutT tb)))∧Below w.heap.size w w':=by
 have HSa:=hid (fun W:World=>rsplit_yes ta ha W);have HSb:=hid (fun W:World=>rsplit_yes tb hb W);have HXa:=hid (show ∀ x∈cutT ta,x.length≤4398046511104 from fun x h=>Nat.le_trans (cutT_mem_len h) (by omega));have HXb:=hid (show ∀ x∈cutT tb,x.length≤4398046511104 from fun x h=>Nat.le_trans (cutT_mem_len h) (by omega));have hla:=cutT_len ta;have hlb:=cutT_len tb;have HKi:=hid (fun (x:B) (hx:x.length≤4398046511104) (W:World)=>rkind_any x hx W);obtain⟨x,hx⟩:∃ x,cutT ta=x:=⟨_,rfl⟩;obtain⟨y,hy⟩:∃ y,cutT tb=y:=⟨_,rfl⟩;rw [hx] at HSa HXa hla ⊢;rw [hy] at HSb HXb hlb ⊢;obtain⟨A,hA⟩:∃ A,str (47::ta)=A:=⟨_,rfl⟩;obtain⟨C,hC⟩:∃ C,str (47::tb)=C:=⟨_,rfl⟩;rw [hA] at HSa ⊢;rw [hC] at HSb ⊢;obtain⟨n,hn⟩:∃ n,x.length=n:=⟨_,rfl⟩;obtain⟨m,hm⟩:∃ m,y.length=m:=⟨_,rfl⟩;have HN:=hid hn;have HM:=hid hm;rw [hn] at HSa hla;rw [hm] at HSb hlb;have hnn:n≤4398046511104:=by omega
 have hmm:m≤4398046511104:=by omega
 clear hx hy hA hC hn hm ha hb hla hlb;by_cases hnm:n=m
 case neg=>
  have HV:=hid (show alikeT x y=false from by
   cases h:alikeT x y with
   |false=>rfl
   |true=>exact absurd (by have:=alike_len h;rw [HN.out,HM.out] at this;exact this) hnm)
  have hz1:¬(n:Int)=(m:Int):=by omega
  have hz2:((n:Int) != (m:Int))=true:=by simp;omega
  have hz3:((n:Int)== (m:Int))=false:=by simp;omega
  rw [HV.out];go_enter Tryz.func138,Tryz.ntmps138;go_wp2_with (go_at_call 53;first|((with_reducible refine(HSa.out _).mono ?_);rintro e w1 ⟨p1,c1,rfl,ho,hb⟩;have HT1:=hid ho.tx;have HB1:=hid hb;clear ho hb HSa)|((with_reducible refine(HSb.out _).mono ?_);rintro e w2 ⟨p2,c2,rfl,ho,hb⟩;have HT2:=hid ho.tx;have HT3:=hid (HT1.out.next hb);have HB2:=hid (below_out HB1.out hb);clear ho hb HSb HT1 HB1));go_ret;exact⟨rfl,HB2.out⟩
 subst hnm;go_enter Tryz.func138,Tryz.ntmps138;go_wp2_with (go_at_call 53;first|((with_reducible refine(HSa.out _).mono ?_);rintro e w1 ⟨p1,c1,rfl,ho,hb⟩;have HT1:=hid ho.tx;have HB1:=hid hb;clear ho hb HSa)|((with_reducible refine(HSb.out _).mono ?_);rintro e w2 ⟨p2,c2,rfl,ho,hb⟩;have HT2:=hid ho.tx;have HT3:=hid (HT1.out.next hb);have HB2:=hid (below_out HB1.out hb);clear ho hb HSb HT1 HB1));go_loopg [9] (n+1) (fun gk s9 wr=>∃ i:Nat,i≤n∧gk=n-i+1∧s9= .int .i64 (i:Int)∧alikeT x y=alikeT (x.drop i) (y.drop i)∧Below w2.heap.size w2 wr)
 case atStart=>exact⟨0,by omega,rfl,rfl,rfl,Below.refl _ _⟩
 case round=>
  obtain⟨i,hi,rfl,rfl,hE,hb⟩:=hrel;have HE:=hid hE;have HB:=hid hb;clear hE hb;by_cases hin:i<n
  · have h1:i<x.length:=by rw [HN.out];exact hin
    have h2:i<y.length:=by rw [HM.out];exact hin
    obtain⟨a,ha⟩:∃ a,x[i]?=some a:=⟨_,List.getElem?_eq_getElem h1⟩;obtain⟨b,hb⟩:∃ b,y[i]?=some b:=⟨_,List.getElem?_eq_getElem h2⟩;obtain⟨g1,o1,rfl,q1⟩:=(HT3.out.next HB.out) i a ha;obtain⟨g2,o2,rfl,q2⟩:=(HT2.out.next HB.out) i b hb;have HSt:=hid (alike_step ha hb);have HKa:=hid (fun W:World=>HKi.out a (HXa.out a (List.mem_of_getElem? ha)) W);have HKb:=hid (fun W:World=>HKi.out b (HXb.out b (List.mem_of_getElem? hb)) W);obtain⟨Ka,hKa⟩:∃ K,kindT a=K:=⟨_,rfl⟩;obtain⟨Kb,hKb⟩:∃ K,kindT b=K:=⟨_,rfl⟩;have hka2:=kindT_le a;have hkb2:=kindT_le b;obtain⟨Sa,hSa⟩:∃ S,str a=S:=⟨_,rfl⟩;obtain⟨Sb,hSb⟩:∃ S,str b=S:=⟨_,rfl⟩;have HIn:=hid (show Sa=Sb→a=b from fun h=>str_injT (by rw [hSa,hSb];exact h));have HIn2:=hid (show a=b→Sa=Sb from fun h=>by rw [←hSa,←hSb,h]);rw [hKa] at HKa HSt hka2;rw [hKb] at HKb HSt hkb2;rw [hSa] at HKa q1;rw [hSb] at HKb q2;clear h1 h2 ha hb hKa hKb hSa hSb;by_cases hk:Ka=Kb
    · subst hk;rw [decide_eq_true (rfl:Ka=Ka),Bool.true_and] at HSt;by_cases h0:Ka=0
      · subst h0;by_cases hab:a=b
        · have hS:=HIn2.out hab;subst hS;rw [decide_eq_true hab,Bool.or_true,Bool.true_and] at HSt;clear hab;go_wp2;go_quiet ((go_at_call 62;first|(with_reducible exact Calls.quiet_of_same (HKa.out _))|(with_reducible exact Calls.quiet_of_same (HKb.out _))));go_wp2;go_roundg (n-(i+1)+1)
          case measure=>omega
          case rel=>exact⟨i+1,by omega,rfl,by push_cast;go_num,HE.out.trans HSt.out,HB.out.trans ((below_drewT _ _).mono HB.out.size)⟩
        · have hS:¬Sa=Sb:=fun h=>hab (HIn.out h)
          have hS4:(Sa.toList== Sb.toList)=false:=ne_list hS;have hS5:(!Sa.toList== Sb.toList)=true:=by rw [hS4];rfl
          rw [decide_eq_false hab,Bool.or_false,show decide ((0:Nat)≠0)=false from rfl,Bool.false_and] at HSt;clear hab;go_wp2;go_quiet ((go_at_call 62;first|(with_reducible exact Calls.quiet_of_same (HKa.out _))|(with_reducible exact Calls.quiet_of_same (HKb.out _))));go_wp2;go_ret;exact⟨by rw [HE.out,HSt.out];rfl,below_out HB2.out (HB.out.trans ((below_drewT _ _).mono HB.out.size))⟩
      · have hk1:¬(Ka:Int)=0:=by omega
        have hk2:((Ka:Int)== 0)=false:=by simp;omega
        rw [decide_eq_true h0,Bool.true_or,Bool.true_and] at HSt;go_wp2;go_quiet ((go_at_call 62;first|(with_reducible exact Calls.quiet_of_same (HKa.out _))|(with_reducible exact Calls.quiet_of_same (HKb.out _))));go_wp2;go_roundg (n-(i+1)+1)
        case measure=>omega
        case rel=>exact⟨i+1,by omega,rfl,by push_cast;go_num,HE.out.trans HSt.out,HB.out.trans ((below_drewT _ _).mono HB.out.size)⟩
    · have hk1:¬(Ka:Int)=(Kb:Int):=by omega
      have hk2:((Ka:Int)== (Kb:Int))=false:=by simp;omega
      have hk3:((Ka:Int) != (Kb:Int))=true:=by simp;omega
      rw [decide_eq_false hk,Bool.false_and,Bool.false_and] at HSt;go_wp2;go_quiet ((go_at_call 62;first|(with_reducible exact Calls.quiet_of_same (HKa.out _))|(with_reducible exact Calls.quiet_of_same (HKb.out _))));go_wp2;go_ret;exact⟨by rw [HE.out,HSt.out];rfl,below_out HB2.out (HB.out.trans ((below_drewT _ _).mono HB.out.size))⟩
  · obtain rfl:n=i:=by omega
    have HV:=hid (show alikeT (x.drop n) (y.drop n)=true from by
     rw [List.drop_of_length_le (l:=x) (by rw [HN.out];exact Nat.le_refl _),List.drop_of_length_le (l:=y) (by rw [HM.out];exact Nat.le_refl _)];rfl)
    go_wp2;go_ret;exact⟨by rw [HE.out,HV.out];rfl,below_out HB2.out HB.out⟩
end Go.Proofs.YtlmlljlappjjjaaGreatDoor
