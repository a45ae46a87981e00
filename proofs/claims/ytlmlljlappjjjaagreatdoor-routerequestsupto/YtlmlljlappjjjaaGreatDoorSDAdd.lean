/- Beats of the program and of the document; what must come whatever the input is. -/
import Derived.Test.YtlmlljlappjjjaaGreatDoorTLaw
namespace Go.Proofs.YtlmlljlappjjjaaGreatDoor
set_option maxRecDepth 20000
set_option maxHeartbeats 16000000
open Go.RowKit
theorem rfits_none {pa path:B} (ha:pa.length≤4398046511104) (hp:path.length≤4294967280) (h:fitsO pa path=none) (w:World) (_:MxAt w):Calls Tryz.prog 22 #[.string (str pa),.string (str path)] w fun e w'=>(∃ v,e= .returned (.tuple #[.bool false,v,.int .i64 3]))∧Below w.heap.size w w':=by
 refine(rfitsO_any pa path ha hp w).mono ?_;rw [h];rintro e w' ⟨hb,he⟩;exact⟨⟨_,he⟩,hb⟩
theorem rfits_no {pa path:B} (ha:pa.length≤4398046511104) (hp:path.length≤4294967280) (h:fitsO pa path=some none) (w:World) (_:MxAt w):Calls Tryz.prog 22 #[.string (str pa),.string (str path)] w fun e w'=>(∃ v,e= .returned (.tuple #[.bool false,v,.int .i64 0]))∧Below w.heap.size w w':=by
 refine(rfitsO_any pa path ha hp w).mono ?_;rw [h];rintro e w' ⟨hb,he⟩;exact⟨⟨_,he⟩,hb⟩
theorem rfits_yes {pa path:B}{F:List (B×B)} (ha:pa.length≤4398046511104) (hp:path.length≤4294967280) (h:fitsO pa path=some (some F)) (w:World) (_:MxAt w):Calls Tryz.prog 22 #[.string (str pa),.string (str path)] w fun e w'=>(∃ v,e= .returned (.tuple #[.bool true,v,.int .i64 0]))∧Below w.heap.size w w':=by
 refine(rfitsO_any pa path ha hp w).mono ?_;rw [h];rintro e w' ⟨hb,q,d,he,_⟩;exact⟨⟨_,he⟩,hb⟩
theorem fitsO_check {a path:B}{o:Option (List (B×B))} (h:fitsO a path=some o):checkP a=true:=by
 unfold fitsO at h;cases hc:checkP a with
 |true=>rfl
 |false=>rw [hc] at h;cases h
theorem rbetter_yes {pa pb:B} (ha:checkP pa=true) (hb:checkP pb=true) (w:World) (_:MxAt w):Calls Tryz.prog 73 #[.string (str pa),.string (str pb)] w fun e w'=>e= .returned (.bool (betterT (cutT pa.tail) (cutT pb.tail)))∧Below w.heap.size w w':=by
 obtain⟨ta,rfl,_,h1,_⟩:=check_parts ha;obtain⟨tb,rfl,_,h2,_⟩:=check_parts hb;simp at h1 h2;exact rbetter_any ta tb (by omega) (by omega) w
theorem rbeats_any (a b path:B) (ha:a.length≤4398046511104) (hb:b.length≤4398046511104) (hp:path.length≤4294967280) (w:World) (hmx:MxAt w):Calls Tryz.prog 38 #[.string (str a),.string (str b),.string (str path)] w fun e w'=>e= .returned (.tuple #[.bool (beatsO a b path).1,.int .i64 ((beatsO a b path).2:Int)])∧Below w.heap.size w w':=by
 have HMx:=hid hmx;obtain⟨SA,hSA⟩:∃ S,str a=S:=⟨_,rfl⟩;obtain⟨SB,hSB⟩:∃ S,str b=S:=⟨_,rfl⟩;obtain⟨SP,hSP⟩:∃ S,str path=S:=⟨_,rfl⟩;rcases ho:fitsO a path with _|(_|F)
 · rcases hq:fitsO b path with _|(_|F2)
   · have e1:beatsO a b path=(false,3):=by unfold beatsO;rw [ho,hq]
     have H1:=hid (fun (W:World) (h:MxAt W)=>rfits_none ha hp ho W h);have H2:=hid (fun (W:World) (h:MxAt W)=>rfits_none hb hp hq W h);rw [e1];dsimp only;rw [hSA,hSP] at H1;rw [hSB,hSP] at H2;rw [hSA,hSB,hSP];clear hSA hSB hSP ho hq e1 ha hb hp hmx;go_enter Tryz.func38,Tryz.ntmps38;go_wp2_with (first|(go_at_call 22;first|((with_reducible refine(H1.out _ HMx.out).mono ?_);rintro e w1 ⟨⟨v1,rfl⟩,hb1⟩;have HB1:=hid hb1;have HM1:=hid (HMx.out.next hb1);clear hb1 H1)|((with_reducible refine(H2.out _ HM1.out).mono ?_);rintro e w2 ⟨⟨v2,rfl⟩,hb2⟩;have HB2:=hid (below_out HB1.out hb2);have HM2:=hid (HM1.out.next hb2);clear hb2 H2))|(go_at_call 73;(with_reducible refine(H3.out _ HM2.out).mono ?_);rintro e w3 ⟨rfl,hb3⟩;have HB3:=hid (below_out HB2.out hb3);clear hb3));go_ret2;exact⟨rfl,HB2.out⟩
   · have e1:beatsO a b path=(false,3):=by unfold beatsO;rw [ho,hq]
     have H1:=hid (fun (W:World) (h:MxAt W)=>rfits_none ha hp ho W h);have H2:=hid (fun (W:World) (h:MxAt W)=>rfits_no hb hp hq W h);rw [e1];dsimp only;rw [hSA,hSP] at H1;rw [hSB,hSP] at H2;rw [hSA,hSB,hSP];clear hSA hSB hSP ho hq e1 ha hb hp hmx;go_enter Tryz.func38,Tryz.ntmps38;go_wp2_with (first|(go_at_call 22;first|((with_reducible refine(H1.out _ HMx.out).mono ?_);rintro e w1 ⟨⟨v1,rfl⟩,hb1⟩;have HB1:=hid hb1;have HM1:=hid (HMx.out.next hb1);clear hb1 H1)|((with_reducible refine(H2.out _ HM1.out).mono ?_);rintro e w2 ⟨⟨v2,rfl⟩,hb2⟩;have HB2:=hid (below_out HB1.out hb2);have HM2:=hid (HM1.out.next hb2);clear hb2 H2))|(go_at_call 73;(with_reducible refine(H3.out _ HM2.out).mono ?_);rintro e w3 ⟨rfl,hb3⟩;have HB3:=hid (below_out HB2.out hb3);clear hb3));go_ret2;exact⟨rfl,HB2.out⟩
   · have e1:beatsO a b path=(false,3):=by unfold beatsO;rw [ho,hq]
     have H1:=hid (fun (W:World) (h:MxAt W)=>rfits_none ha hp ho W h);have H2:=hid (fun (W:World) (h:MxAt W)=>rfits_yes hb hp hq W h);rw [e1];dsimp only;rw [hSA,hSP] at H1;rw [hSB,hSP] at H2;rw [hSA,hSB,hSP];clear hSA hSB hSP ho hq e1 ha hb hp hmx;go_enter Tryz.func38,Tryz.ntmps38;go_wp2_with (first|(go_at_call 22;first|((with_reducible refine(H1.out _ HMx.out).mono ?_);rintro e w1 ⟨⟨v1,rfl⟩,hb1⟩;have HB1:=hid hb1;have HM1:=hid (HMx.out.next hb1);clear hb1 H1)|((with_reducible refine(H2.out _ HM1.out).mono ?_);rintro e w2 ⟨⟨v2,rfl⟩,hb2⟩;have HB2:=hid (below_out HB1.out hb2);have HM2:=hid (HM1.out.next hb2);clear hb2 H2))|(go_at_call 73;(with_reducible refine(H3.out _ HM2.out).mono ?_);rintro e w3 ⟨rfl,hb3⟩;have HB3:=hid (below_out HB2.out hb3);clear hb3));go_ret2;exact⟨rfl,HB2.out⟩
 · rcases hq:fitsO b path with _|(_|F2)
   · have e1:beatsO a b path=(false,3):=by unfold beatsO;rw [ho,hq]
     have H1:=hid (fun (W:World) (h:MxAt W)=>rfits_no ha hp ho W h);have H2:=hid (fun (W:World) (h:MxAt W)=>rfits_none hb hp hq W h);rw [e1];dsimp only;rw [hSA,hSP] at H1;rw [hSB,hSP] at H2;rw [hSA,hSB,hSP];clear hSA hSB hSP ho hq e1 ha hb hp hmx;go_enter Tryz.func38,Tryz.ntmps38;go_wp2_with (first|(go_at_call 22;first|((with_reducible refine(H1.out _ HMx.out).mono ?_);rintro e w1 ⟨⟨v1,rfl⟩,hb1⟩;have HB1:=hid hb1;have HM1:=hid (HMx.out.next hb1);clear hb1 H1)|((with_reducible refine(H2.out _ HM1.out).mono ?_);rintro e w2 ⟨⟨v2,rfl⟩,hb2⟩;have HB2:=hid (below_out HB1.out hb2);have HM2:=hid (HM1.out.next hb2);clear hb2 H2))|(go_at_call 73;(with_reducible refine(H3.out _ HM2.out).mono ?_);rintro e w3 ⟨rfl,hb3⟩;have HB3:=hid (below_out HB2.out hb3);clear hb3));go_ret2;exact⟨rfl,HB2.out⟩
   · have e1:beatsO a b path=(false,8):=by unfold beatsO;rw [ho,hq]
     have H1:=hid (fun (W:World) (h:MxAt W)=>rfits_no ha hp ho W h);have H2:=hid (fun (W:World) (h:MxAt W)=>rfits_no hb hp hq W h);rw [e1];dsimp only;rw [hSA,hSP] at H1;rw [hSB,hSP] at H2;rw [hSA,hSB,hSP];clear hSA hSB hSP ho hq e1 ha hb hp hmx;go_enter Tryz.func38,Tryz.ntmps38;go_wp2_with (first|(go_at_call 22;first|((with_reducible refine(H1.out _ HMx.out).mono ?_);rintro e w1 ⟨⟨v1,rfl⟩,hb1⟩;have HB1:=hid hb1;have HM1:=hid (HMx.out.next hb1);clear hb1 H1)|((with_reducible refine(H2.out _ HM1.out).mono ?_);rintro e w2 ⟨⟨v2,rfl⟩,hb2⟩;have HB2:=hid (below_out HB1.out hb2);have HM2:=hid (HM1.out.next hb2);clear hb2 H2))|(go_at_call 73;(with_reducible refine(H3.out _ HM2.out).mono ?_);rintro e w3 ⟨rfl,hb3⟩;have HB3:=hid (below_out HB2.out hb3);clear hb3));go_ret2;exact⟨rfl,HB2.out⟩
   · have e1:beatsO a b path=(false,8):=by unfold beatsO;rw [ho,hq]
     have H1:=hid (fun (W:World) (h:MxAt W)=>rfits_no ha hp ho W h);have H2:=hid (fun (W:World) (h:MxAt W)=>rfits_yes hb hp hq W h);rw [e1];dsimp only;rw [hSA,hSP] at H1;rw [hSB,hSP] at H2;rw [hSA,hSB,hSP];clear hSA hSB hSP ho hq e1 ha hb hp hmx;go_enter Tryz.func38,Tryz.ntmps38;go_wp2_with (first|(go_at_call 22;first|((with_reducible refine(H1.out _ HMx.out).mono ?_);rintro e w1 ⟨⟨v1,rfl⟩,hb1⟩;have HB1:=hid hb1;have HM1:=hid (HMx.out.next hb1);clear hb1 H1)|((with_reducible refine(H2.out _ HM1.out).mono ?_);rintro e w2 ⟨⟨v2,rfl⟩,hb2⟩;have HB2:=hid (below_out HB1.out hb2);have HM2:=hid (HM1.out.next hb2);clear hb2 H2))|(go_at_call 73;(with_reducible refine(H3.out _ HM2.out).mono ?_);rintro e w3 ⟨rfl,hb3⟩;have HB3:=hid (below_out HB2.out hb3);clear hb3));go_ret2;exact⟨rfl,HB2.out⟩
 · rcases hq:fitsO b path with _|(_|F2)
   · have e1:beatsO a b path=(false,3):=by unfold beatsO;rw [ho,hq]
     have H1:=hid (fun (W:World) (h:MxAt W)=>rfits_yes ha hp ho W h);have H2:=hid (fun (W:World) (h:MxAt W)=>rfits_none hb hp hq W h);rw [e1];dsimp only;rw [hSA,hSP] at H1;rw [hSB,hSP] at H2;rw [hSA,hSB,hSP];clear hSA hSB hSP ho hq e1 ha hb hp hmx;go_enter Tryz.func38,Tryz.ntmps38;go_wp2_with (first|(go_at_call 22;first|((with_reducible refine(H1.out _ HMx.out).mono ?_);rintro e w1 ⟨⟨v1,rfl⟩,hb1⟩;have HB1:=hid hb1;have HM1:=hid (HMx.out.next hb1);clear hb1 H1)|((with_reducible refine(H2.out _ HM1.out).mono ?_);rintro e w2 ⟨⟨v2,rfl⟩,hb2⟩;have HB2:=hid (below_out HB1.out hb2);have HM2:=hid (HM1.out.next hb2);clear hb2 H2))|(go_at_call 73;(with_reducible refine(H3.out _ HM2.out).mono ?_);rintro e w3 ⟨rfl,hb3⟩;have HB3:=hid (below_out HB2.out hb3);clear hb3));go_ret2;exact⟨rfl,HB2.out⟩
   · have e1:beatsO a b path=(false,8):=by unfold beatsO;rw [ho,hq]
     have H1:=hid (fun (W:World) (h:MxAt W)=>rfits_yes ha hp ho W h);have H2:=hid (fun (W:World) (h:MxAt W)=>rfits_no hb hp hq W h);rw [e1];dsimp only;rw [hSA,hSP] at H1;rw [hSB,hSP] at H2;rw [hSA,hSB,hSP];clear hSA hSB hSP ho hq e1 ha hb hp hmx;go_enter Tryz.func38,Tryz.ntmps38;go_wp2_with (first|(go_at_call 22;first|((with_reducible refine(H1.out _ HMx.out).mono ?_);rintro e w1 ⟨⟨v1,rfl⟩,hb1⟩;have HB1:=hid hb1;have HM1:=hid (HMx.out.next hb1);clear hb1 H1)|((with_reducible refine(H2.out _ HM1.out).mono ?_);rintro e w2 ⟨⟨v2,rfl⟩,hb2⟩;have HB2:=hid (below_out HB1.out hb2);have HM2:=hid (HM1.out.next hb2);clear hb2 H2))|(go_at_call 73;(with_reducible refine(H3.out _ HM2.out).mono ?_);rintro e w3 ⟨rfl,hb3⟩;have HB3:=hid (below_out HB2.out hb3);clear hb3));go_ret2;exact⟨rfl,HB2.out⟩
   · have e1:beatsO a b path=(betterT (cutT a.tail) (cutT b.tail),0):=by unfold beatsO;rw [ho,hq]
     have H1:=hid (fun (W:World) (h:MxAt W)=>rfits_yes ha hp ho W h);have H2:=hid (fun (W:World) (h:MxAt W)=>rfits_yes hb hp hq W h);have H3:=hid (fun (W:World) (h:MxAt W)=>rbetter_yes (fitsO_check ho) (fitsO_check hq) W h);rw [hSA,hSB] at H3;rw [e1];dsimp only;rw [hSA,hSP] at H1;rw [hSB,hSP] at H2;rw [hSA,hSB,hSP];obtain⟨bb,hbb⟩:∃ x,betterT (cutT a.tail) (cutT b.tail)=x:=⟨_,rfl⟩;rw [hbb] at H3 ⊢;clear hbb;clear hSA hSB hSP ho hq e1 ha hb hp hmx;go_enter Tryz.func38,Tryz.ntmps38;go_wp2_with (first|(go_at_call 22;first|((with_reducible refine(H1.out _ HMx.out).mono ?_);rintro e w1 ⟨⟨v1,rfl⟩,hb1⟩;have HB1:=hid hb1;have HM1:=hid (HMx.out.next hb1);clear hb1 H1)|((with_reducible refine(H2.out _ HM1.out).mono ?_);rintro e w2 ⟨⟨v2,rfl⟩,hb2⟩;have HB2:=hid (below_out HB1.out hb2);have HM2:=hid (HM1.out.next hb2);clear hb2 H2))|(go_at_call 73;(with_reducible refine(H3.out _ HM2.out).mono ?_);rintro e w3 ⟨rfl,hb3⟩;have HB3:=hid (below_out HB2.out hb3);clear hb3));go_ret2;exact⟨rfl,HB3.out⟩
theorem mx_below {w w':World}{b:Nat} (h:MxAt w) (hb:Below b w w') (hl:0<b):MxAt w':=by
 obtain⟨m,h⟩:=h;exact⟨m,cell_same h (hb.block _ hl)⟩
def TrX (w:World) (X:Nat→Prop) (t:Nat) (P:List (B×Int)) (M:Nat):Prop:=∃ G es v,Tr w t P M G es v∧∀ i,Ft_r G es v i→X i
theorem TrX.keep {w w':World}{X:Nat→Prop}{t:Nat}{P:List (B×Int)}{M:Nat} (h:TrX w X t P M) (hk:∀ i,X i→i<w.heap.size→w'.heap[i]?=w.heap[i]?):TrX w' X t P M:=by
 obtain⟨G,es,v,h1,h2⟩:=h;exact⟨G,es,v,h1.keep (fun i hi hl=>hk i (h2 i hi) hl),h2⟩
theorem addX_any_r {w:World}{X:Nat→Prop}{t:Nat}{P:List (B×Int)}{M:Nat} (h:TrX w X t P M) (hmx:MxAt w) (hM:M+64<1000000) (hP:P.length≤1000000) (p:B) (hp:p.length≤140737488355328) (id:Int):
  Calls Tryz.prog 60 #[.pointer (some ⟨t,0,none⟩),.string (str p),.int .i64 id] w fun e w'=>e= .returned (errOf (addE_r P p))∧TrX w' (fun i=>X i∨(w.heap.size≤i∧i<w'.heap.size)) t (addP_r P p id) (M+64)∧Kept X w w':=by
 obtain⟨G,es,v,h1,h2⟩:=h;refine(add_any_r h1 hmx hM hP p hp id).mono ?_;rintro e w' ⟨he,G',es',v',k1,k2,k3⟩;exact⟨he,⟨G',es',v',k1,fun i hi=>(k3 i hi).elim (fun h=>.inl (h2 i h)) (fun e1=>.inr ⟨e1,k1.ft_lt hi⟩)⟩,k2.mono (fun i _ h=>h2 i h)⟩
def idxP (l:List B):List (B×Int):=l.zipIdx.map fun x=>(x.1,(x.2:Int))
theorem idxP_len (l:List B):(idxP l).length=l.length:=by simp [idxP]
theorem idxP_snoc (l:List B) (s:B):idxP (l++ [s])=idxP l++ [(s,(l.length:Int))]:=by
 unfold idxP;rw [List.zipIdx_append];simp
theorem idxP_at {l:List B}{i:Nat}{s:B} (h:l[i]?=some s):(idxP l)[i]?=some (s,(i:Int)):=by
 unfold idxP;rw [List.getElem?_map,List.getElem?_zipIdx,h];simp
theorem idxP_of {l:List B}{x:B×Int} (h:x∈idxP l):∃ i:Nat,l[i]?=some x.1∧x.2=(i:Int):=by
 obtain⟨i,hi⟩:=List.getElem?_of_mem h;have hl:i<l.length:=by have:=(List.getElem?_eq_some_iff.1 hi).1;rw [idxP_len] at this;exact this
 rw [idxP_at (List.getElem?_eq_getElem hl)] at hi;injection hi with hi
 exact⟨i,by rw [←hi];exact List.getElem?_eq_getElem hl,by rw [←hi]⟩
theorem fitsT_len:∀ (l r:List B) (F:List (B×B)),fitsT l r=some F→F.length≤l.length
 | [],[],F,h=>by simp [fitsT] at h;subst h;exact Nat.le_refl _
 | [],_::_,F,h=>by simp [fitsT] at h
 |_::_,[],F,h=>by simp [fitsT] at h
 |x::l,y::r,F,h=>by
  unfold fitsT at h;split at h
  · injection h with h;subst h;simp
  · split at h
    · split at h
      · cases h
      · cases hf:fitsT l r with
        |none=>rw [hf] at h;cases h
        |some F2=>
         rw [hf] at h;have:=fitsT_len l r F2 hf;injection h with h
         subst h;simp;omega
    · split at h
      · have:=fitsT_len l r F h;simp;omega
      · cases h
theorem fits_few {a path:B}{F:List (B×B)} (h:fitsO a path=some (some F)):F.length≤64:=by
 have hc:=fitsO_check h;obtain⟨t,e,h64,_⟩:=check_parts hc;unfold fitsO at h;split at h
 · injection h with h
   have:=fitsT_len _ _ F h;rw [e] at this;exact Nat.le_trans this h64
 · cases h
def PtAt (w:World) (p:Option Addr) (l:List (B×Int)):Prop:=∀ (j:Nat) (x:B×Int),l[j]?=some x→∃ g o,p=some ⟨g,o,none⟩∧w.cell? ⟨g,o+j*2,none⟩=some (.string (str x.1))∧w.cell? ⟨g,o+j*2+1,none⟩=some (.int .i64 x.2)
theorem PtAt.next {w w':World}{p:Option Addr}{l:List (B×Int)} (h:PtAt w p l) (hb:Below w.heap.size w w'):PtAt w' p l:=by
 intro j x hj;obtain⟨g,o,e,h1,h2⟩:=h j x hj;exact⟨g,o,e,cell_keep hb h1,cell_keep hb h2⟩
def patF (x:B×Int):List Value:=[.string (str x.1),.int .i64 x.2]
theorem patF_len (x:B×Int):(patF x).length=2:=rfl
abbrev OwnP:=OwnR 102 2 patF
theorem infoP:(Tryz.prog.info? 102).map (fun i=>(i.zero,i.size,i.bytes))=some (some (.agg #[.string ⟨#[]⟩,.int .i64 0]),2,24):=by kernel_rfl
theorem OwnP.pt {w:World}{b n c:Nat}{p:Option Addr}{l:List (B×Int)} (h:OwnP w b (.slice p n c) l):PtAt w p l:=by
 intro j x hj;obtain⟨g,e,hc⟩:=OwnR.at patF_len h hj;refine⟨g,0,e,?_,?_⟩
 · have:=hc 0 _ rfl;rw [Nat.zero_add,Nat.mul_comm];exact this
 · have:=hc 1 _ rfl;rw [Nat.zero_add,Nat.mul_comm];exact this
def RAddAns (P:List (B×Int)) (v:Value) (p:B) (id:Int) (w:World) (e:Ending) (w':World):Prop:=Below w.heap.size w w'∧((addE P p≠0∧e= .returned (.tuple #[v,.int .i64 (addE P p:Int)]))∨(addE P p=0∧∃ q d,e= .returned (.tuple #[.slice q (P.length+1) d,.int .i64 0])∧OwnP w' w.heap.size (.slice q (P.length+1) d) (P++ [(lowH p,id)])))
theorem radd_any (P:List (B×Int)) (hP:P.length≤1000000) (p:B) (hp:p.length≤9223372036854775807) (id:Int) (pr:Option Addr) (n c base:Nat) (hn:P.length=n) (w:World) (hR:OwnP w base (.slice pr n c) P):
  Calls Tryz.prog 35 #[.slice pr n c,.string (str p),.int .i64 id] w fun e w'=>RAddAns P (.slice pr n c) p id w e w':=by
 obtain⟨i0,hi0,hz0,hz1,hz2⟩:=info_parts infoP;have HCk:=hid (rcheckN p hp w);unfold checkN at HCk;obtain⟨S,hS⟩:∃ S,str p=S:=⟨_,rfl⟩;cases hc:patH p with
 |none=>
  have e1:addE P p=3:=by unfold addE;rw [hc];rfl
  have HFin:=hid (show ∀ W,Below w.heap.size w W→RAddAns P (.slice pr n c) p id w (.returned (.tuple #[.slice pr n c,.int .i64 3])) W from fun W hb=>⟨hb,.inl ⟨by rw [e1];decide,by rw [e1];rfl⟩⟩);rw [hc,if_neg (by decide),hS] at HCk;rw [show ((3:Nat):Int)=3 from rfl] at HCk;rw [hS];clear hS hc e1 hR;go_enter Tryz.func35,Tryz.ntmps35;go_wp2_with (go_at_call 27;(with_reducible refine HCk.out.mono ?_);rintro e w1 ⟨rfl,hb1⟩;have HB1:=hid hb1;clear hb1);go_ret2;exact HFin.out _ HB1.out
 |some xp=>
  rw [hc,if_pos (show (some xp).isSome=true from rfl)] at HCk;rw [show ((0:Nat):Int)=0 from rfl] at HCk;have eA:addE P p=if P.any (fun q=>decide (q.1=lowH p)) then 6 else if 64≤P.length then 9 else 0:=by unfold addE;rw [hc];rfl
  have HEA:=hid eA;have HLo:=hid (fun W:World=>by have h1:=rlower_any (str p) W (by rw [str_size];have:=pat_short hc;omega);rw [lowS_strH] at h1;exact h1);have HR:=hid hR;have HN:=hid hn;obtain⟨SL,hSL⟩:∃ S,str (lowH p)=S:=⟨_,rfl⟩;have HSL:=hid hSL;rw [hS] at HCk;rw [hS,hSL] at HLo;have HSs:=hid (show patF (lowH p,id)= [.string SL,.int .i64 id] from by unfold patF;rw [hSL]);rw [hS];clear hS hc eA hR hSL;have HP2:=hid hP;rw [hn] at hP;rw [hn] at HEA;clear hn;go_enter Tryz.func35,Tryz.ntmps35;go_wp2_with (go_at_call 27;(with_reducible refine HCk.out.mono ?_);rintro e w1 ⟨rfl,hb1⟩;have HB1:=hid hb1;have HR1:=hid (HR.out.keep hb1);clear hb1);go_loopg [8] (n+1) (fun gk s8 wr=>∃ i:Nat,i≤n∧gk=n-i+1∧s8= .int .i64 (i:Int)∧(P.take i).any (fun q=>decide (q.1=lowH p))=false∧Below w1.heap.size w1 wr)
  case atStart=>exact⟨0,by omega,rfl,rfl,rfl,Below.refl _ _⟩
  case round=>
   obtain⟨i,hi,rfl,rfl,hno,hb⟩:=hrel;have HNo:=hid hno;have HB:=hid hb;clear hno hb;by_cases hin:i<n
   · obtain⟨x,hx⟩:∃ x,P[i]?=some x:=⟨_,List.getElem?_eq_getElem (by rw [HN.out];exact hin)⟩;obtain⟨g,o,rfl,q1,q2⟩:=(OwnP.pt ((HR1.out.keep HB.out).keep (below_drewH wr 1))) i x hx;obtain⟨Sx,hSx⟩:∃ S,str x.1=S:=⟨_,rfl⟩;rw [hSx] at q1;clear q2;cases hk:decide (x.1=lowH p) with
     |true=>
      have e6:addE P p=6:=by rw [HEA.out,if_pos (List.any_eq_true.2 ⟨x,List.mem_of_getElem? hx,hk⟩)]
      have HFin:=hid (show ∀ W,Below w.heap.size w W→RAddAns P (.slice (some ⟨g,o,none⟩) n c) p id w (.returned (.tuple #[.slice (some ⟨g,o,none⟩) n c,.int .i64 6])) W from fun W hb=>⟨hb,.inl ⟨by rw [e6];decide,by rw [e6];rfl⟩⟩);obtain rfl:SL=Sx:=by rw [←hSx,of_decide_eq_true hk];exact HSL.out.symm
      have hS0a:wr.drew.cell? ⟨g,o+i*2,none⟩=some (.string SL):=q1;clear hx hSx hk e6 q1;go_wp2;refine wp_region_noPanic ?_;refine any_begin 8 (by kernel_rfl) (by kernel_rfl) ?_;refine late_begin (fun U=>U.cell? ⟨g,o+i*2,none⟩=some (.string SL)) (fun _=>false) hS0a (fun hS=>?_);refine ltk (i:=0) (some 20) rfl rfl (v:= ?v0a) ?hy0a hS ?rest0a
      case hy0a=>intro w0 hSw;(try dsimp only at hSw);go_simp;try with_reducible rfl
      simp only [Act.put,sA,sB,sC];refine ltk (i:=1) (some 21) rfl rfl (v:= ?v1a) ?hy1a hS ?rest1a
      case hy1a=>intro w0 hSw;(try dsimp only at hSw);go_simp;try with_reducible rfl
      simp only [Act.put,sA,sB,sC];refine ltk (i:=2) (some 22) rfl rfl (v:= ?v2a) ?hy2a hS ?rest2a
      case hy2a=>intro w0 hSw;(try dsimp only at hSw);go_simp;try with_reducible rfl
      simp only [Act.put,sA,sB,sC];refine ltk (i:=3) (some 23) rfl rfl (v:= ?v3a) ?hy3a hS ?rest3a
      case hy3a=>intro w0 hSw;(try dsimp only at hSw);go_simp;try with_reducible rfl
      simp only [Act.put,sA,sB,sC];refine ltk (i:=4) (some 24) rfl rfl (v:= ?v4a) ?hy4a hS ?rest4a
      case hy4a=>intro w0 hSw;(try dsimp only at hSw);go_simp;try with_reducible rfl
      simp only [Act.put,sA,sB,sC];refine ltk (i:=5) (some 25) rfl rfl (v:= ?v5a) ?hy5a hS ?rest5a
      case hy5a=>intro w0 hSw;(try dsimp only at hSw);go_simp;try with_reducible rfl
      simp only [Act.put,sA,sB,sC];refine wpAnyD_one (i:=6) (by kernel_rfl) rfl (fun K hK=>?_);go_simp;go_at_call 69
      (with_reducible refine(HLo.out _).mono ?_)
      rintro e w4 ⟨rfl,hb4⟩;have HB4:=hid (below_out HB.out (below_out (below_drewH wr 1) hb4));have hS1a:w4.cell? ⟨g,o+i*2,none⟩=some (.string SL):=cell_keep hb4 hS0a;clear hb4;refine hK _ _ ⟨fun _=>hS1a,?_⟩;clear hK K;try simp only [Act.put,sA,sB,sC]
      refine ltk (i:=7) (some 27) rfl rfl (v:= ?v7a) ?hy7a hS1a ?rest7a
      case hy7a=>intro w0 hSw;(try dsimp only at hSw);go_simp;try with_reducible rfl
      simp only [Act.put,sA,sB,sC];refine late_done (by kernel_rfl) ?_ _;refine NoPanic.normal ?_;go_wp2;go_ret2;exact HFin.out _ (below_out HB1.out HB4.out)
     |false=>
      have HNn:=hid (show (P.take (i+1)).any (fun q=>decide (q.1=lowH p))=false from by rw [List.take_add_one,hx,List.any_append,HNo.out];simpa using hk);have hne:¬Sx=SL:=fun e=>of_decide_eq_false hk (str_inj (by rw [hSx,e];exact HSL.out.symm))
      have hne2:(Sx.toList== SL.toList)=false:=ne_list hne;have hS0b:wr.drew.cell? ⟨g,o+i*2,none⟩=some (.string Sx):=q1;clear hx hSx hk q1;go_wp2;refine wp_region_noPanic ?_;refine any_begin 8 (by kernel_rfl) (by kernel_rfl) ?_;refine late_begin (fun U=>U.cell? ⟨g,o+i*2,none⟩=some (.string Sx)) (fun _=>false) hS0b (fun hS=>?_);refine ltk (i:=0) (some 20) rfl rfl (v:= ?v0b) ?hy0b hS ?rest0b
      case hy0b=>intro w0 hSw;(try dsimp only at hSw);go_simp;try with_reducible rfl
      simp only [Act.put,sA,sB,sC];refine ltk (i:=1) (some 21) rfl rfl (v:= ?v1b) ?hy1b hS ?rest1b
      case hy1b=>intro w0 hSw;(try dsimp only at hSw);go_simp;try with_reducible rfl
      simp only [Act.put,sA,sB,sC];refine ltk (i:=2) (some 22) rfl rfl (v:= ?v2b) ?hy2b hS ?rest2b
      case hy2b=>intro w0 hSw;(try dsimp only at hSw);go_simp;try with_reducible rfl
      simp only [Act.put,sA,sB,sC];refine ltk (i:=3) (some 23) rfl rfl (v:= ?v3b) ?hy3b hS ?rest3b
      case hy3b=>intro w0 hSw;(try dsimp only at hSw);go_simp;try with_reducible rfl
      simp only [Act.put,sA,sB,sC];refine ltk (i:=4) (some 24) rfl rfl (v:= ?v4b) ?hy4b hS ?rest4b
      case hy4b=>intro w0 hSw;(try dsimp only at hSw);go_simp;try with_reducible rfl
      simp only [Act.put,sA,sB,sC];refine ltk (i:=5) (some 25) rfl rfl (v:= ?v5b) ?hy5b hS ?rest5b
      case hy5b=>intro w0 hSw;(try dsimp only at hSw);go_simp;try with_reducible rfl
      simp only [Act.put,sA,sB,sC];refine wpAnyD_one (i:=6) (by kernel_rfl) rfl (fun K hK=>?_);go_simp;go_at_call 69
      (with_reducible refine(HLo.out _).mono ?_)
      rintro e w4 ⟨rfl,hb4⟩;have HB4:=hid (below_out HB.out (below_out (below_drewH wr 1) hb4));have hS1b:w4.cell? ⟨g,o+i*2,none⟩=some (.string Sx):=cell_keep hb4 hS0b;clear hb4;refine hK _ _ ⟨fun _=>hS1b,?_⟩;clear hK K;try simp only [Act.put,sA,sB,sC]
      refine ltk (i:=7) (some 27) rfl rfl (v:= ?v7b) ?hy7b hS1b ?rest7b
      case hy7b=>intro w0 hSw;(try dsimp only at hSw);go_simp;try with_reducible rfl
      simp only [Act.put,sA,sB,sC];refine late_done (by kernel_rfl) ?_ _;refine NoPanic.normal ?_;go_wp2;go_roundg (n-(i+1)+1)
      case measure=>omega
      case rel=>exact⟨i+1,by omega,rfl,by push_cast;go_num,HNn.out,HB4.out⟩
   · obtain rfl:n=i:=by omega
     have hany:P.any (fun q=>decide (q.1=lowH p))=false:=by
      have h1:=HNo.out;rw [List.take_of_length_le (by rw [HN.out];exact Nat.le_refl _)] at h1;exact h1
     by_cases h64:64≤n
     · have e9:addE P p=9:=by rw [HEA.out,hany,if_neg (by decide),if_pos h64]
       have HFin:=hid (show ∀ W,Below w.heap.size w W→RAddAns P (.slice pr n c) p id w (.returned (.tuple #[.slice pr n c,.int .i64 9])) W from fun W hb=>⟨hb,.inl ⟨by rw [e9];decide,by rw [e9];rfl⟩⟩);have h64':(64:Int)≤(n:Int):=by omega
       clear hany e9;go_wp2;go_ret2;exact HFin.out _ (below_out HB1.out HB.out)
     have h64':¬(64:Int)≤(n:Int):=by omega
     have e0:addE P p=0:=by rw [HEA.out,hany,if_neg (by decide),if_neg h64]
     have HFin:=hid (show ∀ W q d,Below w.heap.size w W→OwnP W w.heap.size (.slice q (n+1) d) (P++ [(lowH p,id)])→RAddAns P (.slice pr n c) p id w (.returned (.tuple #[.slice q (n+1) d,.int .i64 0])) W from fun W q d hb ho=>⟨hb,.inr ⟨e0,q,d,by rw [HN.out],by rw [HN.out];exact ho⟩⟩);have HRr:=hid (HR1.out.keep HB.out);have HR0:=hid (show ∀ (W:World) (b:Nat),W.ownsRow b 102 2 (.slice none 0 0) 0 [] from fun W b=>⟨rfl,.inl ⟨rfl,rfl⟩⟩);have HBr:=hid (below_out HB1.out HB.out);clear e0 hany;cases pr with
     |none=>
      obtain⟨hn0,hc0⟩:n=0∧c=0:=by
       rcases HRr.out.2 with ⟨h1,_⟩|⟨g,cap,cur,h1,_⟩
       · injection h1 with _ h3 h4;exact⟨h3,h4⟩
       · cases h1
      subst hc0;have hP0:P= []:=List.eq_nil_of_length_eq_zero (by rw [HN.out];exact hn0);subst hP0;subst hn0;go_wp2_with (first|(go_at_call 69;(with_reducible refine(HLo.out _).mono ?_);rintro e w6 ⟨rfl,hb6⟩;have HB6:=hid hb6;clear hb6)|(at_builtin;first|(refine wpList_append_own_none rfl (.tmp 33) (.tmp 34) 95 rfl wr.heap.size 102 i0 2 Tryz.underlying95 hi0 (.slice none 0 0) 0 [] (by go_simp) (HR0.out _ _) (by go_simp) ?_)|(refine wpList_append_own_at _ rfl (.tmp 36) (.tmp 41) 95 rfl w6.heap.size 102 i0 _ 2 24 Tryz.underlying95 hi0 hz0 hz1 hz2 rfl (by decide) (.slice none 0 0) 0 [] (by go_simp) (HR0.out _ _) ⟨w6.heap.size,0,none⟩ 1 1 [.string SL,.int .i64 id] (by go_simp) rfl (cells_new w6 _ _) (by simp [Value.oneCell']) (by unfold maxLen;omega) (by omega) (by simp) ?_;intro v6 w5 hown hgr _ _;obtain⟨p7,L7,c7,rfl⟩:=own_slice3 hown;have HO5:=hid (show OwnP w5 w6.heap.size (.slice p7 L7 c7) ([]++ [(lowH p,id)]) from OwnR.put (n:=0) rfl (by rw [HSs.out];exact hown));have HB5:=hid (below_out HB6.out ((below_new w6 (.cells #[.string SL,.int .i64 id] 102 (0,0))).trans ((below_grown hgr).mono (by simp))));obtain⟨hL7,_⟩:L7=0+1∧True:=⟨row_lenH hown,trivial⟩;subst hL7;clear hown hgr)));go_ret2;exact HFin.out _ _ _ (below_out HBr.out HB5.out) (HO5.out.lower (Nat.le_trans HBr.out.size HB6.out.size))
     |some ad=>
      have HNews:=hid HRr.out.news;have hlf:(P.flatMap patF).length=n*2:=by have h9:=HRr.out.1;rw [HN.out] at h9;exact h9
      have HOne:=hid (show ∀ u∈P.flatMap patF,u.oneCell'=true from fun u hu=>by
       obtain⟨x,_,hx⟩:=List.mem_flatMap.1 hu;simp [patF] at hx;rcases hx with h|h <;> rw [h] <;> rfl)
      go_wp2_with (first|(go_at_call 69;(with_reducible refine(HLo.out _).mono ?_);rintro e w6 ⟨rfl,hb6⟩;have HB6:=hid (HB3.out.trans (hb6.mono HB3.out.size));have HO6:=hid (HO3.out.keep hb6);clear hb6)|(at_builtin;first|(refine wpList_append_own_at _ rfl (.tmp 33) (.tmp 34) 95 rfl wr.heap.size 102 i0 _ 2 24 Tryz.underlying95 hi0 hz0 hz1 hz2 rfl (by decide) (.slice none 0 0) 0 [] (by go_simp) (HR0.out _ _) ad n c (P.flatMap patF) (by go_simp) hlf HNews.out HOne.out (by unfold maxLen;omega) (by omega) (Nat.le_refl _) ?_;intro v3 w3 hown hgr _ _;obtain⟨p3,L3,c3,rfl⟩:=own_slice3 hown;have HO3:=hid (show OwnP w3 wr.heap.size (.slice p3 L3 c3) P from(by unfold OwnP OwnR;rw [HN.out];rw [Nat.zero_add,List.nil_append] at hown;exact hown));have HB3:=hid (show Below wr.heap.size wr w3 from below_grown hgr);obtain⟨hL3,_⟩:L3=0+n∧True:=⟨row_lenH hown,trivial⟩;rw [Nat.zero_add] at hL3;subst hL3;clear hown hgr)|(refine wpList_append_own_at _ rfl (.tmp 36) (.tmp 41) 95 rfl wr.heap.size 102 i0 _ 2 24 Tryz.underlying95 hi0 hz0 hz1 hz2 rfl (by decide) (.slice p3 L3 c3) L3 (P.flatMap patF) (by go_simp) (by have h8:=HO6.out.alloc (.cells #[.string SL,.int .i64 id] 102 (0,0));unfold OwnR at h8;rw [HN.out] at h8;exact h8) ⟨w6.heap.size,0,none⟩ 1 1 [.string SL,.int .i64 id] (by go_simp) rfl (cells_new w6 _ _) (by simp [Value.oneCell']) (by unfold maxLen;omega) (by omega) (by have h1:=HB6.out.size;simp;omega) ?_;intro v6 w5 hown hgr _ _;obtain⟨p7,L7,c7,rfl⟩:=own_slice3 hown;have HO5:=hid (show OwnP w5 wr.heap.size (.slice p7 L7 c7) (P++ [(lowH p,id)]) from OwnR.put HN.out (by rw [HSs.out];exact hown));have HB5:=hid ((HB6.out.trans ((below_new w6 _).mono HB6.out.size)).trans ((HO6.out.alloc _).below (by have h1:=HB6.out.size;simp;omega) hgr));obtain⟨hL7,_⟩:L7=L3+1∧True:=⟨row_lenH hown,trivial⟩;subst hL7;clear hown hgr)));go_ret2;exact HFin.out _ _ _ (below_out HBr.out HB5.out) (HO5.out.lower HBr.out.size)
end Go.Proofs.YtlmlljlappjjjaaGreatDoor
