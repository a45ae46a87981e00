/- Find and All of tables, and the calls of a nil table, by the program. -/
import Derived.Test.YtlmlljlappjjjaaGreatDoorSTabF
namespace Go.Proofs.YtlmlljlappjjjaaGreatDoor
set_option maxRecDepth 20000
set_option maxHeartbeats 16000000
open Go.RowKit Go.Maps
def findV_s (o:Option Int):Value:=match o with
 |none=>.tuple #[.int .i64 0,.iface 74 (.int .i64 8)]
 |some i=>.tuple #[.int .i64 i,.nilIface]
def findT (P:List (B×Int)) (L:List B) (host:B):Value:=match labsH false host with
 |none=>.tuple #[.int .i64 0,err3]
 |some y=>findV_s (findO (idsF P) y L)
theorem under_len {y:List B}{s pl:B} (hy:∀ x∈y,x.length≤253) (hs:s.length≤254) (h:underS y s=some pl):pl.length≤100000:=by
 unfold underS at h;split at h
 · cases h
 · rename_i hno
   have:=Option.some.inj h;subst this;by_cases h0:s= []
   · subst h0;have:pickS y.reverse []= []:=by cases y.reverse <;> rfl
     rw [this];exact Nat.zero_le _
   · have hl:s.length=y.length:=Decidable.byContradiction fun e=>hno ⟨h0,e⟩
     have hm:∀ z∈pickS y.reverse s,z.length≤253:=fun z hz=>hy z (List.mem_reverse.1 (pick_mem hz))
     have h1:=joinH_len hm;rw [pick_len _ _ (by rw [List.length_reverse,hl])] at h1;have h3:s.countP (· == 48)≤s.length:=List.countP_le_length;have:(253+1)*s.countP (· == 48)≤254*254:=Nat.mul_le_mul_left 254 (by omega);omega
theorem find_none_s {ids:B×B→Option Int}{y:List B}{L:List B}{i:Nat}{s:B} (h:L[i]?=some s) (hu:underS y s=none):findO ids y (L.drop i)=findO ids y (L.drop (i+1)):=by
 obtain⟨h1,e⟩:=List.getElem?_eq_some_iff.1 h;rw [List.drop_eq_getElem_cons h1,e,findO,hu]
theorem find_miss {ids:B×B→Option Int}{y:List B}{L:List B}{i:Nat}{s pl:B} (h:L[i]?=some s) (hu:underS y s=some pl) (hi:ids (s,pl)=none):findO ids y (L.drop i)=findO ids y (L.drop (i+1)):=by
 obtain⟨h1,e⟩:=List.getElem?_eq_some_iff.1 h;rw [List.drop_eq_getElem_cons h1,e,findO,hu];simp [hi]
theorem find_hit {ids:B×B→Option Int}{y:List B}{L:List B}{i:Nat}{s pl:B}{k:Int} (h:L[i]?=some s) (hu:underS y s=some pl) (hi:ids (s,pl)=some k):findO ids y (L.drop i)=some k:=by
 obtain⟨h1,e⟩:=List.getElem?_eq_some_iff.1 h;rw [List.drop_eq_getElem_cons h1,e,findO,hu];simp [hi]
theorem find_any {w:World}{t:Nat}{P:List (B×Int)}{m:Option Nat}{v1 v2:Value}{L:List B} (h:Tab w t P m v1 v2 L) (hmx:MxAt w) (host:B) (hh:host.length≤9223372036854775807):
  Calls Tryz.prog 67 #[.pointer (some ⟨t,0,none⟩),.string (str host)] w fun e w'=>e= .returned (findT P L host)∧Below w.heap.size w w':=by
 have HL:=hid (plabels_any host false hh w hmx);obtain⟨S,hS⟩:∃ S,str host=S:=⟨_,rfl⟩;rw [hS] at HL ⊢;unfold findT;cases hl:labsH false host with
 |none=>
  rw [hl] at HL;unfold PLab at HL;dsimp only at HL ⊢;clear hS hl h hmx;go_enter Tryz.func67,Tryz.ntmps67;go_wp2_with (go_at_call 107;(with_reducible refine HL.out.mono ?_);rintro e w1 ⟨hb,rfl⟩;have HB:=hid hb;clear hb HL);go_ret2;exact⟨rfl,HB.out⟩
 |some y=>
  rw [hl] at HL;unfold PLab at HL;dsimp only at HL ⊢;have hyl:=labs_len hl;have HYm:=hid (labs_mem_len hl);obtain⟨ny,hny⟩:∃ n,y.length=n:=⟨_,rfl⟩;rw [hny] at HL hyl;have HNy:=hid hny;obtain⟨p1,n,c1,rfl⟩:=own_slice3 h.tab.sh;have hn:L.length=n:=(row_lenH h.tab.sh).symm;have hnn:n≤64:=by have:=h.tab.ll;have:=h.len;omega
  have HH:=hid h;have HN:=hid hn;have HLb:=hid h.tab.sh.lb;have HLl:=hid h.tab.lb;obtain⟨_,hc1,_,_⟩:=h.tab.cells;have HC1:=hid hc1;clear hS hl h hmx hny hn hc1;go_enter Tryz.func67,Tryz.ntmps67;go_wp2_with (go_at_call 107;(with_reducible refine HL.out.mono ?_);rintro e w1 ⟨hb,qy,d1,rfl,ho⟩;have HB:=hid hb;have HT:=hid ho.lb;have hc1:=cell_keep hb HC1.out;clear hb ho HL);go_loopg [30] (n+1) (fun gk s30 wr=>∃ i:Nat,i≤n∧gk=n-i+1∧s30= .int .i64 (i:Int)∧findO (idsF P) y L=findO (idsF P) y (L.drop i)∧Below w1.heap.size w1 wr)
  case atStart=>exact⟨0,by omega,rfl,rfl,rfl,Below.refl _ _⟩
  case round=>
   obtain⟨i,hi,rfl,rfl,hE,hb⟩:=hrel;have HE:=hid hE;have HBr:=hid hb;have HBw:=hid (below_out HB.out hb);clear hE hb;by_cases hin:i<n
   · obtain⟨s,hs⟩:∃ s,L[i]?=some s:=⟨_,List.getElem?_eq_getElem (by rw [HN.out];exact hin)⟩;obtain⟨g1,o1,rfl,q1⟩:=(HLb.out.next HBw.out) i s hs;have hsl:=HLl.out s (List.mem_of_getElem? hs);have HU:=hid (fun (W:World) (hT:LbAt W qy y)=>under_any y qy ny d1 HNy.out hyl HYm.out s hsl W hT);have HSg:=hid hs;have HTr:=hid (HT.out.next HBr.out);obtain⟨SA,hSA⟩:∃ S,str s=S:=⟨_,rfl⟩;rw [hSA] at q1 HU;cases hu:underS y s with
     |none=>
      rw [hu] at HU;unfold undV keyV at HU;dsimp only at HU;have HSt:=hid (find_none_s (ids:=idsF P) hs hu);clear hs hsl hSA hu;go_wp2_with (go_at_call 108;(with_reducible refine(HU.out _ HTr.out).mono ?_);rintro e w2 ⟨rfl,hb2⟩;have HB2:=hid (below_out HBr.out (below_out hb2 (below_new w2 (.cells #[.string ⟨#[]⟩,.string ⟨#[]⟩] 155 (0,0)))));clear hb2 HU);go_roundg (n-(i+1)+1)
      case measure=>omega
      case rel=>exact⟨i+1,by omega,rfl,by push_cast;go_num,HE.out.trans HSt.out,HB2.out⟩
     |some pl=>
      rw [hu] at HU;unfold undV keyV at HU;dsimp only at HU;obtain⟨SB,hSB⟩:∃ S,str pl=S:=⟨_,rfl⟩;rw [hSA,hSB] at HU;have hpl:=under_len HYm.out hsl hu;have HLk:=hid (fun (W:World) (g:Nat) (hT:Tab W t P m (.slice (some ⟨g1,o1,none⟩) n c1) v2 L) (hb:KBox W g (str s) (str pl))=>hT.lks (a:=s) (b:=pl) ⟨by omega,hpl⟩ hb);rw [hSA,hSB] at HLk;cases hid9:idsF P (s,pl) with
      |none=>
       rw [hid9] at HLk;have HSt:=hid (find_miss (ids:=idsF P) hs hu hid9);clear hs hsl hSA hSB hu hpl hid9;go_wp2_with (go_at_call 108;(with_reducible refine(HU.out _ HTr.out).mono ?_);rintro e w2 ⟨rfl,hb2⟩;have HB2:=hid (below_out HBr.out (below_out hb2 (below_new w2 (.cells #[.string SA,.string SB] 155 (0,0)))));have HK2:=hid (KBox.new w2 SA SB);clear hb2 HU);have hbD:Below w.heap.size w (w2.alloc (.cells #[.string SA,.string SB] 155 (0,0))).drew:=below_out (below_out HB.out HB2.out) (below_drewH _ 1);obtain⟨cc,hS0a,_⟩:=HLk.out (w2.alloc (.cells #[.string SA,.string SB] 155 (0,0))).drew w2.heap.size (HH.out.next hbD) (HK2.out.next (below_drewH _ 1));obtain⟨b0,hb0⟩:∃ b0,w2.heap.size=b0:=⟨_,rfl⟩;rw [hb0] at hS0a ⊢;refine wp_region_noPanic ?_;refine any_begin 11 (by kernel_rfl) (by kernel_rfl) ?_;refine late_begin (fun U=>LkS U t b0 m SA SB (.tuple #[.int .i64 cc,.bool (none:Option Int).isSome])) (fun _=>false) hS0a (fun hS=>?_);refine ltk (i:=0) (some 43) rfl rfl (v:= ?v0a) ?hy0a hS ?rest0a
       case hy0a=>intro w0 hSw;obtain⟨a0,a1,a2,a3⟩:=hSw;go_simp;try with_reducible rfl
       simp only [Act.put,sA,sB,sC];refine ltk (i:=1) (some 44) rfl rfl (v:= ?v1a) ?hy1a hS ?rest1a
       case hy1a=>intro w0 hSw;obtain⟨a0,a1,a2,a3⟩:=hSw;go_simp;try with_reducible rfl
       simp only [Act.put,sA,sB,sC];refine ltk (i:=2) (some 45) rfl rfl (v:= ?v2a) ?hy2a hS ?rest2a
       case hy2a=>intro w0 hSw;obtain⟨a0,a1,a2,a3⟩:=hSw;go_simp;try with_reducible rfl
       simp only [Act.put,sA,sB,sC];refine ltk (i:=3) (some 46) rfl rfl (v:= ?v3a) ?hy3a hS ?rest3a
       case hy3a=>intro w0 hSw;obtain⟨a0,a1,a2,a3⟩:=hSw;go_simp;try with_reducible rfl
       simp only [Act.put,sA,sB,sC];refine ltk (i:=4) (some 47) rfl rfl (v:= ?v4a) ?hy4a hS ?rest4a
       case hy4a=>intro w0 hSw;obtain⟨a0,a1,a2,a3⟩:=hSw;go_simp;try with_reducible rfl
       simp only [Act.put,sA,sB,sC];refine late_take (i:=5) (some 48) rfl rfl (by kernel_rfl) (by kernel_rfl) (by kernel_rfl) (by kernel_rfl) (by kernel_rfl) (fun _ _ _ h=>h) (by rfl) (v:=.tuple #[.int .i64 cc,.bool (none:Option Int).isSome]) ?hy5a hS ?rest5a
       case hy5a=>intro w0 hSw;exact exec_look rfl rfl rfl hSw.look
       simp only [Act.put,sA,sB,sC];refine ltk (i:=6) (some 42) rfl rfl (v:= ?v6a) ?hy6a hS ?rest6a
       case hy6a=>intro w0 hSw;obtain⟨a0,a1,a2,a3⟩:=hSw;go_simp;try with_reducible rfl
       simp only [Act.put,sA,sB,sC];refine ltk (i:=7) (some 49) rfl rfl (v:= ?v7a) ?hy7a hS ?rest7a
       case hy7a=>intro w0 hSw;obtain⟨a0,a1,a2,a3⟩:=hSw;go_simp;try with_reducible rfl
       simp only [Act.put,sA,sB,sC];refine ltk (i:=8) (some 50) rfl rfl (v:= ?v8a) ?hy8a hS ?rest8a
       case hy8a=>intro w0 hSw;obtain⟨a0,a1,a2,a3⟩:=hSw;go_simp;try with_reducible rfl
       simp only [Act.put,sA,sB,sC];refine ltk (i:=9) (some 12) rfl rfl (v:= ?v9a) ?hy9a hS ?rest9a
       case hy9a=>intro w0 hSw;obtain⟨a0,a1,a2,a3⟩:=hSw;go_simp;try with_reducible rfl
       simp only [Act.put,sA,sB,sC];refine ltk (i:=10) (some 13) rfl rfl (v:= ?v10a) ?hy10a hS ?rest10a
       case hy10a=>intro w0 hSw;obtain⟨a0,a1,a2,a3⟩:=hSw;go_simp;try with_reducible rfl
       simp only [Act.put,sA,sB,sC];refine late_done (by kernel_rfl) ?_ _;refine NoPanic.normal ?_;go_wp2;go_roundg (n-(i+1)+1)
       case measure=>omega
       case rel=>exact⟨i+1,by omega,rfl,by push_cast;go_num,HE.out.trans HSt.out,below_out HB2.out (below_drewH _ 1)⟩
      |some k0=>
       rw [hid9] at HLk;have HSt:=hid (find_hit (ids:=idsF P) hs hu hid9);clear hs hsl hSA hSB hu hpl hid9;go_wp2_with (go_at_call 108;(with_reducible refine(HU.out _ HTr.out).mono ?_);rintro e w2 ⟨rfl,hb2⟩;have HB2:=hid (below_out HBr.out (below_out hb2 (below_new w2 (.cells #[.string SA,.string SB] 155 (0,0)))));have HK2:=hid (KBox.new w2 SA SB);clear hb2 HU);have hbD:Below w.heap.size w (w2.alloc (.cells #[.string SA,.string SB] 155 (0,0))).drew:=below_out (below_out HB.out HB2.out) (below_drewH _ 1);obtain⟨cc,hS0b,hcc⟩:=HLk.out (w2.alloc (.cells #[.string SA,.string SB] 155 (0,0))).drew w2.heap.size (HH.out.next hbD) (HK2.out.next (below_drewH _ 1));obtain rfl:cc=k0:=hcc k0 rfl;obtain⟨b0,hb0⟩:∃ b0,w2.heap.size=b0:=⟨_,rfl⟩;rw [hb0] at hS0b ⊢;refine wp_region_noPanic ?_;refine any_begin 11 (by kernel_rfl) (by kernel_rfl) ?_;refine late_begin (fun U=>LkS U t b0 m SA SB (.tuple #[.int .i64 cc,.bool (some cc).isSome])) (fun _=>false) hS0b (fun hS=>?_);refine ltk (i:=0) (some 43) rfl rfl (v:= ?v0b) ?hy0b hS ?rest0b
       case hy0b=>intro w0 hSw;obtain⟨a0,a1,a2,a3⟩:=hSw;go_simp;try with_reducible rfl
       simp only [Act.put,sA,sB,sC];refine ltk (i:=1) (some 44) rfl rfl (v:= ?v1b) ?hy1b hS ?rest1b
       case hy1b=>intro w0 hSw;obtain⟨a0,a1,a2,a3⟩:=hSw;go_simp;try with_reducible rfl
       simp only [Act.put,sA,sB,sC];refine ltk (i:=2) (some 45) rfl rfl (v:= ?v2b) ?hy2b hS ?rest2b
       case hy2b=>intro w0 hSw;obtain⟨a0,a1,a2,a3⟩:=hSw;go_simp;try with_reducible rfl
       simp only [Act.put,sA,sB,sC];refine ltk (i:=3) (some 46) rfl rfl (v:= ?v3b) ?hy3b hS ?rest3b
       case hy3b=>intro w0 hSw;obtain⟨a0,a1,a2,a3⟩:=hSw;go_simp;try with_reducible rfl
       simp only [Act.put,sA,sB,sC];refine ltk (i:=4) (some 47) rfl rfl (v:= ?v4b) ?hy4b hS ?rest4b
       case hy4b=>intro w0 hSw;obtain⟨a0,a1,a2,a3⟩:=hSw;go_simp;try with_reducible rfl
       simp only [Act.put,sA,sB,sC];refine late_take (i:=5) (some 48) rfl rfl (by kernel_rfl) (by kernel_rfl) (by kernel_rfl) (by kernel_rfl) (by kernel_rfl) (fun _ _ _ h=>h) (by rfl) (v:=.tuple #[.int .i64 cc,.bool (some cc).isSome]) ?hy5b hS ?rest5b
       case hy5b=>intro w0 hSw;exact exec_look rfl rfl rfl hSw.look
       simp only [Act.put,sA,sB,sC];refine ltk (i:=6) (some 42) rfl rfl (v:= ?v6b) ?hy6b hS ?rest6b
       case hy6b=>intro w0 hSw;obtain⟨a0,a1,a2,a3⟩:=hSw;go_simp;try with_reducible rfl
       simp only [Act.put,sA,sB,sC];refine ltk (i:=7) (some 49) rfl rfl (v:= ?v7b) ?hy7b hS ?rest7b
       case hy7b=>intro w0 hSw;obtain⟨a0,a1,a2,a3⟩:=hSw;go_simp;try with_reducible rfl
       simp only [Act.put,sA,sB,sC];refine ltk (i:=8) (some 50) rfl rfl (v:= ?v8b) ?hy8b hS ?rest8b
       case hy8b=>intro w0 hSw;obtain⟨a0,a1,a2,a3⟩:=hSw;go_simp;try with_reducible rfl
       simp only [Act.put,sA,sB,sC];refine ltk (i:=9) (some 12) rfl rfl (v:= ?v9b) ?hy9b hS ?rest9b
       case hy9b=>intro w0 hSw;obtain⟨a0,a1,a2,a3⟩:=hSw;go_simp;try with_reducible rfl
       simp only [Act.put,sA,sB,sC];refine ltk (i:=10) (some 13) rfl rfl (v:= ?v10b) ?hy10b hS ?rest10b
       case hy10b=>intro w0 hSw;obtain⟨a0,a1,a2,a3⟩:=hSw;go_simp;try with_reducible rfl
       simp only [Act.put,sA,sB,sC];refine late_done (by kernel_rfl) ?_ _;refine NoPanic.normal ?_;go_wp2;go_ret2;exact⟨by rw [HE.out,HSt.out];rfl,hbD⟩
   · obtain rfl:n=i:=by omega
     have HV:=hid (show findO (idsF P) y L=none from by rw [HE.out,List.drop_of_length_le (by rw [HN.out];exact Nat.le_refl _)];rfl);go_wp2;go_ret2;exact⟨by rw [HV.out];rfl,HBw.out⟩
theorem all_any {w:World}{t:Nat}{P:List (B×Int)}{m:Option Nat}{v1 v2:Value}{L:List B} (h:Tab w t P m v1 v2 L):Calls Tryz.prog 99 #[.pointer (some ⟨t,0,none⟩)] w fun e w'=>∃ q d,e= .returned (.slice q P.length d)∧LbAt w' q (P.map (·.1))∧Below w.heap.size w w':=by
 obtain⟨j0,hj0,hy0,hy1,hy2⟩:=info_parts infoS;obtain⟨_,_,hc,_⟩:=h.tab.cells;obtain⟨p,n,c,rfl⟩:=own_slice3 h.tab.al;have hn:(P.map (·.1)).length=n:=(row_lenH h.tab.al).symm;have hnn:n≤64:=by have:=h.len;rw [←hn,List.length_map];exact this
 have HLb:=hid h.tab.al.lb;have HS:=hid (show ∀ x∈P.map (·.1),x.length≤253 from fun x hx=>by
  obtain⟨q,hq,rfl⟩:=List.mem_map.1 hx;obtain⟨⟨y,hy⟩,_⟩:=h.fine q hq;exact pat_short hy)
 rw [show P.length=n from by rw [←hn,List.length_map]];obtain⟨X,hX⟩:∃ X,P.map (·.1)=X:=⟨_,rfl⟩;rw [hX] at hn HLb HS ⊢;have HN:=hid hn;clear h hX hn;go_enter Tryz.func99,Tryz.ntmps99;go_wp2;go_loopg [3,13] (n+1) (fun gk s3 s13 wr=>∃ (i d:Nat) (q:Option Addr),i≤n∧gk=n-i+1∧s13= .int .i64 (i:Int)∧s3= .slice q i d∧OwnS wr w.heap.size (.slice q i d) (X.take i)∧Below w.heap.size w wr)
 case atStart=>exact⟨0,0,none,by omega,rfl,rfl,rfl,OwnS.nil _ _,Below.refl _ _⟩
 case round=>
  obtain⟨i,d,q,hi,rfl,rfl,rfl,ho,hb⟩:=hrel;have HO:=hid ho;have HB:=hid hb;clear ho hb;by_cases hin:i<n
  · have h1:i<X.length:=by rw [HN.out];exact hin
    obtain⟨x,hx⟩:∃ x,X[i]?=some x:=⟨_,List.getElem?_eq_getElem h1⟩;obtain⟨g1,o1,rfl,q1⟩:=(HLb.out.next HB.out) i x hx;have HCl:=hid (fun W:World=>cloneH x W (by have:=HS.out x (List.mem_of_getElem? hx);omega));have HTk:=hid (show X.take (i+1)=X.take i++ [x] from by rw [List.take_succ_eq_append_getElem h1,(List.getElem?_eq_some_iff.1 hx).2]);have HLi:=hid (show (X.take i).length=i from by rw [List.length_take];omega);obtain⟨Sx,hSx⟩:∃ S,str x=S:=⟨_,rfl⟩;have HSx:=hid hSx;rw [hSx] at q1 HCl;obtain⟨acc,hacc⟩:∃ acc,X.take i=acc:=⟨_,rfl⟩;rw [hacc] at HO HTk HLi;clear h1 hx hSx hacc;go_wp2_with (first|(go_at_call 58;(with_reducible refine(HCl.out _).mono ?_);rintro e w2 ⟨rfl,hb2⟩;have HB2:=hid (HB.out.trans (hb2.mono HB.out.size));have HO2:=hid (HO.out.keep hb2);clear hb2)|(at_builtin;refine wpList_append_own_at _ rfl (.tmp 17) (.tmp 20) 36 rfl w.heap.size 9 j0 _ 1 16 Tryz.underlying36 hj0 hy0 hy1 hy2 rfl (by decide) (.slice q i d) i (strC acc) (by go_simp) (by have h8:=HO2.out.alloc (.cells #[.string Sx] 9 (0,0));unfold OwnS at h8;rw [HLi.out] at h8;exact h8) ⟨w2.heap.size,0,none⟩ 1 1 [.string Sx] (by go_simp) rfl (cells_new w2 _ _) (by simp [Value.oneCell']) (by unfold maxLen;omega) (by omega) (by have h1:=HB2.out.size;simp;omega) ?_;intro v6 w3 hown hgr _ _;obtain⟨p7,L7,c7,rfl⟩:=own_slice3 hown;have HO3:=hid (show OwnS w3 w.heap.size (.slice p7 L7 c7) (acc++ [x]) from OwnS.put (by rw [HLi.out,HSx.out];exact hown));have HB3:=hid ((HB2.out.trans ((below_new w2 _).mono HB2.out.size)).trans (OwnS.below (HO2.out.alloc _) (by have h1:=HB2.out.size;simp;omega) hgr));obtain⟨hL7,_⟩:L7=i+1∧True:=⟨row_lenH hown,trivial⟩;subst hL7;clear hown hgr));go_roundg (n-(i+1)+1)
    case measure=>omega
    case rel=>exact⟨i+1,c7,p7,by omega,rfl,by push_cast;go_num,rfl,by rw [HTk.out];exact HO3.out,HB3.out⟩
  · obtain rfl:n=i:=by omega
    have HX:=hid (show X.take n=X from List.take_of_length_le (by rw [HN.out];exact Nat.le_refl _));rw [HX.out] at HO;go_wp2;go_ret;exact⟨q,d,rfl,HO.out.lb,HB.out⟩
def stepF (y:List B) (o:Option (B×Int)) (p:B×Int):Option (B×Int):=if fitsS (patL p.1) y && (match o with|none=>true|some b=>aheadP (patL p.1) (patL b.1)) then some p else o
def bestF (y:List B) (P:List (B×Int)):Option (B×Int):=P.foldl (stepF y) none
theorem best_snoc (y:List B) (P:List (B×Int)) (p:B×Int):bestF y (P++ [p])=stepF y (bestF y P) p:=by unfold bestF;rw [List.foldl_append];rfl
def bestP (y:List B) (P:List (B×Int)) (o:Option (B×Int)):Prop:=match o with
 |none=>∀ p∈P,fitsS (patL p.1) y=false
 |some p=>p∈P∧fitsS (patL p.1) y=true∧∀ q∈P,fitsS (patL q.1) y=true→patL q.1=patL p.1∨aheadP (patL p.1) (patL q.1)=true
theorem best_spec (y:List B):∀ (n:Nat) (P:List (B×Int)),P.length=n→bestP y P (bestF y P)
 |0,P,h=>by
  obtain rfl:P= []:=List.eq_nil_of_length_eq_zero h;exact fun p hp=>by simp at hp
 |n+1,P,h=>by
  obtain⟨R,p,rfl⟩:∃ R p,P=R++ [p]:=⟨P.dropLast,P.getLast (by intro e;rw [e] at h;cases h),(List.dropLast_concat_getLast _).symm⟩;have ih:=best_spec y n R (by simpa using h);rw [best_snoc];unfold stepF;cases hb:bestF y R with
  |none=>
   rw [hb] at ih;have ih:∀ p∈R,fitsS (patL p.1) y=false:=ih;dsimp only;rw [Bool.and_true];cases hf:fitsS (patL p.1) y with
   |false=>
    rw [if_neg (by decide)];intro q hq;rcases List.mem_append.1 hq with h1|h1
    · exact ih q h1
    · simp at h1;rw [h1];exact hf
   |true=>
    rw [if_pos rfl];refine⟨by simp,hf,fun q hq hfq=>?_⟩;rcases List.mem_append.1 hq with h1|h1
    · rw [ih q h1] at hfq;cases hfq
    · simp at h1;rw [h1];exact .inl rfl
  |some b=>
   rw [hb] at ih;obtain⟨h1,h2,h3⟩:b∈R∧fitsS (patL b.1) y=true∧∀ q∈R,fitsS (patL q.1) y=true→patL q.1=patL b.1∨aheadP (patL b.1) (patL q.1)=true:=ih;dsimp only;cases hf:fitsS (patL p.1) y with
   |false=>
    rw [Bool.false_and,if_neg (by decide)];refine⟨List.mem_append.2 (.inl h1),h2,fun q hq hfq=>?_⟩;rcases List.mem_append.1 hq with h4|h4
    · exact h3 q h4 hfq
    · simp at h4;rw [h4,hf] at hfq;cases hfq
   |true=>
    rw [Bool.true_and];cases ha:aheadP (patL p.1) (patL b.1) with
    |true=>
     rw [if_pos rfl];refine⟨by simp,hf,fun q hq hfq=>?_⟩;rcases List.mem_append.1 hq with h4|h4
     · rcases h3 q h4 hfq with e|e
       · exact .inr (e ▸ ha)
       · exact .inr (aheadP_trans ha e)
     · simp at h4;rw [h4];exact .inl rfl
    |false=>
     rw [if_neg (by decide)];refine⟨List.mem_append.2 (.inl h1),h2,fun q hq hfq=>?_⟩;rcases List.mem_append.1 hq with h4|h4
     · exact h3 q h4 hfq
     · simp at h4;rw [h4];rcases aheadP_total (patL p.1) (patL b.1) y hf h2 with e|e|e
       · exact .inl e
       · rw [ha] at e;cases e
       · exact .inr e
theorem Tab.best {w:World}{t:Nat}{P:List (B×Int)}{m:Option Nat}{v1 v2:Value}{L:List B} (h:Tab w t P m v1 v2 L) {y:List B} (hy:noDot y):findO (idsF P) y L=(bestF y P).map (·.2):=by
 have h1:=h.found hy;have h2:=best_spec y P.length P rfl;cases hf:findO (idsF P) y L with
 |none=>
  rw [hf] at h1;have h1:∀ p∈P,fitsS (patL p.1) y=false:=h1;cases hb:bestF y P with
  |none=>rfl
  |some p=>
   rw [hb] at h2;have h2:p∈P∧fitsS (patL p.1) y=true∧_:=h2;rw [h1 p h2.1] at h2;exact absurd h2.2.1 (by decide)
 |some i=>
  rw [hf] at h1;obtain⟨p,hp,hi,hfp,hbest⟩:∃ p∈P,p.2=i∧fitsS (patL p.1) y=true∧∀ q∈P,fitsS (patL q.1) y=true→q=p∨aheadP (patL p.1) (patL q.1)=true:=h1;cases hb:bestF y P with
  |none=>
   rw [hb] at h2;have h2:∀ p∈P,fitsS (patL p.1) y=false:=h2;rw [h2 p hp] at hfp;cases hfp
  |some b=>
   rw [hb] at h2;obtain⟨h3,h4,h5⟩:b∈P∧fitsS (patL b.1) y=true∧∀ q∈P,fitsS (patL q.1) y=true→patL q.1=patL b.1∨aheadP (patL b.1) (patL q.1)=true:=h2;have:b=p:=by
    rcases hbest b h3 h4 with e|e
    · exact e
    · rcases h5 p hp hfp with e2|e2
      · exact(h.apart hp h3 e2).symm
      · rw [aheadP_asymm e] at e2;cases e2
   rw [this,Option.map_some,hi]
def findN (P:List (B×Int)) (host:B):Int×Nat:=match labsH false host with
 |none=>(0,3)
 |some y=>match bestF y P with
  |none=>(0,8)
  |some p=>(p.2,0)
theorem Tab.findN {w:World}{t:Nat}{P:List (B×Int)}{m:Option Nat}{v1 v2:Value}{L:List B} (h:Tab w t P m v1 v2 L) (host:B):findT P L host= .tuple #[.int .i64 (findN P host).1,errOf (findN P host).2]:=by
 unfold findT Go.Proofs.YtlmlljlappjjjaaGreatDoor.findN;cases hl:labsH false host with
 |none=>rfl
 |some y=>
  dsimp only;rw [h.best (labs_nodot hl)];cases bestF y P <;> rfl
theorem find_num {w:World}{t:Nat}{P:List (B×Int)}{m:Option Nat}{v1 v2:Value}{L:List B} (h:Tab w t P m v1 v2 L) (hmx:MxAt w) (host:B) (hh:host.length≤9223372036854775807):
  Calls Tryz.prog 67 #[.pointer (some ⟨t,0,none⟩),.string (str host)] w fun e w'=>e= .returned (.tuple #[.int .i64 (findN P host).1,errOf (findN P host).2])∧Below w.heap.size w w':=by
 have:=find_any h hmx host hh;rw [h.findN host] at this;exact this
theorem assert_errno (k:Int) (w:World):(Instr.typeAssert (.iface 74 (.int .i64 k)) 28 74 true).run Tryz.prog w= .ok (.tuple #[.int .i64 k,.bool true]) w:=by kernel_rfl
theorem num_any (k:Nat) (hk:k≤1000) (w:World):Calls Tryz.prog 11 #[errOf k] w fun e w'=>e= .returned (.int .i64 (k:Int))∧w'=w:=by
 by_cases h:k=0
 · subst h;rw [errOf_zero];go_enter Tryz.func11,Tryz.ntmps11;go_wp2;go_ret;exact⟨rfl,rfl⟩
 · rw [errOf_pos h];have hta:=assert_errno;go_enter Tryz.func11,Tryz.ntmps11;go_wp2;go_ret;exact⟨rfl,rfl⟩
def canonN (s:B):B×Nat:=match labsH false s with
 |none=>([],3)
 |some _=>(lowH s,0)
def checkN (s:B):Nat:=if (patH s).isSome then 0 else 3
theorem pcanonN (s:B) (hs:s.length≤9223372036854775807) (w:World) (hmx:MxAt w):Calls Tryz.prog 66 #[.string (str s)] w fun e w'=>e= .returned (.tuple #[.string (str (canonN s).1),errOf (canonN s).2])∧Below w.heap.size w w':=by
 have h:=pcanon_any s hs w hmx;unfold canonN;cases hl:labsH false s with
 |none=>rw [hl] at h;exact h
 |some x=>rw [hl] at h;exact h
theorem pcheckN (s:B) (hs:s.length≤9223372036854775807) (w:World) (hmx:MxAt w):Calls Tryz.prog 56 #[.string (str s)] w fun e w'=>e= .returned (errOf (checkN s))∧Below w.heap.size w w':=by
 have h:=pcheck_any s hs w hmx;unfold checkN;cases hl:patH s with
 |none=>rw [hl] at h;exact h
 |some x=>rw [hl] at h;exact h
theorem rcheckN (s:B) (hs:s.length≤9223372036854775807) (w:World):Calls Tryz.prog 27 #[.string (str s)] w fun e w'=>e= .returned (.int .i64 (checkN s:Int))∧Below w.heap.size w w':=by
 have h:=rcheck_any s hs w;unfold checkN;cases hl:patH s with
 |none=>rw [hl] at h;exact h
 |some x=>rw [hl] at h;exact h
def fitsN (p h:B):Bool×Nat:=match fitsAns p h with
 |none=>(false,3)
 |some v=>(v,0)
open Go.RowKit
structure HS where
 resp:Bool
 most:Int
 lines:List B
 line:B
 len:Nat
 done:Bool
 err:Nat
theorem late_skip {P:Program}{ops:Array Oper}{Q:Exit→Act→World→Prop}{md:Region.Mode}{S:World→Prop}{D:Nat→Bool}{i:Nat}{oi:Oper}{fuel:Nat}{listed:Array Bool}{a:Act}{w:World} (d:Option Tmp) (hi:ops[i]?=some oi) (hd:oi.dst=d)
  (hs:Region.noSelect ops=true) (hf:Region.free md ops listed i=true) (hr:(Region.ready md ops listed).contains i=true) (hD:lateB md ops D i=true) (hn:noneLateB D listed=true)
  (hQ:∀ c a w,Q (.panic c) (a.put d undef) w→Q (.panic c) a w) (hw:Region.wanted oi (yielded ops a.tmps)=false) (hS:S w)
  (h:wpAnyD P md ops Q S D fuel (listed.setIfInBounds i true) (a.put d undef) w):wpAnyD P md ops Q S D (fuel+1) listed a w:=by
 subst hd;exact wpAnyD_take hi hs hf hr hD hn hQ (Or.inr ⟨hw,rfl⟩) hS h
def FAt (w:World) (p:Option Addr) (fs:List (B×B)):Prop:=∀ j f,fs[j]?=some f→∃ g o,p=some ⟨g,o,none⟩∧w.cell? ⟨g,o+j*2,none⟩=some (.string (str f.1))∧w.cell? ⟨g,o+j*2+1,none⟩=some (.string (str f.2))
theorem FAt.next {w w':World}{p:Option Addr}{fs:List (B×B)} (h:FAt w p fs) (hb:Below w.heap.size w w'):FAt w' p fs:=by
 intro j f hj;obtain⟨g,o,e,h1,h2⟩:=h j f hj;exact⟨g,o,e,cell_keep hb h1,cell_keep hb h2⟩
theorem OwnF.fat {w:World}{b n c:Nat}{p:Option Addr}{fs:List (B×B)} (h:OwnF w b (.slice p n c) fs):FAt w p fs:=by
 intro j f hj;obtain⟨g,o,e,h1,h2⟩:=h.at hj;exact⟨g,o,e,by rw [Nat.mul_comm];exact h1,by rw [Nat.mul_comm];exact h2⟩
end Go.Proofs.YtlmlljlappjjjaaGreatDoor
