/- Find and All of tables, and the calls of a nil table, by the program. -/
import Derived.Test.YtlmlljlappjjjaaGreatDoorSTabF
namespace Go.Proofs.YtlmlljlappjjjaaGreatDoor
set_option maxRecDepth 20000
set_option maxHeartbeats 16000000
open Go.RowKit Go.Maps
def findV_s (o:Option Int):Value:=match o with
 |none=>.tuple #[.int .i64 0,.iface 74 (.int .i64 8)]
 |some i=>.tuple #[.int .i64 i,.nilIface]
def findT (P:List (B×Int)) (L:List B) (host:B):Value:=match labsH false host with
 |none=>.tuple #[.int .i64 0,err3]
 |some y=>findV_s (findO (idsF P) y L)
theorem under_len {y:List B}{s pl:B} (hy:∀ x∈y,x.length≤253) (hs:s.length≤254) (h:underS y s=some pl):pl.length≤100000:=by
 unfold underS at h;split at h
 · cases h
 · rename_i hno
   have:=Option.some.inj h;subst this;by_cases h0:s= []
   · subst h0;have:pickS y.reverse []= []:=by cases y.reverse <;> rfl
     rw [this];exact Nat.zero_le _
   · have hl:s.length=y.length:=Decidable.byContradiction fun e=>hno ⟨h0,e⟩
     have hm:∀ z∈pickS y.reverse s,z.length≤253:=fun z hz=>hy z (List.mem_reverse.1 (pick_mem hz))
     have h1:=joinH_len hm;rw [pick_len _ _ (by rw [List.length_reverse,hl])] at h1;have h3:s.countP (· == 48)≤s.length:=List.countP_le_length;have:(253+1)*s.countP (· == 48)≤254*254:=Nat.mul_le_mul_left 254 (by omega);omega
theorem find_none_s {ids:B×B→Option Int}{y:List B}{L:List B}{i:Nat}{s:B} (h:L[i]?=some s) (hu:underS y s=none):findO ids y (L.drop i)=findO ids y (L.drop (i+1)):=by
 obtain⟨h1,e⟩:=List.getElem?_eq_some_iff.1 h;rw [List.drop_eq_getElem_cons h1,e,findO,hu]
theorem find_miss {ids:B×B→Option Int}{y:List B}{L:List B}{i:Nat}{s pl:B} (h:L[i]?=some s) (hu:underS y s=some pl) (hi:ids (s,pl)=none):findO ids y (L.drop i)=findO ids y (L.drop (i+1)):=by
 obtain⟨h1,e⟩:=List.getElem?_eq_some_iff.1 h;rw [List.drop_eq_getElem_cons h1,e,findO,hu];simp [hi]
theorem find_hit {ids:B×B→Option Int}{y:List B}{L:List B}{i:Nat}{s pl:B}{k:Int} (h:L[i]?=some s) (hu:underS y s=some pl) (hi:ids (s,pl)=some k):findO ids y (L.drop i)=some k:=by
 obtain⟨h1,e⟩:=List.getElem?_eq_some_iff.1 h;rw [List.drop_eq_getElem_cons h1,e,findO,hu];simp [hi]
theorem find_any {w:World}{t:Nat}{P:List (B×Int)}{m:Option Nat}{v1 v2:Value}{L:List B} (h:Tab w t P m v1 v2 L) (hmx:MxAt w) (host:B) (hh:host.length≤9223372036854775807):
  Calls Tryz.prog 67 #[.pointer (some ⟨t,0,none⟩),.string (str host)] w fun e w'=>e= .returned (findT P L host)∧Below w.heap.size w w':=by
 have HL:=hid (plabels_any host false hh w hmx);obtain⟨S,hS⟩:∃ S,str host=S:=⟨_,rfl⟩;rw [hS] at HL ⊢;unfold findT;cases hl:labsH false host with
 |none=>
  rw [hl] at HL;unfold PLab at HL;dsimp only at HL ⊢;clear hS hl h hmx;go_enter Tryz.func67,Tryz.ntmps67;go_wp2_with (go_at_call 107;(with_reducible refine HL.out.mono ?_);rintro e w1 ⟨hb,rfl⟩;have HB:=hid hb;clear hb HL);go_ret2;exact⟨rfl,HB.out⟩
 |some y=>
  rw [hl] at HL;unfold PLab at HL;dsimp only at HL ⊢;have hyl:=labs_len hl;have HYm:=hid (labs_mem_len hl);obtain⟨ny,hny⟩:∃ n,y.length=n:=⟨_,rfl⟩;rw [hny] at HL hyl;have HNy:=hid hny;obtain⟨p1,n,c1,rfl⟩:=own_slice3 h.tab.sh;have hn:L.length=n:=(row_lenH h.tab.sh).symm;have hnn:n≤64:=by have:=h.tab.ll;have:=h.len;omega
  have HH:=hid h;have HN:=hid hn;have HLb:=hid h.tab.sh.lb;have HLl:=hid h.tab.lb;obtain⟨_,hc1,_,_⟩:=h.tab.cells;have HC1:=hid hc1;clear hS hl h hmx hny hn hc1;go_enter Tryz.func67,Tryz.ntmps67;go_wp2_with (go_at_call 107;(with_reducible refine HL.out.mono ?_);rintro e w1 ⟨hb,qy,d1,rfl,ho⟩;have HB:=hid hb;have HT:=hid ho.lb;have hc1:=cell_keep hb HC1.out;clear hb ho HL);go_loopg [30] (n+1) (fun gk s30 wr=>∃ i:Nat,i≤n∧gk=n-i+1∧s30= .int .i64 (i:Int)∧findO (idsF P) y L=findO (idsF P) y (L.drop i)∧Below w1.heap.size w1 wr)
  case atStart=>exact⟨0,by omega,rfl,rfl,rfl,Below.refl _ _⟩
  case round=>
   obtain⟨i,hi,rfl,rfl,hE,hb⟩:=hrel;have HE:=hid hE;have HBr:=hid hb;have HBw:=hid (below_out HB.out hb);clear hE hb;by_cases hin:i<n
   · obtain⟨s,hs⟩:∃ s,L[i]?=some s:=⟨_,List.getElem?_eq_getElem (by rw [HN.out];exact hin)⟩;obtain⟨g1,o1,rfl,q1⟩:=(HLb.out.next HBw.out) i s hs;have hsl:=HLl.out s (List.mem_of_getElem? hs);have HU:=hid (fun (W:World) (hT:LbAt W qy y)=>under_any y qy ny d1 HNy.out hyl HYm.out s hsl W hT);have HSg:=hid hs;have HTr:=hid (HT.out.next HBr.out);obtain⟨SA,hSA⟩:∃ S,str s=S:=⟨_,rfl⟩;rw [hSA] at q1 HU;cases hu:underS y s with
     |none=>
      rw [hu] at HU;unfold undV keyV at HU;dsimp only at HU;have HSt:=hid (find_none_s (ids:=idsF P) hs hu);clear hs hsl hSA hu;go_wp2_with (go_at_call 108;(with_reducible refine(HU.out _ HTr.out).mono ?_);rintro e w2 ⟨rfl,hb2⟩;have HB2:=hid (below_out HBr.out (below_out hb2 (below_new w2 (.cells #[.string ⟨#[]⟩,.string ⟨#[]⟩] 155 (0,0)))));clear hb2 HU);go_roundg (n-(i+1)+1)
      case measure=>omega
      case rel=>exact⟨i+1,by omega,rfl,by push_cast;go_num,HE.out.trans HSt.out,HB2.out⟩
     |some pl=>
      rw [hu] at HU;unfold undV keyV at HU;dsimp only at HU;obtain⟨SB,hSB⟩:∃ S,str pl=S:=⟨_,rfl⟩;rw [hSA,hSB] at HU;have hpl:=under_len HYm.out hsl hu;have HLk:=hid (fun (W:World) (g:Nat) (hT:Tab W t P m (.slice (some ⟨g1,o1,none⟩) n c1) v2 L) (hb:KBox W g (str s) (str pl))=>hT.lks (a:=s) (b:=pl) ⟨by omega,hpl⟩ hb);rw [hSA,hSB] at HLk;cases hid9:idsF P (s,pl) with
      |none=>
       rw [hid9] at HLk;have HSt:=hid (find_miss (ids:=idsF P) hs hu hid9);clear hs hsl hSA hSB hu hpl hid9;go_wp2_with (go_at_call 108;(with_reducible refine(HU.out _ HTr.out).mono ?_);rintro e w2 ⟨rfl,hb2⟩;have HB2:=hid (below_out HBr.out (below_out hb2 (below_new w2 (.cells #[.string SA,.string SB] 155 (0,0)))));have HK2:=hid (KBox.new w2 SA SB);clear hb2 HU);have hbD:Below w.heap.size w (w2.alloc (.cells #[.string SA,.string SB] 155 (0,0))).drew:=below_out (below_out HB.out HB2.out) (below_drewH _ 1);obtain⟨cc,hS0a,_⟩:=HLk.out (w2.alloc (.cells #[.string SA,.string SB] 155 (0,0))).drew w2.heap.size (HH.out.next hbD) (HK2.out.next (below_drewH _ 1));obtain⟨b0,hb0⟩:∃ b0,w2.heap.size=b0:=⟨_,rfl⟩;rw [hb0] at hS0a ⊢;refine wp_region_noPanic ?_;refine any_begin 11 (by kernel_rfl) (by kernel_rfl) ?_;refine late_begin (fun U=>LkS U t b0 m SA SB (.tuple #[.int .i64 cc,.bool (none:Option Int).isSome])) (fun _=>false) hS0a (fun hS=>?_);refine ltk (i:=0) (some 43) rfl rfl (v:= ?v0a) ?hy0a hS ?rest0a
       case hy0a=>intro w0 hSw;obtain⟨a0,a1,a2,a3⟩:=hSw;go_simp;try with_reducible rfl
       simp only [Act.put,sA,sB,sC];refine ltk (i:=1) (some 44) rfl rfl (v:= ?v1a) ?hy1a hS ?rest1a
       case hy1a=>intro w0 hSw;obtain⟨a0,a1,a2,a3⟩:=hSw;go_simp;try with_reducible rfl
       simp only [Act.put,sA,sB,sC];refine ltk (i:=2) (some 45) rfl rfl (v:= ?v2a) ?hy2a hS ?rest2a
       case hy2a=>intro w0 hSw;obtain⟨a0,a1,a2,a3⟩:=hSw;go_simp;try with_reducible rfl
       simp only [Act.put,sA,sB,sC];refine ltk (i:=3) (some 46) rfl rfl (v:= ?v3a) ?hy3a hS ?rest3a
       case hy3a=>intro w0 hSw;obtain⟨a0,a1,a2,a3⟩:=hSw;go_simp;try with_reducible rfl
       simp only [Act.put,sA,sB,sC];refine ltk (i:=4) (some 47) rfl rfl (v:= ?v4a) ?hy4a hS ?rest4a
       case hy4a=>intro w0 hSw;obtain⟨a0,a1,a2,a3⟩:=hSw;go_simp;try with_reducible rfl
       simp only [Act.put,sA,sB,sC];refine late_take (i:=5) (some 48) rfl rfl (by kernel_rfl) (by kernel_rfl) (by kernel_rfl) (by kernel_rfl) (by kernel_rfl) (fun _ _ _ h=>h) (by rfl) (v:=.tuple #[.int .i64 cc,.bool (none:Option Int).isSome]) ?hy5a hS ?rest5a
       case hy5a=>intro w0 hSw;exact exec_look rfl rfl rfl hSw.look
       simp only [Act.put,sA,sB,sC];refine ltk (i:=6) (some 42) rfl rfl (v:= ?v6a) ?hy6a hS ?rest6a
       case hy6a=>intro w0 hSw;obtain⟨a0,a1,a2,a3⟩:=hSw;go_simp;try with_reducible rfl
       simp only [Act.put,sA,sB,sC];refine ltk (i:=7) (some 49) rfl rfl (v:= ?v7a) ?hy7a hS ?rest7a
       case hy7a=>intro w0 hSw;obtain⟨a0,a1,a2,a3⟩:=hSw;go_simp;try with_reducible rfl
       simp only [Act.put,sA,sB,sC];refine ltk (i:=8) (some 50) rfl rfl (v:= ?v8a) ?hy8a hS ?rest8a
       case hy8a=>intro w0 hSw;obtain⟨a0,a1,a2,a3⟩:=hSw;go_simp;try with_reducible rfl
       simp only [Act.put,sA,sB,sC];refine ltk (i:=9) (some 12) rfl rfl (v:= ?v9a) ?hy9a hS ?rest9a
       case hy9a=>intro w0 hSw;obtain⟨a0,a1,a2,a3⟩:=hSw;go_simp;try with_reducible rfl
       simp only [Act.put,sA,sB,sC];refine ltk (i:=10) (some 13) rfl rfl (v:= ?v10a) ?hy10a hS ?rest10a
       case hy10a=>intro w0 hSw;obtain⟨a0,a1,a2,a3⟩:=hSw;go_simp;try with_reducible rfl
       simp only [Act.put,sA,sB,sC];refine late_done (by kernel_rfl) ?_ _;refine NoPanic.normal ?_;go_wp2;go_roundg (n-(i+1)+1)
       case measure=>omega
       case rel=>exact⟨i+1,by omega,rfl,by push_cast;go_num,HE.out.trans HSt.out,below_out HB2.out (below_drewH _ 1)⟩
      |some k0=>
       rw [hid9] at HLk;have HSt:=hid (find_hit (ids:=idsF P) hs hu hid9);clear hs hsl hSA hSB hu hpl hid9;go_wp2_with (go_at_call 108;(with_reducible refine(HU.out _ HTr.out).mono ?_);rintro e w2 ⟨rfl,hb2⟩;have HB2:=hid (below_out HBr.out (below_out hb2 (below_new w2 (.cells #[.string SA,.string SB] 155 (0,0)))));have HK2:=hid (KBox.new w2 SA SB);clear hb2 HU);have hbD:Below w.heap.size w (w2.alloc (.cells #[.string SA,.string SB] 155 (0,0))).drew:=below_out (below_out HB.out HB2.out) (below_drewH _ 1);obtain⟨cc,hS0b,hcc⟩:=HLk.out (w2.alloc (.cells #[.string SA,.string SB] 155 (0,0))).drew w2.heap.size (HH.out.next hbD) (HK2.out.next (below_drewH _ 1));obtain rfl:cc=k0:=hcc k0 rfl;obtain⟨b0,hb0⟩:∃ b0,w2.heap.size=b0:=⟨_,rfl⟩;rw [hb0] at hS0b ⊢;refine wp_region_noPanic ?_;refine any_begin 11 (by kernel_rfl) (by kernel_rfl) ?_;refine late_begin (fun U=>LkS U t b0 m SA SB (.tuple #[.int .i64 cc,.bool (some cc).isSome])) (fun _=>false) hS0b (fun hS=>?_);refine ltk (i:=0) (some 43) rfl rfl (v:= ?v0b) ?hy0b hS ?rest0b
       case hy0b=>intro w0 hSw;obtain⟨a0,a1,a2,a3⟩:=hSw;go_simp;try with_reducible rfl
       simp only [Act.put,sA,sB,sC];refine ltk (i:=1) (some 44) rfl rfl (v:= ?v1b) ?hy1b hS ?rest1b
       case hy1b=>intro w0 hSw;obtain⟨a0,a1,a2,a3⟩:=hSw;go_simp;try with_reducible rfl
       simp only [Act.put,sA,sB,sC];refine ltk (i:=2) (some 45) rfl rfl (v:= ?v2b) ?hy2b hS ?rest2b
       case hy2b=>intro w0 hSw;obtain⟨a0,a1,a2,a3⟩:=hSw;go_simp;try with_reducible rfl
       simp only [Act.put,sA,sB,sC];refine ltk (i:=3) (some 46) rfl rfl (v:= ?v3b) ?hy3b hS ?rest3b
       case hy3b=>intro w0 hSw;obtain⟨a0,a1,a2,a3⟩:=hSw;go_simp;try with_reducible rfl
       simp only [Act.put,sA,sB,sC];refine ltk (i:=4) (some 47) rfl rfl (v:= ?v4b) ?hy4b hS ?rest4b
       case hy4b=>intro w0 hSw;obtain⟨a0,a1,a2,a3⟩:=hSw;go_simp;try with_reducible rfl
       simp only [Act.put,sA,sB,sC];refine late_take (i:=5) (some 48) rfl rfl (by kernel_rfl) (by kernel_rfl) (by kernel_rfl) (by kernel_rfl) (by kernel_rfl) (fun _ _ _ h=>h) (by rfl) (v:=.tuple #[.int .i64 cc,.bool (some cc).isSome]) ?hy5b hS ?rest5b
       case hy5b=>intro w0 hSw;exact exec_look rfl rfl rfl hSw.look
       simp only [Act.put,sA,sB,sC];refine ltk (i:=6) (some 42) rfl rfl (v:= ?v6b) ?hy6b hS ?rest6b
       case hy6b=>intro w0 hSw;obtain⟨a0,a1,a2,a3⟩:=hSw;go_simp;try with_reducible rfl
       simp only [Act.put,sA,sB,sC];refine ltk (i:=7) (some 49) rfl rfl (v:= ?v7b) ?hy7b hS ?rest7b
       case hy7b=>intro w0 hSw;obtain⟨a0,a1,a2,a3⟩:=hSw;go_simp;try with_reducible rfl
       simp only [Act.put,sA,sB,sC];refine ltk (i:=8) (some 50) rfl rfl (v:= ?v8b) ?hy8b hS ?rest8b
       case hy8b=>intro w0 hSw;obtain⟨a0,a1,a2,a3⟩:=hSw;go_simp;try with_reducible rfl
       simp only [Act.put,sA,sB,sC];refine ltk (i:=9) (some 12) rfl rfl (v:= ?v9b) ?hy9b hS ?rest9b
       case hy9b=>intro w0 hSw;obtain⟨a0,a1,a2,a3⟩:=hSw;go_simp;try with_reducible rfl
       simp only [Act.put,sA,sB,sC];refine ltk (i:=10) (some 13) rfl rfl (v:= ?v10b) ?hy10b hS ?rest10b
       case hy10b=>intro w0 hSw;obtain⟨a0,a1,a2,a3⟩:=hSw;go_simp;try with_reducible rfl
       simp only [Act.put,sA,sB,sC];refine late_done (by kernel_rfl) ?_ _;refine NoPanic.normal ?_;go_wp2;go_ret2;exact⟨by rw [HE.out,HSt.out];rfl,hbD⟩
   · obtain rfl:n=i:=by omega
     have HV:=hid (show findO (idsF P) y L=none from by rw [HE.out,List.drop_of_length_le (by rw [HN.out];exact Nat.le_refl _)];rfl);go_wp2;go_ret2;exact⟨by rw [HV.out];rfl,HBw.out⟩
theorem all_any {w:World}{t:Nat}{P:List (B×Int)}{m:Option Nat}{v1 v2:Value}{L:List B} (h:Tab w t P m v1 v2 L):Calls Tryz.prog 99 #[.pointer (some ⟨t,0,none⟩)] w fun e w'=>∃ q d,e= .returned (.slice q P.length d)∧LbAt w' q (P.map (·.1))∧Below w.heap.size w w':=by
 obtain⟨j0,hj0,hy0,hy1,hy2⟩:=info_parts infoS;obtain⟨_,_,hc,_⟩:=h.tab.cells;obtain⟨p,n,c,rfl⟩:=own_slice3 h.tab.al;have hn:(P.map (·.1)).length=n:=(row_lenH h.tab.al).symm;have hnn:n≤64:=by have:=h.len;rw [←hn,List.length_map];exact this
 have HLb:=hid h.tab.al.lb;have HS:=hid (show ∀ x∈P.map (·.1),x.length≤253 from fun x hx=>by
  obtain⟨q,hq,rfl⟩:=List.mem_map.1 hx;obtain⟨⟨y,hy⟩,_⟩:=h.fine q hq;exact pat_short hy)
 rw [show P.length=n from by rw [←hn,List.length_map]];obtain⟨X,hX⟩:∃ X,P.map (·.1)=X:=⟨_,rfl⟩;rw [hX] at hn HLb HS ⊢;have HN:=hid hn;clear h hX hn;go_enter Tryz.func99,Tryz.ntmps99;go_wp2;go_loopg [3,13] (n+1) (fun gk s3 s13 wr=>∃ (i d:Nat) (q:Option Addr),i≤n∧gk=n-i+1∧s13= .int .i64 (i:Int)∧s3= .slice q i d∧OwnS wr w.heap.size (.slice q i d) (X.take i)∧Below w.heap.size w wr)
 case atStart=>exact⟨0,0,none,by omega,rfl,rfl,rfl,OwnS.nil _ _,Below.refl _ _⟩
 case round=>
  obtain⟨i,d,q,hi,rfl,rfl,rfl,ho,hb⟩:=hrel;have HO:=hid ho;have HB:=hid hb;clear ho hb;by_cases hin:i<n
  · have h1:i<X.length:=by rw [HN.out];exact hin
    obtain⟨x,hx⟩:∃ x,X[i]?=some x:=⟨_,List.getElem?_eq_getElem h1⟩;obtain⟨g1,o1,rfl,q1⟩:=(HLb.out.next HB.out) i x hx;have HCl:=hid (fun W:World=>cloneH x W (by have:=HS.out x (List.mem_of_getElem? hx);omega));have HTk:=hid (show X.take (i+1)=X.take i++ [x] from by rw [List.take_succ_eq_append_getElem h1,(List.getElem?_eq_some_iff.1 hx).2]);have HLi:=hid (show (X.take i).length=i from by rw [List.length_take];omega);obtain⟨Sx,hSx⟩:∃ S,str x=S:=⟨_,rfl⟩;have HSx:=hid hSx;rw [hSx] at q1 HCl;obtain⟨acc,hacc⟩:∃ acc,X.take i=acc:=⟨_,rfl⟩;rw [hacc] at HO HTk HLi;clear h1 hx hSx hacc;go_wp2_with (first|(go_at_call 58;(with_reducible refine(HCl.out _).mono ?_);rintro e w2 ⟨rfl,hb2⟩;have HB2:=hid (HB.out.trans (hb2.mono HB.out.size));have HO2:=hid (HO.out.keep hb2);clear hb2)|(at_builtin;refine wpList_append_own_at _ rfl (.tmp 17) (.tmp 20) 36 rfl w.heap.size 9 j0 _ 1 16 Tryz.underlying36 hj0 hy0 hy1 hy2 rfl (by decide) (.slice q i d) i (strC acc) (by go_simp) (by have h8:=HO2.out.alloc (.cells #[.string Sx] 9 (0,0));unfold OwnS at h8;rw [HLi.out] at h8;exact h8) ⟨w2.heap.size,0,none⟩ 1 1 [.string Sx] (by go_simp) rfl (cells_new w2 _ _) (by simp [Value.oneCell']) (by unfold maxLen;omega) (by omega) (by have h1:=HB2.out.size;simp;omega) ?_;intro v6 w3 hown hgr _ _;obtain⟨p7,L7,c7,rfl⟩:=own_slice3 hown;have HO3:=hid (show OwnS w3 w.heap.size (.slice p7 L7 c7) (acc++ [x]) from OwnS.put (by rw [HLi.out,HSx.out];exact hown));have HB3:=hid ((HB2.out.trans ((below_new w2 _).mono HB2.out.size)).trans (OwnS.below (HO2.out.alloc _) (by have h1:=HB2.out.size;simp;omega) hgr));obtain⟨hL7,_⟩:L7=i+1∧True:=⟨row_lenH hown,trivial⟩;subst hL7;clear hown hgr));go_roundg (n-(i+1)+1)
    case measure=>omega
    case rel=>exact⟨i+1,c7,p7,by omega,rfl,by push_cast;go_num,rfl,by rw [HTk.out];exact HO3.out,HB3.out⟩
  · obtain rfl:n=i:=by omega
    have HX:=hid (show X.take n=X from List.take_of_length_le (by rw [HN.out];exact Nat.le_refl _));rw [HX.out] at HO;go_wp2;go_ret;exact⟨q,d,rfl,HO.out.lb,HB.out⟩
open Go.RowKit
def okDg (base c:Int):Bool:=hexB c && decide (hexV c<base)
def digTo (base:Int) (s:ByteArray) (k:Nat):Bool:=(s.data.toList.take k).all fun b=>okDg base (b.toNat:Int)
def digAll (base:Int) (s:ByteArray):Bool:=decide (s.size≠0) && digTo base s s.size
def numL (base most:Int):List UInt8→Int→Option Int
 | [],n=>some n
 |b::r,n=>if hexV (b.toNat:Int) > most∨n > (most-hexV (b.toNat:Int)) / base then .none else numL base most r (n*base+hexV (b.toNat:Int))
def numN (base most:Int) (s:ByteArray):Int:=
 if most<0 then 0 else if digAll base s=false then 0 else (numL base most s.data.toList 0).getD 0
def numE (base most:Int) (s:ByteArray):Int:=
 if most<0 then 1 else if digAll base s=false then 3 else if (numL base most s.data.toList 0).isNone then 4 else 0
def errV (k:Int):Value:=if k=0 then .nilIface else .iface 74 (.int .i64 k)
theorem digTo_snoc (base:Int) (s:ByteArray) (k:Nat) (h:k<s.size):digTo base s (k+1)=(digTo base s k && okDg base (s[k].toNat:Int)):=by
 unfold digTo;rw [take_snoc s k h];simp
theorem digTo_stop (base:Int) (s:ByteArray) (k:Nat) (h:k<s.size) (ht:okDg base (s[k].toNat:Int)=false):digAll base s=false:=by
 unfold digAll digTo;have:((s.data.toList.take s.size).all fun b=>okDg base (b.toNat:Int))=false:=by
  rw [List.all_eq_false];refine⟨s[k],?_,by simp [ht]⟩;rw [List.take_of_length_le (by simp)];exact List.getElem_mem (by simpa using h)
 rw [this];simp
theorem hexV_bd (c:Int):0≤hexV c∧hexV c≤15:=by
 unfold hexV;(repeat' split) <;> omega
theorem drop_cons (s:ByteArray) (k:Nat) (h:k<s.size):s.data.toList.drop k=s[k]::s.data.toList.drop (k+1):=by
 rw [List.drop_eq_getElem_cons (by simpa using h)];rfl
theorem numL_stop {base most n:Int}{s:ByteArray}{k:Nat} (h:k<s.size) (hl:numL base most (s.data.toList.drop k) n=numL base most s.data.toList 0)
  (hb:hexV (s[k].toNat:Int) > most∨n > (most-hexV (s[k].toNat:Int)) / base):numL base most s.data.toList 0= .none:=by
 rw [←hl,drop_cons s k h,numL,if_pos hb]
theorem numL_step {base most n:Int}{s:ByteArray}{k:Nat} (h:k<s.size) (hl:numL base most (s.data.toList.drop k) n=numL base most s.data.toList 0)
  (hb:¬(hexV (s[k].toNat:Int) > most∨n > (most-hexV (s[k].toNat:Int)) / base)):numL base most (s.data.toList.drop (k+1)) (n*base+hexV (s[k].toNat:Int))=numL base most s.data.toList 0:=by
 rw [←hl,drop_cons s k h,numL,if_neg hb]
theorem numL_end {base most n:Int}{s:ByteArray}{k:Nat} (h:¬k<s.size) (hl:numL base most (s.data.toList.drop k) n=numL base most s.data.toList 0):numL base most s.data.toList 0=some n:=by
 rw [←hl,List.drop_eq_nil_of_le (by simp;omega),numL]
theorem way_neg {base most:Int} (s:ByteArray) (h:most<0):numN base most s=0∧numE base most s=1:=by simp [numN,numE,h]
theorem way_form {base most:Int}{s:ByteArray} (h:0≤most) (hd:digAll base s=false):numN base most s=0∧numE base most s=3:=by simp [numN,numE,Int.not_lt.2 h,hd]
theorem way_range {base most:Int}{s:ByteArray} (h:0≤most) (hd:digAll base s=true) (hl:numL base most s.data.toList 0= .none):numN base most s=0∧numE base most s=4:=by simp [numN,numE,Int.not_lt.2 h,hd,hl]
theorem way_ok {base most n:Int}{s:ByteArray} (h:0≤most) (hd:digAll base s=true) (hl:numL base most s.data.toList 0=some n):numN base most s=n∧numE base most s=0:=by simp [numN,numE,Int.not_lt.2 h,hd,hl]
theorem end_iv {base most n k:Int}{s:ByteArray}{v:Value}{w w':World} (hv:v=errV k) (hw:w'=w) (h:numN base most s=n∧numE base most s=k):
 Ending.returned (.tuple #[.int .i64 n,v])= .returned (.tuple #[.int .i64 (numN base most s),errV (numE base most s)])∧w'=w:=by rw [h.1,h.2,hv];exact⟨rfl,hw⟩
theorem end_ii {base most n k:Int}{s:ByteArray}{w w':World} (hw:w'=w) (h:numN base most s=n∧numE base most s=k):
 Ending.returned (.tuple #[.int .i64 n,.int .i64 k])= .returned (.tuple #[.int .i64 (numN base most s),.int .i64 (numE base most s)])∧w'=w:=by rw [h.1,h.2];exact⟨rfl,hw⟩
theorem digits10_any (s:ByteArray) (w:World) (hs:s.size≤maxLen):
  Calls Tryz.prog 171 #[.string s,.int .i64 10] w fun e w'=>e= .returned (.bool (digAll 10 s))∧w'=w:=by
 unfold maxLen at hs;go_enter Tryz.func171,Tryz.ntmps171;go_wp2;go_loop [10] (fun i=>∃ k:Nat,k≤s.size∧i= .int .i64 k∧digTo 10 s k=true) (fun i=>s.size-(intOf i).toNat)
 case atStart=>exact⟨0,Nat.zero_le _,rfl,rfl⟩
 case round=>
  obtain⟨k,hk,rfl,hall⟩:=hrel;by_cases hlt:k<s.size
  · have hb:=s[k].toNat_lt;have hv:=hexV_bd (s[k].toNat:Int);by_cases hx:hexB (s[k].toNat:Int)=true
    · by_cases hd:hexV (s[k].toNat:Int)<10
      · go_wp2_with (go_at_call 172;refine(hex_any _ _ (by omega) (by omega)).mono ?_;rintro e w' ⟨rfl,rfl⟩);go_round
        case rel=>exact⟨k+1,by omega,by go_num,by rw [digTo_snoc 10 s k hlt,hall];simp [okDg,hx,hd]⟩
        case measure=>simp [intOf];omega
      · go_wp2_with (go_at_call 172;refine(hex_any _ _ (by omega) (by omega)).mono ?_;rintro e w' ⟨rfl,rfl⟩);go_ret;exact⟨ret_bool (digTo_stop 10 s k hlt (by simp [okDg,hx];omega)).symm,rfl⟩
    · go_wp2_with (go_at_call 172;refine(hex_any _ _ (by omega) (by omega)).mono ?_;rintro e w' ⟨rfl,rfl⟩);go_ret;exact⟨ret_bool (digTo_stop 10 s k hlt (by simp [okDg,hx])).symm,rfl⟩
  · go_wp2;go_ret;have hk':k=s.size:=by omega
    exact⟨ret_bool (by unfold digAll;rw [←hk',hall,empty_size,←hk'];simp),rfl⟩
theorem number10_any (s:ByteArray) (most:Int) (w:World) (hs:s.size≤maxLen) (hm:most≤9223372036854775807) (hm0: -9223372036854775808≤most):
  Calls Tryz.prog 151 #[.string s,.int .i64 10,.int .i64 most] w fun e w'=>e= .returned (.tuple #[.int .i64 (numN 10 most s),errV (numE 10 most s)])∧w'=w:=by
 have hs2:=hs;unfold maxLen at hs;by_cases hneg:most<0
 · have hW:Hid (numN 10 most s=0∧numE 10 most s=1):=way_neg s hneg;go_enter Tryz.func151,Tryz.ntmps151;go_wp2;go_ret2;exact end_iv rfl rfl hW.out
 have hH:Hid (0≤most):=Int.not_lt.1 hneg;by_cases hdig:digAll 10 s=false
 · have hW:Hid (numN 10 most s=0∧numE 10 most s=3):=way_form hH.out hdig;go_enter Tryz.func151,Tryz.ntmps151;go_wp2_with (go_at_call 171;refine(digits10_any _ _ hs2).mono ?_;rintro e w' ⟨rfl,rfl⟩);go_ret2;exact end_iv rfl rfl hW.out
 have hdig':digAll 10 s=true:=by simpa using hdig
 have hD:Hid (digAll 10 s=true):=hdig';go_enter Tryz.func151,Tryz.ntmps151;go_wp2_with (go_at_call 171;refine(digits10_any _ _ hs2).mono ?_;rintro e w' ⟨rfl,rfl⟩);go_loop [8,22] (fun t i=>∃ (k:Nat) (n:Int),k≤s.size∧i= .int .i64 k∧t= .int .i64 n∧0≤n∧n≤most∧Hid (numL 10 most (s.data.toList.drop k) n=numL 10 most s.data.toList 0)) (fun _ i=>s.size-(intOf i).toNat)
 case atStart=>exact⟨0,0,Nat.zero_le _,rfl,rfl,by omega,by omega,rfl⟩
 case round=>
  obtain⟨k,n,hk,rfl,rfl,hn0,hn1,hl⟩:=hrel;by_cases hlt:k<s.size
  · have hb:=s[k].toNat_lt;have hv:=hexV_bd (s[k].toNat:Int);by_cases hx:hexV (s[k].toNat:Int) > most
    · have hW:Hid (numN 10 most s=0∧numE 10 most s=4):=way_range hH.out hD.out (numL_stop hlt hl.out (.inl hx));go_wp2_with (go_at_call 172;refine(hex_any _ _ (by omega) (by omega)).mono ?_;rintro e w' ⟨rfl,rfl⟩);go_ret2;exact end_iv rfl rfl hW.out
    · by_cases hd:n > (most-hexV (s[k].toNat:Int)) / 10
      · have hW:Hid (numN 10 most s=0∧numE 10 most s=4):=way_range hH.out hD.out (numL_stop hlt hl.out (.inr hd));go_wp2_with (go_at_call 172;refine(hex_any _ _ (by omega) (by omega)).mono ?_;rintro e w' ⟨rfl,rfl⟩);go_ret2;exact end_iv rfl rfl hW.out
      · have hle:n*10+hexV (s[k].toNat:Int)≤most:=by omega
        have hst:Hid (numL 10 most (s.data.toList.drop (k+1)) (n*10+hexV (s[k].toNat:Int))=numL 10 most s.data.toList 0):=numL_step hlt hl.out (by omega);go_wp2_with (go_at_call 172;refine(hex_any _ _ (by omega) (by omega)).mono ?_;rintro e w' ⟨rfl,rfl⟩);go_round
        case rel=>exact⟨k+1,n*10+hexV (s[k].toNat:Int),by omega,by go_num,rfl,by omega,by omega,hst⟩
        case measure=>simp [intOf];omega
  · have hW:Hid (numN 10 most s=n∧numE 10 most s=0):=way_ok hH.out hD.out (numL_end hlt hl.out);go_wp2;go_ret2;exact end_iv rfl rfl hW.out
theorem rnumber10_any (s:ByteArray) (most:Int) (w:World) (hs:s.size≤maxLen) (hm:most≤9223372036854775807) (hm0: -9223372036854775808≤most):
  Calls Tryz.prog 126 #[.string s,.int .i64 10,.int .i64 most] w fun e w'=>e= .returned (.tuple #[.int .i64 (numN 10 most s),.int .i64 (numE 10 most s)])∧w'=w:=by
 have hs2:=hs;unfold maxLen at hs;by_cases hneg:most<0
 · have hW:Hid (numN 10 most s=0∧numE 10 most s=1):=way_neg s hneg;go_enter Tryz.func126,Tryz.ntmps126;go_wp2;go_ret2;exact end_ii rfl hW.out
 have hH:Hid (0≤most):=Int.not_lt.1 hneg;go_enter Tryz.func126,Tryz.ntmps126;go_wp2;go_loop [8] (fun i=>∃ k:Nat,k≤s.size∧i= .int .i64 k∧Hid (digTo 10 s k=true)) (fun i=>s.size-(intOf i).toNat)
 case atStart=>exact⟨0,Nat.zero_le _,rfl,rfl⟩
 case round=>
  obtain⟨k0,hk0,rfl,hall⟩:=hrel;by_cases hlt0:k0<s.size
  · have hb:=s[k0].toNat_lt;have hv:=hexV_bd (s[k0].toNat:Int);by_cases hx:hexB (s[k0].toNat:Int)=true
    · by_cases hd:hexV (s[k0].toNat:Int)<10
      · have hst:Hid (digTo 10 s (k0+1)=true):=(show digTo 10 s (k0+1)=true by rw [digTo_snoc 10 s k0 hlt0,hall.out];simp [okDg,hx,hd]);go_wp2_with (go_at_call 152;refine(rhex_any _ _ (by omega) (by omega)).mono ?_;rintro e w' ⟨rfl,rfl⟩);go_round
        case rel=>exact⟨k0+1,by omega,by go_num,hst⟩
        case measure=>simp [intOf];omega
      · have hW:Hid (numN 10 most s=0∧numE 10 most s=3):=way_form hH.out (digTo_stop 10 s k0 hlt0 (by simp [okDg,hx];omega));go_wp2_with (go_at_call 152;refine(rhex_any _ _ (by omega) (by omega)).mono ?_;rintro e w' ⟨rfl,rfl⟩);go_ret2;exact end_ii rfl hW.out
    · have hW:Hid (numN 10 most s=0∧numE 10 most s=3):=way_form hH.out (digTo_stop 10 s k0 hlt0 (by simp [okDg,hx]));go_wp2_with (go_at_call 152;refine(rhex_any _ _ (by omega) (by omega)).mono ?_;rintro e w' ⟨rfl,rfl⟩);go_ret2;exact end_ii rfl hW.out
  · have hk':k0=s.size:=by omega
    by_cases hz:s.size=0
    · have hW:Hid (numN 10 most s=0∧numE 10 most s=3):=way_form hH.out (by simp [digAll,hz]);go_wp2;go_ret2;exact end_ii rfl hW.out
    · have hD:Hid (digAll 10 s=true):=(show digAll 10 s=true by unfold digAll;rw [←hk',hall.out,hk'];simp [hz]);clear hk';go_wp2;go_loop [11,12] (fun t i=>∃ (k:Nat) (n:Int),k≤s.size∧i= .int .i64 k∧t= .int .i64 n∧0≤n∧n≤most∧Hid (numL 10 most (s.data.toList.drop k) n=numL 10 most s.data.toList 0)) (fun _ i=>s.size-(intOf i).toNat)
      case atStart=>exact⟨0,0,Nat.zero_le _,rfl,rfl,by omega,by omega,rfl⟩
      case round=>
       obtain⟨k,n,hk,rfl,rfl,hn0,hn1,hl⟩:=hrel;by_cases hlt:k<s.size
       · have hb:=s[k].toNat_lt;have hv:=hexV_bd (s[k].toNat:Int);by_cases hx:hexV (s[k].toNat:Int) > most
         · have hW:Hid (numN 10 most s=0∧numE 10 most s=4):=way_range hH.out hD.out (numL_stop hlt hl.out (.inl hx));go_wp2_with (go_at_call 152;refine(rhex_any _ _ (by omega) (by omega)).mono ?_;rintro e w' ⟨rfl,rfl⟩);go_ret2;exact end_ii rfl hW.out
         · by_cases hd:n > (most-hexV (s[k].toNat:Int)) / 10
           · have hW:Hid (numN 10 most s=0∧numE 10 most s=4):=way_range hH.out hD.out (numL_stop hlt hl.out (.inr hd));go_wp2_with (go_at_call 152;refine(rhex_any _ _ (by omega) (by omega)).mono ?_;rintro e w' ⟨rfl,rfl⟩);go_ret2;exact end_ii rfl hW.out
           · have hle:n*10+hexV (s[k].toNat:Int)≤most:=by omega
             have hst:Hid (numL 10 most (s.data.toList.drop (k+1)) (n*10+hexV (s[k].toNat:Int))=numL 10 most s.data.toList 0):=numL_step hlt hl.out (by omega);go_wp2_with (go_at_call 152;refine(rhex_any _ _ (by omega) (by omega)).mono ?_;rintro e w' ⟨rfl,rfl⟩);go_round
             case rel=>exact⟨k+1,n*10+hexV (s[k].toNat:Int),by omega,by go_num,rfl,by omega,by omega,hst⟩
             case measure=>simp [intOf];omega
       · have hW:Hid (numN 10 most s=n∧numE 10 most s=0):=way_ok hH.out hD.out (numL_end hlt hl.out);go_wp2;go_ret2;exact end_ii rfl hW.out
theorem decimal_any (s:ByteArray) (most:Int) (w:World) (hs:s.size≤maxLen) (hm:most≤9223372036854775807) (hm0: -9223372036854775808≤most):
  Calls Tryz.prog 123 #[.string s,.int .i64 most] w fun e w'=>e= .returned (.tuple #[.int .i64 (numN 10 most s),errV (numE 10 most s)])∧w'=w:=by
 go_enter Tryz.func123,Tryz.ntmps123;go_wp2_with (go_at_call 151;refine(number10_any _ _ _ hs hm hm0).mono ?_;rintro e w' ⟨rfl,rfl⟩);go_ret2;exact⟨rfl,rfl⟩
theorem rdecimal_any (s:ByteArray) (most:Int) (w:World) (hs:s.size≤maxLen) (hm:most≤9223372036854775807) (hm0: -9223372036854775808≤most):
  Calls Tryz.prog 86 #[.string s,.int .i64 most] w fun e w'=>e= .returned (.tuple #[.int .i64 (numN 10 most s),.int .i64 (numE 10 most s)])∧w'=w:=by
 go_enter Tryz.func86,Tryz.ntmps86;go_wp2_with (go_at_call 126;refine(rnumber10_any _ _ _ hs hm hm0).mono ?_;rintro e w' ⟨rfl,rfl⟩);go_ret2;exact⟨rfl,rfl⟩
end Go.Proofs.YtlmlljlappjjjaaGreatDoor
