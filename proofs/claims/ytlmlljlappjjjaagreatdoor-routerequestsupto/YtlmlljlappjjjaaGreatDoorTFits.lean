/- Whether a pattern fits a path's segments, by the document. -/
import Derived.Test.YtlmlljlappjjjaaGreatDoorTAlike
namespace Go.Proofs.YtlmlljlappjjjaaGreatDoor
open Go.RowKit
def FitAns (o:Option (List (B×B))) (w:World) (e:Ending) (w':World):Prop:=match o with
 |none=>e= .returned (.tuple #[.bool false,.slice none 0 0])∧Below w.heap.size w w'
 |some F=>∃ q d,e= .returned (.tuple #[.bool true,.slice q F.length d])∧OwnF w' w.heap.size (.slice q F.length d) F∧Below w.heap.size w w'
theorem fitAns_no {o:Option (List (B×B))}{w w':World}{e:Ending} (h:o=none) (he:e= .returned (.tuple #[.bool false,.slice none 0 0])) (hb:Below w.heap.size w w'):FitAns o w e w':=by subst h;exact⟨he,hb⟩
theorem fitAns_yes {o:Option (List (B×B))}{F:List (B×B)}{w w':World}{e:Ending}{q:Option Addr}{n d:Nat} (h:o=some F) (hn:F.length=n) (he:e= .returned (.tuple #[.bool true,.slice q n d])) (ho:OwnF w' w.heap.size (.slice q n d) F) (hb:Below w.heap.size w w'):FitAns o w e w':=by subst h;subst hn;exact⟨q,d,he,ho,hb⟩
theorem drop_at {l:List B}{i:Nat}{a:B} (h:l[i]?=some a):l.drop i=a::l.drop (i+1):=by
 obtain⟨h1,e1⟩:=List.getElem?_eq_some_iff.1 h;rw [List.drop_eq_getElem_cons h1,e1]
theorem fit_rest {x y:List B}{i:Nat}{a b:B} (ha:x[i]?=some a) (hb:y[i]?=some b) (hk:kindT a=2):fitsT (x.drop i) (y.drop i)=some [(a.tail,joinT (y.drop i))]:=by
 rw [drop_at ha,drop_at hb,fitsT,if_pos hk]
theorem fit_par {x y:List B}{i:Nat}{a b:B} (ha:x[i]?=some a) (hb:y[i]?=some b) (hk:kindT a=1) (hn:b≠ []):fitsT (x.drop i) (y.drop i)=(fitsT (x.drop (i+1)) (y.drop (i+1))).map ((a.tail,b):: ·):=by
 rw [drop_at ha,drop_at hb,fitsT,if_neg (by omega),if_pos hk,if_neg hn]
theorem fit_par0 {x y:List B}{i:Nat}{a:B} (ha:x[i]?=some a) (hb:y[i]?=some []) (hk:kindT a=1):fitsT (x.drop i) (y.drop i)=none:=by
 rw [drop_at ha,drop_at hb,fitsT,if_neg (by omega),if_pos hk,if_pos rfl]
theorem fit_plain {x y:List B}{i:Nat}{a b:B} (ha:x[i]?=some a) (hb:y[i]?=some b) (hk:kindT a=0) (hn:a=b):fitsT (x.drop i) (y.drop i)=fitsT (x.drop (i+1)) (y.drop (i+1)):=by
 rw [drop_at ha,drop_at hb,fitsT,if_neg (by omega),if_neg (by omega),if_pos hn]
theorem fit_plain0 {x y:List B}{i:Nat}{a b:B} (ha:x[i]?=some a) (hb:y[i]?=some b) (hk:kindT a=0) (hn:¬a=b):fitsT (x.drop i) (y.drop i)=none:=by
 rw [drop_at ha,drop_at hb,fitsT,if_neg (by omega),if_neg (by omega),if_neg hn]
theorem fit_short {x y:List B}{i:Nat} (ha:i<x.length) (hb:y.length≤i):fitsT (x.drop i) (y.drop i)=none:=by
 rw [List.drop_eq_getElem_cons ha,List.drop_of_length_le hb,fitsT]
theorem TxAt.drop {w:World}{p:Option Addr}{l:List B}{i:Nat}{g o:Nat} (h:TxAt w p l) (e:p=some ⟨g,o,none⟩):TxAt w (some ⟨g,o+i,none⟩) (l.drop i):=by
 intro j t hj;rw [List.getElem?_drop] at hj;obtain⟨g1,o1,e1,hc⟩:=h _ t hj;rw [e] at e1;injection e1 with e1;injection e1 with e2 e3
 subst e2 e3;exact⟨g,o+i,rfl,by rw [show o+i+j=o+(i+j) by omega];exact hc⟩
theorem joinT_drop:∀ (l:List B) (i:Nat),(joinT (l.drop i)).length≤(joinT l).length
 | [],i=>by simp
 |x::l,0=>Nat.le_refl _
 | [x],i+1=>by simp [joinT]
 |x::y::l,i+1=>by
  have ih:=joinT_drop (y::l) i;show (joinT ((y::l).drop i)).length≤(x++47::joinT (y::l)).length;simp only [List.length_append,List.length_cons];omega
theorem OwnF.lowT {w:World}{b b':Nat}{v:Value}{acc:List (B×B)} (h:OwnF w b v acc) (hb:b'≤b):OwnF w b' v acc:=by
 refine⟨h.1,?_⟩;rcases h.2 with h1|⟨g,cap,cur,h1,h2,h3⟩
 · exact .inl h1
 · exact .inr ⟨g,cap,cur,h1,Nat.le_trans hb h2,h3⟩
structure Two (U:World) (g1 o1 g2 o2:Nat) (X Y:ByteArray):Prop where
 a0:U.cell? ⟨g1,o1,none⟩=some (.string X)
 a1:U.cell? ⟨g2,o2,none⟩=some (.string Y)
set_option maxRecDepth 20000 in
set_option maxHeartbeats 16000000 in
theorem rfits_any_r (tp:B) (ht:tp.length<4398046511104) (y:List B) (py:Option Addr) (m c:Nat) (hm:y.length=m) (hmm:m≤4398046511104) (hmc:m≤c) (hyl:(joinT y).length≤4398046511104) (w:World) (hT:TxAt w py y):
  Calls Tryz.prog 54 #[.string (str (47::tp)),.slice py m c] w fun e w'=>FitAns (fitsT (cutT tp) y) w e w':=by
 obtain⟨i0,hi0,hz0,hz1,hz2⟩:=info_parts infoF;have HSa:=hid (fun W:World=>rsplit_yes tp ht W);have HXa:=hid (show ∀ x∈cutT tp,x.length≤4398046511104 from fun x h=>Nat.le_trans (cutT_mem_len h) (by omega));have HXb:=hid (show ∀ x∈y,x.length≤4398046511104 from fun x h=>Nat.le_trans (joinT_mem h) hyl);have hla:=cutT_len tp;have HKi:=hid (fun (x:B) (hx:x.length≤4398046511104) (W:World)=>rkind_any x hx W);have HM:=hid hm;have HTy:=hid hT;have HYl:=hid hyl;obtain⟨x,hx⟩:∃ x,cutT tp=x:=⟨_,rfl⟩;rw [hx] at HSa HXa hla ⊢;obtain⟨A,hA⟩:∃ A,str (47::tp)=A:=⟨_,rfl⟩;rw [hA] at HSa ⊢;obtain⟨n,hn⟩:∃ n,x.length=n:=⟨_,rfl⟩;have HN:=hid hn;rw [hn] at HSa hla;have hnn:n≤4398046511104:=by omega
 clear hx hA hn hm hla ht hT hyl;go_enter Tryz.func54,Tryz.ntmps54;go_wp2_with (go_at_call 53;((with_reducible refine(HSa.out _).mono ?_);rintro e w1 ⟨p1,c1,rfl,ho,hb⟩;have HT1:=hid ho.tx;have HT2:=hid (HTy.out.next hb);have HB1:=hid hb;clear ho hb HSa HTy));go_loopg [8,9] (n+1) (fun gk s8 s9 wr=>∃ (i k:Nat) (q:Option Addr) (d:Nat) (acc:List (B×B)),i≤n∧i≤m∧gk=n-i+1∧s9= .int .i64 (i:Int)∧s8= .slice q k d∧acc.length=k∧k≤i∧OwnF wr w1.heap.size (.slice q k d) acc∧fitsT x y=(fitsT (x.drop i) (y.drop i)).map (acc++ ·)∧Below w1.heap.size w1 wr)
 case atStart=>exact⟨0,0,none,0,[],by omega,by omega,rfl,rfl,rfl,rfl,by omega,OwnF.nil _ _,by show fitsT x y=(fitsT x y).map _;cases fitsT x y <;> simp,Below.refl _ _⟩
 case round=>
  obtain⟨i,k,q,d,acc,hi,him,rfl,rfl,rfl,hacc,hki,hO,hE,hb⟩:=hrel;have HE:=hid hE;have HB:=hid hb;have HO:=hid hO;have HAc:=hid hacc;clear hE hb hO hacc;by_cases hin:i<n
  · have HIn:=hid (show i<x.length from by rw [HN.out];exact hin);by_cases hjm:i<m
    · obtain⟨a,ha⟩:∃ a,x[i]?=some a:=⟨_,List.getElem?_eq_getElem HIn.out⟩;obtain⟨b,hb⟩:∃ b,y[i]?=some b:=⟨_,List.getElem?_eq_getElem (by rw [HM.out];exact hjm)⟩;have HKa:=hid (fun W:World=>HKi.out a (HXa.out a (List.mem_of_getElem? ha)) W);have hla:=HXa.out a (List.mem_of_getElem? ha);have hk2:=kindT_le a;obtain⟨g1,o1,rfl,q1⟩:=(HT1.out.next HB.out) i a ha;have HTd:=hid (fun (g o:Nat) (e:py=some ⟨g,o,none⟩)=>(HT2.out.next HB.out).drop (i:=i) e);obtain⟨g2,o2,rfl,q2⟩:=(HT2.out.next HB.out) i b hb;have HK1:=hid (show ∀ U,Below w1.heap.size w1 U→U.cell? ⟨g1,o1+i,none⟩=some (.string (str a)) from fun U hU=>by
       obtain⟨g',o',e',c'⟩:=(HT1.out.next hU) i a ha;injection e' with e';injection e' with e1 e2;subst e1 e2;exact c')
      have HK2:=hid (show ∀ U,Below w1.heap.size w1 U→U.cell? ⟨g2,o2+i,none⟩=some (.string (str b)) from fun U hU=>by
       obtain⟨g',o',e',c'⟩:=(HT2.out.next hU) i b hb;injection e' with e';injection e' with e1 e2;subst e1 e2;exact c')
      obtain⟨Sa,hSa⟩:∃ S,str a=S:=⟨_,rfl⟩;obtain⟨Sb,hSb⟩:∃ S,str b=S:=⟨_,rfl⟩;have HRs:=hid (fun hk=>fit_rest ha hb hk);have HPr:=hid (fun hk hn=>fit_par ha hb hk hn);have HPl:=hid (fun hk hn=>fit_plain ha hb hk hn);have HPn:=hid (fun hk hn=>fit_plain0 ha hb hk hn);have HIn1:=hid (show Sa=Sb→a=b from fun h=>str_injT (by rw [hSa,hSb];exact h));have HIn2:=hid (show a=b→Sa=Sb from fun h=>by rw [←hSa,←hSb,h]);have HSb:=hid hSb;rw [hSa] at HKa HK1 q1;rw [hSb] at HK2 q2;by_cases k0:kindT a=0
      · rw [k0] at HKa;have hq:((0:Int)== 2)=false:=rfl;by_cases hab:a=b
        · have hS:=HIn2.out hab;subst hS;have HX:=hid (HPl.out k0 hab);rw [HX.out] at HE;clear ha hb hab k0 hSa hSb;go_wp2_with (go_at_call 62;((with_reducible refine(HKa.out _).mono ?_);rintro e w2 ⟨rfl,hw2⟩;subst w2));go_quiet (fail);go_wp2;go_roundg (n-(i+1)+1)
          case measure=>omega
          case rel=>exact⟨i+1,k,q,d,acc,by omega,by omega,rfl,by push_cast;go_num,rfl,HAc.out,by omega,HO.out.keep (below_drewT _ _),HE.out,HB.out.trans ((below_drewT _ _).mono HB.out.size)⟩
        · have hS:¬Sa=Sb:=fun h=>hab (HIn1.out h)
          have hS4:(Sa.toList== Sb.toList)=false:=ne_list hS;have hS5:(!Sa.toList== Sb.toList)=true:=by rw [hS4];rfl
          have HX:=hid (HPn.out k0 hab);rw [HX.out] at HE;clear ha hb hab k0 hSa hSb;go_wp2_with (go_at_call 62;((with_reducible refine(HKa.out _).mono ?_);rintro e w2 ⟨rfl,hw2⟩;subst w2));go_quiet (fail);go_wp2;go_ret2;exact fitAns_no HE.out rfl (below_out HB1.out (HB.out.trans ((below_drewT _ _).mono HB.out.size)))
      · have hne:a≠ []:=fun e=>k0 (by rw [e];rfl)
        have hsz:Sa.size=a.length:=by rw [←hSa,str_size]
        have h1a:1≤a.length:=by cases a with
         |nil=>exact absurd rfl hne
         |cons _ _=>simp
        obtain⟨NL,hNL⟩:∃ NL,a.length=NL:=⟨_,rfl⟩;have HE1:=hid (show Sa.extract 1 NL=str a.tail from by rw [←hSa,ext_drop a 1 NL hNL,List.drop_one]);rw [hNL] at hsz h1a hla;obtain⟨Tl,hTl⟩:∃ T,str a.tail=T:=⟨_,rfl⟩;have HTl:=hid hTl;rw [hTl] at HE1;have HB0:=hid (show Below w1.heap.size w1 wr.drew from HB.out.drew);have HO0:=hid (show OwnF wr.drew w1.heap.size (.slice q k d) acc from HO.out.keep ⟨rfl,rfl,rfl,Nat.le_refl _,fun _ _=>rfl⟩);by_cases k1:kindT a=1
        · rw [k1] at HKa;by_cases hbe:b= []
          · have HX:=hid (fit_par0 ha (by rw [hb,hbe]) k1);rw [HX.out] at HE;obtain rfl:(⟨#[]⟩:ByteArray)=Sb:=by rw [←hSb,hbe]
            clear ha hb hbe k0 k1 hSa hSb hNL hTl;go_wp2_with (go_at_call 62;((with_reducible refine(HKa.out _).mono ?_);rintro e w2 ⟨rfl,hw2⟩;subst w2));go_ret2;exact fitAns_no HE.out rfl (below_out HB1.out HB.out)
          · have HX:=hid (HPr.out k1 hbe);have hSn:¬Sb=(⟨#[]⟩:ByteArray):=fun e=>hbe (str_injT (by rw [hSb,e]))
            have hS4:(Sb.toList== (⟨#[]⟩:ByteArray).toList)=false:=ne_list hSn;have hS5:(Sb.toList== [])=false:=by have h:=hS4;rw [ByteArray.toList_eq,ByteArray.toList_eq] at h;rw [ByteArray.toList_eq];exact h
            have HCs:=hid (show [Value.string Tl,Value.string Sb]=fldC [(a.tail,b)] from by rw [←hTl,←hSb];rfl);have hS0:Two wr.drew g1 (o1+i) g2 (o2+i) Sa Sb:=⟨HK1.out _ HB0.out,HK2.out _ HB0.out⟩;clear ha hb hbe k0 k1 hSa hSb hNL hTl;go_wp2_with (go_at_call 62;((with_reducible refine(HKa.out _).mono ?_);rintro e w2 ⟨rfl,hw2⟩;subst w2));refine wp_region_noPanic ?_;refine any_begin 14 (by kernel_rfl) (by kernel_rfl) ?_;refine late_begin (fun U=>Two U g1 (o1+i) g2 (o2+i) Sa Sb) (fun _=>false) hS0 (fun hS=>?_);refine ltk (i:=0) (some 61) rfl rfl (v:= ?v0p) ?hy0p hS ?rest0p
            case hy0p=>intro w0 hSw;obtain⟨a0,a1⟩:=hSw;go_simp;try with_reducible rfl
            simp only [Act.put,sA,sB,sC];refine ltk (i:=1) (some 62) rfl rfl (v:= ?v1p) ?hy1p hS ?rest1p
            case hy1p=>intro w0 hSw;obtain⟨a0,a1⟩:=hSw;go_simp;try with_reducible rfl
            simp only [Act.put,sA,sB,sC];refine ltk (i:=2) (some 63) rfl rfl (v:= ?v2p) ?hy2p hS ?rest2p
            case hy2p=>intro w0 hSw;obtain⟨a0,a1⟩:=hSw;go_simp;try with_reducible rfl
            simp only [Act.put,sA,sB,sC];refine ltk (i:=3) (some 64) rfl rfl (v:= ?v3p) ?hy3p hS ?rest3p
            case hy3p=>intro w0 hSw;obtain⟨a0,a1⟩:=hSw;go_simp;try with_reducible rfl
            simp only [Act.put,sA,sB,sC];refine ltk (i:=4) (some 65) rfl rfl (v:= ?v4p) ?hy4p hS ?rest4p
            case hy4p=>intro w0 hSw;obtain⟨a0,a1⟩:=hSw;go_simp;try with_reducible rfl
            simp only [Act.put,sA,sB,sC];refine late_take (i:=5) (some 66) rfl rfl (by kernel_rfl) (by kernel_rfl) (by kernel_rfl) (by kernel_rfl) (by kernel_rfl) (fun _ _ _ h=>h) (by rfl) (v:=.string Tl) ?hy5p hS ?rest5p
            case hy5p=>intro w0 hSw;obtain⟨a0,a1⟩:=hSw;go_simp;(try rw [if_pos (by omega)]);(try rw [if_pos (by omega)]);(try simp only [Int.toNat_natCast]);(try rw [HE1.out])
            simp only [Act.put,sA,sB,sC];refine ltk (i:=6) (some 67) rfl rfl (v:= ?v6p) ?hy6p hS ?rest6p
            case hy6p=>intro w0 hSw;obtain⟨a0,a1⟩:=hSw;go_simp;try with_reducible rfl
            simp only [Act.put,sA,sB,sC];refine ltk (i:=7) (some 68) rfl rfl (v:= ?v7p) ?hy7p hS ?rest7p
            case hy7p=>intro w0 hSw;obtain⟨a0,a1⟩:=hSw;go_simp;try with_reducible rfl
            simp only [Act.put,sA,sB,sC];refine ltk (i:=8) (some 69) rfl rfl (v:= ?v8p) ?hy8p hS ?rest8p
            case hy8p=>intro w0 hSw;obtain⟨a0,a1⟩:=hSw;go_simp;try with_reducible rfl
            simp only [Act.put,sA,sB,sC];refine ltk (i:=9) (some 70) rfl rfl (v:= ?v9p) ?hy9p hS ?rest9p
            case hy9p=>intro w0 hSw;obtain⟨a0,a1⟩:=hSw;go_simp;try with_reducible rfl
            simp only [Act.put,sA,sB,sC];refine ltk (i:=10) (some 71) rfl rfl (v:= ?v10p) ?hy10p hS ?rest10p
            case hy10p=>intro w0 hSw;obtain⟨a0,a1⟩:=hSw;go_simp;try with_reducible rfl
            simp only [Act.put,sA,sB,sC];refine wpAnyD_one (i:=11) (by kernel_rfl) rfl (fun K hK=>?_);go_simp;have hb3:=below_new wr.drew (.cells #[.string Tl,.string Sb] 73 (0,0));have HB3:=hid (HB0.out.trans (hb3.mono HB0.out.size));have HO3:=hid (HO0.out.keep hb3);have HC3:=hid (cells_new wr.drew [.string Tl,.string Sb] 73);have hS3:Two (wr.drew.alloc (.cells #[.string Tl,.string Sb] 73 (0,0))) g1 (o1+i) g2 (o2+i) Sa Sb:=⟨HK1.out _ HB3.out,HK2.out _ HB3.out⟩;refine hK _ _ ⟨fun _=>hS3,?_⟩;clear hK K hb3 hS hS0;refine wpAnyD_one (i:=12) (by kernel_rfl) rfl (fun K hK=>?_);rw [if_pos (by rfl)];refine wp_append_own_at (.tmp 61) (.tmp 72) 45 rfl w1.heap.size 73 i0 _ 2 32 Tryz.underlying45 hi0 hz0 hz1 hz2 rfl (by decide) (.slice q k d) k (fldC acc) (by go_simp) (by have h9:=HO3.out;unfold OwnF at h9;rw [HAc.out] at h9;exact h9) ⟨wr.heap.size,0,none⟩ 1 1 [.string Tl,.string Sb] (by go_simp) rfl (HC3.out) (by simp [Value.oneCell']) (by unfold maxLen;omega) (by omega) HB3.out.size ?_;intro v' w4 hown hgr _;have HB4:=hid (HB3.out.trans (OwnF.below HO3.out HB3.out.size hgr));obtain⟨q4,c4,rfl⟩:=own_slice hown;have HO4:=hid (show OwnF w4 w1.heap.size (.slice q4 (k+1) c4) (acc++ [(a.tail,b)]) from by
             unfold OwnF;rw [fldC_app,←HCs.out,List.length_append,HAc.out];exact hown)
            clear hown hgr;show K (Act.put _ (some 73) _) _;have hS4':Two w4 g1 (o1+i) g2 (o2+i) Sa Sb:=⟨HK1.out _ HB4.out,HK2.out _ HB4.out⟩;refine hK _ _ ⟨fun _=>hS4',?_⟩;clear hK K hS3;simp only [Act.put,sA,sB,sC];refine ltk (i:=13) (some 8) rfl rfl (v:= ?v13p) ?hy13p hS4' ?rest13p
            case hy13p=>intro w0 hSw;obtain⟨a0,a1⟩:=hSw;go_simp;try with_reducible rfl
            simp only [Act.put,sA,sB,sC];refine late_done (by kernel_rfl) ?_ _;refine NoPanic.normal ?_;go_wp2;go_roundg (n-(i+1)+1)
            case measure=>omega
            case rel=>exact⟨i+1,k+1,q4,c4,acc++ [(a.tail,b)],by omega,by omega,rfl,by push_cast;go_num,rfl,by rw [List.length_append,HAc.out];rfl,by omega,HO4.out,by rw [HE.out,HX.out,Option.map_map];congr 1;funext z;simp,HB4.out⟩
        · have k2:kindT a=2:=by omega
          rw [k2] at HKa;have HX:=hid (HRs.out k2);have HJo:=hid (fun W (h:TxAt W (some ⟨g2,o2+i,none⟩) (y.drop i))=>rjoin_any (y.drop i) (some ⟨g2,o2+i,none⟩) (m-i) (c-i) (by rw [List.length_drop,HM.out]) (by omega) (Nat.le_trans (joinT_drop y i) HYl.out) W h);have HTx:=hid (show ∀ U,Below w1.heap.size w1 U→TxAt U (some ⟨g2,o2+i,none⟩) (y.drop i) from fun U hU=>(HT2.out.next hU).drop (i:=i) rfl);obtain⟨J,hJ⟩:∃ J,str (joinT (y.drop i))=J:=⟨_,rfl⟩;rw [hJ] at HJo;have HCs:=hid (show [Value.string Tl,Value.string J]=fldC [(a.tail,joinT (y.drop i))] from by rw [←hTl,←hJ];rfl);have hS0:Two wr.drew g1 (o1+i) g2 (o2+i) Sa Sb:=⟨HK1.out _ HB0.out,HK2.out _ HB0.out⟩;have hcI:(i:Int)≤(m:Int):=by omega
          have hci:¬c=i:=by omega
          clear ha hb k0 k1 k2 hSa hSb hNL hTl hJ;go_wp2_with (go_at_call 62;((with_reducible refine(HKa.out _).mono ?_);rintro e w2 ⟨rfl,hw2⟩;subst w2));refine wp_region_noPanic ?_;refine any_begin 15 (by kernel_rfl) (by kernel_rfl) ?_;refine late_begin (fun U=>Two U g1 (o1+i) g2 (o2+i) Sa Sb) (fun _=>false) hS0 (fun hS=>?_);refine ltk (i:=0) (some 41) rfl rfl (v:= ?v0r) ?hy0r hS ?rest0r
          case hy0r=>intro w0 hSw;obtain⟨a0,a1⟩:=hSw;go_simp;try with_reducible rfl
          simp only [Act.put,sA,sB,sC];refine ltk (i:=1) (some 42) rfl rfl (v:= ?v1r) ?hy1r hS ?rest1r
          case hy1r=>intro w0 hSw;obtain⟨a0,a1⟩:=hSw;go_simp;try with_reducible rfl
          simp only [Act.put,sA,sB,sC];refine ltk (i:=2) (some 43) rfl rfl (v:= ?v2r) ?hy2r hS ?rest2r
          case hy2r=>intro w0 hSw;obtain⟨a0,a1⟩:=hSw;go_simp;try with_reducible rfl
          simp only [Act.put,sA,sB,sC];refine ltk (i:=3) (some 44) rfl rfl (v:= ?v3r) ?hy3r hS ?rest3r
          case hy3r=>intro w0 hSw;obtain⟨a0,a1⟩:=hSw;go_simp;try with_reducible rfl
          simp only [Act.put,sA,sB,sC];refine ltk (i:=4) (some 45) rfl rfl (v:= ?v4r) ?hy4r hS ?rest4r
          case hy4r=>intro w0 hSw;obtain⟨a0,a1⟩:=hSw;go_simp;try with_reducible rfl
          simp only [Act.put,sA,sB,sC];refine late_take (i:=5) (some 46) rfl rfl (by kernel_rfl) (by kernel_rfl) (by kernel_rfl) (by kernel_rfl) (by kernel_rfl) (fun _ _ _ h=>h) (by rfl) (v:=.string Tl) ?hy5r hS ?rest5r
          case hy5r=>intro w0 hSw;obtain⟨a0,a1⟩:=hSw;go_simp;(try rw [if_pos (by omega)]);(try rw [if_pos (by omega)]);(try simp only [Int.toNat_natCast]);(try rw [HE1.out])
          simp only [Act.put,sA,sB,sC];refine ltk (i:=6) (some 47) rfl rfl (v:= ?v6r) ?hy6r hS ?rest6r
          case hy6r=>intro w0 hSw;obtain⟨a0,a1⟩:=hSw;go_simp;try with_reducible rfl
          simp only [Act.put,sA,sB,sC];refine ltk (i:=7) (some 48) rfl rfl (v:= ?v7r) ?hy7r hS ?rest7r
          case hy7r=>intro w0 hSw;obtain⟨a0,a1⟩:=hSw;go_simp;try with_reducible rfl
          simp only [Act.put,sA,sB,sC];refine ltk (i:=8) (some 49) rfl rfl (v:= ?v8r) ?hy8r hS ?rest8r
          case hy8r=>intro w0 hSw;obtain⟨a0,a1⟩:=hSw;go_simp;try with_reducible rfl
          simp only [Act.put,sA,sB,sC];refine wpAnyD_one (i:=9) (by kernel_rfl) rfl (fun K hK=>?_);go_simp
          (try simp only [if_neg hci])
          go_at_call 95
          (with_reducible refine(HJo.out _ (HTx.out _ HB0.out)).mono ?_)
          rintro e w2 ⟨rfl,hw2⟩;subst w2;refine hK _ _ ⟨fun _=>hS,?_⟩;clear hK K;refine ltk (i:=10) (some 51) rfl rfl (v:= ?v10r) ?hy10r hS ?rest10r
          case hy10r=>intro w0 hSw;obtain⟨a0,a1⟩:=hSw;go_simp;try with_reducible rfl
          simp only [Act.put,sA,sB,sC];refine wpAnyD_one (i:=11) (by kernel_rfl) rfl (fun K hK=>?_);go_simp;have hb3:=below_new wr.drew (.cells #[.string Tl,.string J] 73 (0,0));have HB3:=hid (HB0.out.trans (hb3.mono HB0.out.size));have HO3:=hid (HO0.out.keep hb3);have HC3:=hid (cells_new wr.drew [.string Tl,.string J] 73);have hS3:Two (wr.drew.alloc (.cells #[.string Tl,.string J] 73 (0,0))) g1 (o1+i) g2 (o2+i) Sa Sb:=⟨HK1.out _ HB3.out,HK2.out _ HB3.out⟩;refine hK _ _ ⟨fun _=>hS3,?_⟩;clear hK K hb3 hS hS0;refine wpAnyD_one (i:=12) (by kernel_rfl) rfl (fun K hK=>?_);rw [if_pos (by rfl)];refine wp_append_own_at (.tmp 41) (.tmp 52) 45 rfl w1.heap.size 73 i0 _ 2 32 Tryz.underlying45 hi0 hz0 hz1 hz2 rfl (by decide) (.slice q k d) k (fldC acc) (by go_simp) (by have h9:=HO3.out;unfold OwnF at h9;rw [HAc.out] at h9;exact h9) ⟨wr.heap.size,0,none⟩ 1 1 [.string Tl,.string J] (by go_simp) rfl (HC3.out) (by simp [Value.oneCell']) (by unfold maxLen;omega) (by omega) HB3.out.size ?_;intro v' w4 hown hgr _;have HB4:=hid (HB3.out.trans (OwnF.below HO3.out HB3.out.size hgr));obtain⟨q4,c4,rfl⟩:=own_slice hown;have HO4:=hid (show OwnF w4 w1.heap.size (.slice q4 (k+1) c4) (acc++ [(a.tail,joinT (y.drop i))]) from by
           unfold OwnF;rw [fldC_app,←HCs.out,List.length_append,HAc.out];exact hown)
          clear hown hgr;show K (Act.put _ (some 53) _) _;have hS4':Two w4 g1 (o1+i) g2 (o2+i) Sa Sb:=⟨HK1.out _ HB4.out,HK2.out _ HB4.out⟩;refine hK _ _ ⟨fun _=>hS4',?_⟩;clear hK K hS3;simp only [Act.put,sA,sB,sC];refine ltk (i:=13) (some 4) rfl rfl (v:= ?v13r) ?hy13r hS4' ?rest13r
          case hy13r=>intro w0 hSw;obtain⟨a0,a1⟩:=hSw;go_simp;try with_reducible rfl
          simp only [Act.put,sA,sB,sC];refine ltk (i:=14) (some 5) rfl rfl (v:= ?v14r) ?hy14r hS4' ?rest14r
          case hy14r=>intro w0 hSw;obtain⟨a0,a1⟩:=hSw;go_simp;try with_reducible rfl
          simp only [Act.put,sA,sB,sC];refine late_done (by kernel_rfl) ?_ _;refine NoPanic.normal ?_;go_wp2;go_ret2;exact fitAns_yes (F:=acc++ [(a.tail,joinT (y.drop i))]) (by rw [HE.out,HX.out];rfl) (by rw [List.length_append,HAc.out];rfl) rfl (HO4.out.lowT HB1.out.size) (below_out HB1.out HB4.out)
    · have HX:=hid (fit_short (y:=y) HIn.out (by rw [HM.out];omega));rw [HX.out] at HE;go_wp2;go_ret2;exact fitAns_no HE.out rfl (below_out HB1.out HB.out)
  · obtain rfl:n=i:=by omega
    by_cases hnm:n=m
    · subst hnm;have HX:=hid (show fitsT x y=some acc from by
       rw [HE.out,List.drop_of_length_le (l:=x) (by rw [HN.out];exact Nat.le_refl _),List.drop_of_length_le (l:=y) (by rw [HM.out];exact Nat.le_refl _)];simp [fitsT])
      go_wp2;go_ret2;exact fitAns_yes HX.out HAc.out rfl (HO.out.lowT HB1.out.size) (below_out HB1.out HB.out)
    · have hz1:¬(n:Int)=(m:Int):=by omega
      have hz2:((n:Int) != (m:Int))=true:=by simp;omega
      have hz3:((n:Int)== (m:Int))=false:=by simp;omega
      have HX:=hid (show fitsT x y=none from by
       rw [HE.out,List.drop_of_length_le (l:=x) (by rw [HN.out];exact Nat.le_refl _),List.drop_eq_getElem_cons (l:=y) (by rw [HM.out];omega),fitsT];rfl)
      go_wp2;go_ret2;exact fitAns_no HX.out rfl (below_out HB1.out HB.out)
end Go.Proofs.YtlmlljlappjjjaaGreatDoor
