/- The document's paths as they are meant, without dot segments. -/
import Derived.Test.YtlmlljlappjjjaaGreatDoorTRSeg
namespace Go.Proofs.YtlmlljlappjjjaaGreatDoor
set_option maxRecDepth 20000
set_option maxHeartbeats 8000000
open Go.RowKit
theorem meant_len:∀ s:B,(meantB s).length≤s.length
 | []=>Nat.le_refl _
 | [_]=>Nat.le_refl _
 | [_,_]=>Nat.le_refl _
 |c::a::b::r=>by
  rw [meantB];split
  · have:=meant_len (a::b::r);simp at this ⊢;omega
  · have:=meant_len r;rename_i v _
    have h3:(if unres v=true then [v] else codeB v).length≤3:=by split <;> simp [codeB]
    rw [List.length_append];simp;omega
theorem segs_join_len (s:B):(joinS (segs s)).length≤s.length:=by
 obtain⟨a,_,h⟩:=join_segs s;conv=>rhs;rw [h]
 simp
theorem join_drop:∀ l:List B,(joinS l.dropLast).length≤(joinS l).length:=by
 intro l;rcases List.eq_nil_or_concat l with rfl|⟨a,b,rfl⟩
 · simp
 · simp [join_app]
theorem dots_len:∀ (L out o:List B),dotsL L out=some o→(joinS o).length≤(joinS out).length+(joinS L).length
 | [],out,o,h=>by simp [dotsL] at h;subst h;simp
 |t::r,out,o,h=>by
  have ej:(joinS (t::r)).length=t.length+1+(joinS r).length:=by simp [joinS];omega
  have hd:=join_drop out;rw [dotsL] at h;split at h
  · split at h
    · cases h;rw [join_app,List.length_append,ej];simp [joinS];omega
    · have:=dots_len r _ _ h;omega
  · split at h
    · split at h
      · cases h
      · split at h
        · cases h;rw [join_app,List.length_append,ej];simp [joinS] at hd ⊢;omega
        · have:=dots_len r _ _ h;omega
    · have:=dots_len r _ _ h;rw [join_app,List.length_append] at this;have e2:(joinS [t]).length=t.length+1:=by simp [joinS]
      omega
theorem dots_one {r out:List B}:dotsL ([46]::r) out=dotsL r (if r= [] then out++ [[]] else out):=by
 rw [dotsL,if_pos rfl];split
 · next h=>rw [h];rfl
 · rfl
theorem dots_nil2 {r:List B}:dotsL ([46,46]::r) []=none:=by
 rw [dotsL,if_neg (by decide),if_pos rfl,if_pos rfl]
theorem dots_two {r out:List B}{x:B}:dotsL ([46,46]::r) (out++ [x])=dotsL r (if r= [] then out++ [[]] else out):=by
 rw [dotsL,if_neg (by decide),if_pos rfl,if_neg (by simp),List.dropLast_concat];split
 · next h=>rw [h];rfl
 · rfl
theorem dots_else {r out:List B}{t:B} (h1:t≠ [46]) (h2:t≠ [46,46]):dotsL (t::r) out=dotsL r (out++ [t]):=by rw [dotsL,if_neg h1,if_neg h2]
theorem rnormal_any (s:B) (hs:s.length≤4398046511104) (w:World):Calls Tryz.prog 34 #[.string (str s)] w fun e w'=>e= .returned (decV (normalB s))∧Below w.heap.size w w':=by
 obtain⟨i0,hi0,hz0,hz1,hz2⟩:=info_parts infoB;obtain⟨j0,hj0,hy0,hy1,hy2⟩:=info_parts infoS;have HPa:=hid (rpath_any s (by omega));have HMe:=hid (rmeant_any s (by omega));have HSg:=hid (rsegments_any (meantB s) (Nat.le_trans (meant_len s) hs));have HJl:=hid (show ∀ o,dotsL (segs (meantB s)) []=some o→(joinS o).length≤s.length from fun o h=>by
  have h1:=dots_len _ _ _ h;have h2:=segs_join_len (meantB s);have h3:=meant_len s;simp [joinS] at h1;simp [joinS] at h2 ⊢;omega)
 have HLl:=hid (show (segs (meantB s)).length≤s.length from by
  rw [segs_eq];exact Nat.le_trans (segsL_len _) (meant_len s))
 cases hp:isPath s with
 |false=>
  have HR:=hid (show normalB s=none from by unfold normalB;rw [hp];rfl);rw [hp] at HPa;rw [HR.out];clear HMe HSg HJl HLl hp;obtain⟨S,hS⟩:∃ S,str s=S:=⟨_,rfl⟩;rw [hS] at HPa ⊢;clear hS;go_enter Tryz.func34,Tryz.ntmps34;go_wp2_with (go_at_call 70;(with_reducible refine(HPa.out _).mono ?_);rintro e w1 ⟨rfl,hb⟩;have HB1:=hid hb;clear hb);go_ret2;exact⟨rfl,HB1.out⟩
 |true=>
  obtain⟨Dn,hDn⟩:∃ Dn,dotsL (segs (meantB s)) []=Dn:=⟨_,rfl⟩;have HR:=hid (show normalB s=Dn.map joinS from by unfold normalB;rw [hp,←hDn];rfl);rw [hp] at HPa;rw [HR.out];rw [hDn] at HJl;have HD0:=hid hDn;clear hDn hp;obtain⟨L,hL⟩:∃ L,segs (meantB s)=L:=⟨_,rfl⟩;rw [hL] at HD0 HSg HLl;obtain⟨m,hm⟩:∃ m,L.length=m:=⟨_,rfl⟩;rw [hm] at HSg HLl;have HM:=hid hm;obtain⟨S,hS⟩:∃ S,str s=S:=⟨_,rfl⟩;rw [hS] at HPa HMe ⊢;obtain⟨Mt,hMt⟩:∃ Mt,str (meantB s)=Mt:=⟨_,rfl⟩;rw [hMt] at HMe HSg;have hmn:m≤4398046511104:=Nat.le_trans HLl.out hs;have HSl:=hid hs;clear hS hMt hL hm hs HLl;go_enter Tryz.func34,Tryz.ntmps34;go_wp2_with (first|(go_at_call 70;(with_reducible refine(HPa.out _).mono ?_);rintro e w1 ⟨rfl,hb⟩;have HB1:=hid hb;clear hb)|(go_at_call 72;(with_reducible refine(HMe.out _).mono ?_);rintro e w2 ⟨rfl,hb⟩;have HB2:=hid (below_out HB1.out hb);clear hb)|(go_at_call 71;(with_reducible refine(HSg.out _).mono ?_);rintro e w3 ⟨pl,cl,rfl,ho,hb⟩;have HB3:=hid (below_out HB2.out hb);have HOL:=hid ho;clear hb ho));go_loopg [5,6] (m+1) (fun gk s5 s6 wr=>∃ i:Nat,i≤m∧gk=m-i+1∧s6= .int .i64 (i:Int)∧∃ acc:List B,OwnS wr w3.heap.size s5 acc∧acc.length≤i∧dotsL (L.drop i) acc=Dn∧Below w3.heap.size w3 wr)
  case atStart=>exact⟨0,by omega,rfl,rfl,[],OwnS.nil _ _,by simp,by rw [List.drop_zero];exact HD0.out,Below.refl _ _⟩
  case round=>
   obtain⟨i,hi,rfl,rfl,acc,ho,hln0,hR,hb⟩:=hrel;have HB:=hid hb;have HRi:=hid hR;obtain⟨ln,hln⟩:∃ ln,acc.length=ln:=⟨_,rfl⟩;have HLe:=hid hln;obtain⟨p,c0,rfl⟩:=own_slice ho;have HO:=hid ho;rw [hln] at HO hln0 ⊢;have hcap:=HO.out.cap;clear ho hb hln hR;by_cases hin:i<m
   · have hi1:i<L.length:=by rw [HM.out];exact hin
     obtain⟨t,ht⟩:∃ t,L[i]=t:=⟨_,rfl⟩;have HIt:=hid (show L[i]?=some t from by rw [List.getElem?_eq_getElem hi1,ht]);have HDr:=hid (show L.drop i=t::L.drop (i+1) from by rw [List.drop_eq_getElem_cons hi1,ht]);rw [HDr.out] at HRi;have HLa:=hid (show L.drop (i+1)= []↔i+1=m from by
      rw [List.drop_eq_nil_iff,HM.out];omega)
     obtain⟨g,o,rfl,hcell⟩:=(HOL.out.keep HB.out).at HIt.out;have hT:(str t).size≤9223372036854775807∨True:=.inr trivial;clear hT ht hi1;have HKc:=hid hcell;by_cases h1:t= [46]
     · subst h1;by_cases hla:i+1=m
       · have HNx:=hid (show dotsL (L.drop (i+1)) (acc++ [[]])=Dn from by rw [←HRi.out,dots_one,if_pos (HLa.out.2 hla)]);subst hla;go_wp2_with (at_builtin;refine wpList_append_own_at _ rfl (.tmp 55) (.tmp 56) 36 rfl w3.heap.size 9 j0 _ 1 16 Tryz.underlying36 hj0 hy0 hy1 hy2 rfl (by decide) (.slice p ln c0) ln (strC acc) (by go_simp) (by have h8:=HO.out.alloc (.cells #[.string (⟨#[]⟩)] 9 (0,0));unfold OwnS at h8;rw [HLe.out] at h8;exact h8) ⟨wr.heap.size,0,none⟩ 1 1 [.string (⟨#[]⟩)] (by go_simp) rfl (cells_new wr _ _) (by simp [Value.oneCell']) (by unfold maxLen;omega) (by omega) (Nat.le_trans HB.out.size (below_new _ _).size) ?_;intro v' w' hown hgr _ _;obtain⟨p7,L7,c7,rfl⟩:=own_slice3 hown;have HB2:=hid (HB.out.trans (((below_new wr (.cells #[.string (⟨#[]⟩)] 9 (0,0))).mono HB.out.size).trans (OwnS.below (HO.out.alloc (.cells #[.string (⟨#[]⟩)] 9 (0,0))) (Nat.le_trans HB.out.size (below_new _ _).size) hgr)));have HW:=hid (OwnS.put (acc:=acc) (t:=[]) (by rw [HLe.out];exact hown));clear hown hgr);go_roundg (i+1-(i+1)+1)
         case measure=>omega
         case rel=>exact⟨i+1,by omega,rfl,by push_cast;go_num,_,HW.out,by rw [List.length_append,HLe.out];simp;omega,HNx.out,HB2.out⟩
       · have hl1:¬(i:Int)=(m:Int)-1:=by omega
         have hl2:((i:Int)== (m:Int)-1)=false:=by simpa using hl1
         have HNx:=hid (show dotsL (L.drop (i+1)) acc=Dn from by rw [←HRi.out,dots_one,if_neg (fun e=>hla (HLa.out.1 e))]);go_wp2;go_roundg (m-(i+1)+1)
         case measure=>omega
         case rel=>exact⟨i+1,by omega,rfl,by push_cast;go_num,_,by have h8:=HO.out;exact h8,by rw [HLe.out];omega,HNx.out,HB.out⟩
     · by_cases h2:t= [46,46]
       · subst h2;rcases List.eq_nil_or_concat acc with ha|⟨ac2,xl,ha⟩
         · subst ha;obtain rfl:ln=0:=by rw [←HLe.out];rfl
           have HF:=hid (show Dn=none from by rw [←HRi.out,dots_nil2]);go_wp2;go_ret2;rw [HF.out];exact⟨rfl,below_out HB3.out HB.out⟩
         · rw [List.concat_eq_append] at ha;subst ha;obtain⟨k,hk⟩:∃ k,ac2.length=k:=⟨_,rfl⟩;obtain rfl:ln=k+1:=by rw [←HLe.out,List.length_append,hk];rfl
           have HO2:=hid (HO.out.less hk);have HLk:=hid hk;clear hk h1;have hk0:¬((k:Int)+1)=0:=by omega
           by_cases hla:i+1=m
           · have HNx:=hid (show dotsL (L.drop (i+1)) (ac2++ [[]])=Dn from by rw [←HRi.out,dots_two,if_pos (HLa.out.2 hla)]);subst hla;go_wp2_with (at_builtin;refine wpList_append_own_at _ rfl (.tmp 55) (.tmp 56) 36 rfl w3.heap.size 9 j0 _ 1 16 Tryz.underlying36 hj0 hy0 hy1 hy2 rfl (by decide) (.slice p k c0) k (strC ac2) (by go_simp) (by have h8:=HO2.out.alloc (.cells #[.string (⟨#[]⟩)] 9 (0,0));unfold OwnS at h8;rw [HLk.out] at h8;exact h8) ⟨wr.heap.size,0,none⟩ 1 1 [.string (⟨#[]⟩)] (by go_simp) rfl (cells_new wr _ _) (by simp [Value.oneCell']) (by unfold maxLen;omega) (by omega) (Nat.le_trans HB.out.size (below_new _ _).size) ?_;intro v' w' hown hgr _ _;obtain⟨p7,L7,c7,rfl⟩:=own_slice3 hown;have HB2:=hid (HB.out.trans (((below_new wr (.cells #[.string (⟨#[]⟩)] 9 (0,0))).mono HB.out.size).trans (OwnS.below (HO2.out.alloc (.cells #[.string (⟨#[]⟩)] 9 (0,0))) (Nat.le_trans HB.out.size (below_new _ _).size) hgr)));have HW:=hid (OwnS.put (acc:=ac2) (t:=[]) (by rw [HLk.out];exact hown));clear hown hgr);go_roundg (i+1-(i+1)+1)
             case measure=>omega
             case rel=>exact⟨i+1,by omega,rfl,by push_cast;go_num,_,HW.out,by rw [List.length_append,HLk.out];simp;omega,HNx.out,HB2.out⟩
           · have hl1:¬(i:Int)=(m:Int)-1:=by omega
             have hl2:((i:Int)== (m:Int)-1)=false:=by simpa using hl1
             have HNx:=hid (show dotsL (L.drop (i+1)) ac2=Dn from by rw [←HRi.out,dots_two,if_neg (fun e=>hla (HLa.out.1 e))]);go_wp2;go_roundg (m-(i+1)+1)
             case measure=>omega
             case rel=>exact⟨i+1,by omega,rfl,by push_cast;go_num,_,by have h8:=HO2.out;exact h8,by rw [HLk.out];omega,HNx.out,HB.out⟩
       · have HNx:=hid (show dotsL (L.drop (i+1)) (acc++ [t])=Dn from by rw [←HRi.out,dots_else h1 h2]);have q1:((str t).toList== (⟨#[46]⟩:ByteArray).toList)=false:=ne_list (str_ne h1);have q2:((str t).toList== (⟨#[46,46]⟩:ByteArray).toList)=false:=ne_list (str_ne h2);have q3:(t== [46])=false:=by simpa using h1
         have q4:(t== [46,46])=false:=by simpa using h2
         go_wp2_with (at_builtin;refine wpList_append_own_at _ rfl (.tmp 31) (.tmp 36) 36 rfl w3.heap.size 9 j0 _ 1 16 Tryz.underlying36 hj0 hy0 hy1 hy2 rfl (by decide) (.slice p ln c0) ln (strC acc) (by go_simp) (by have h8:=HO.out.alloc (.cells #[.string (str t)] 9 (0,0));unfold OwnS at h8;rw [HLe.out] at h8;exact h8) ⟨wr.heap.size,0,none⟩ 1 1 [.string (str t)] (by go_simp) rfl (cells_new wr _ _) (by simp [Value.oneCell']) (by unfold maxLen;omega) (by omega) (Nat.le_trans HB.out.size (below_new _ _).size) ?_;intro v' w' hown hgr _ _;obtain⟨p7,L7,c7,rfl⟩:=own_slice3 hown;have HB2:=hid (HB.out.trans (((below_new wr (.cells #[.string (str t)] 9 (0,0))).mono HB.out.size).trans (OwnS.below (HO.out.alloc (.cells #[.string (str t)] 9 (0,0))) (Nat.le_trans HB.out.size (below_new _ _).size) hgr)));have HW:=hid (OwnS.put (acc:=acc) (t:=t) (by rw [HLe.out];exact hown));clear hown hgr);go_roundg (m-(i+1)+1)
         case measure=>omega
         case rel=>exact⟨i+1,by omega,rfl,by push_cast;go_num,_,HW.out,by rw [List.length_append,HLe.out];simp;omega,HNx.out,HB2.out⟩
   · obtain rfl:m=i:=by omega
     obtain⟨W4,hW4⟩:∃ W4,W4=wr:=⟨_,rfl⟩;subst hW4;have HV:=hid (show Dn=some acc from by rw [←HRi.out,List.drop_of_length_le (by rw [HM.out];exact Nat.le_refl _)];rfl);have hjl:(joinS acc).length≤4398046511104:=Nat.le_trans (HJl.out acc HV.out) HSl.out;have HBw:=hid (below_out HB3.out HB.out);go_wp2;go_loopg [8,9] (ln+1) (fun gk s8 s9 wr=>∃ k:Nat,k≤ln∧gk=ln-k+1∧s9= .int .i64 (k:Int)∧Own wr W4.heap.size s8 (joinS (acc.take k))∧Below W4.heap.size W4 wr)
     case atStart=>exact⟨0,by omega,rfl,rfl,Own.nil _ _,Below.refl _ _⟩
     case round=>
      obtain⟨k,hk,rfl,rfl,hob,hbb⟩:=hrel;have HBb:=hid hbb;obtain⟨ba,hba⟩:∃ ba,joinS (acc.take k)=ba:=⟨_,rfl⟩;have HBa:=hid hba;rw [hba] at hob;obtain⟨lb,hlb⟩:∃ lb,ba.length=lb:=⟨_,rfl⟩;have HLb:=hid hlb;obtain⟨pb,cb,rfl⟩:=own_slice hob;have HOb:=hid hob;rw [hlb] at HOb ⊢;clear hob hbb hba hlb;by_cases hkn:k<ln
      · have hk1:k<acc.length:=by rw [HLe.out];exact hkn
        obtain⟨t,ht⟩:∃ t,acc[k]=t:=⟨_,rfl⟩;have HIt:=hid (show acc[k]?=some t from by rw [List.getElem?_eq_getElem hk1,ht]);have HTk:=hid (show joinS (acc.take (k+1))=ba++ [47]++t from by rw [←HBa.out,List.take_add_one,List.getElem?_eq_getElem hk1,ht,join_app];simp [joinS]);have HTl:=hid (show (ba++ [47]++t).length≤4398046511104 from by
         rw [←HTk.out];refine Nat.le_trans ?_ hjl;conv=>rhs;rw [←List.take_append_drop (k+1) acc]
         rw [join_app,List.length_append];exact Nat.le_add_right _ _)
        obtain⟨lt,hlt⟩:∃ lt,t.length=lt:=⟨_,rfl⟩;have hsum:lb+1+lt≤4398046511104:=by
         have:=HTl.out;rw [List.length_append,List.length_append,HLb.out,hlt] at this;exact this
        have hts:(str t).size=lt:=by rw [str_size,hlt]
        have HLt:=hid hlt;obtain⟨g,o,rfl,hcell⟩:=(HO.out.keep HBb.out).at HIt.out;have H47:=hid (show Lib.byteCells [47]= [.int .u8 47] from rfl);have HL1:=hid (show (ba++ [47]).length=lb+1 from by rw [List.length_append,HLb.out];rfl);have HKo:=hid (show ∀ W,Below W4.heap.size W4 W→W.cell? ⟨g,o+k,none⟩=some (.string (str t)) from fun W hW=>by
         obtain⟨g',o',e',hc'⟩:=(HO.out.keep hW).at HIt.out;cases e';exact hc')
        have HTs:=hid hts;clear ht hk1 hlt;go_wp2_with (first|(at_builtin;refine wpList_append_own_at _ rfl (.tmp 64) (.tmp 65) 138 rfl W4.heap.size 5 i0 _ 1 1 Tryz.underlying138 hi0 hz0 hz1 hz2 rfl (by decide) (.slice pb lb cb) lb (Lib.byteCells ba) (by go_simp) (by have h8:=HOb.out.alloc (.cells #[.int .u8 47] 5 (0,0));unfold Own at h8;rw [HLb.out] at h8;exact h8) ⟨wr.heap.size,0,none⟩ 1 1 [.int .u8 47] (by go_simp) rfl (cells_new wr _ _) (by simp [Value.oneCell']) (by unfold maxLen;omega) (by omega) (Nat.le_trans HBb.out.size (below_new _ _).size) ?_;intro v' w7 hown hgr _ _;obtain⟨p7,L7,c7,rfl⟩:=own_slice3 hown;have HB7:=hid (HBb.out.trans (((below_new wr (.cells #[.int .u8 47] 5 (0,0))).mono HBb.out.size).trans (Own.below (HOb.out.alloc (.cells #[.int .u8 47] 5 (0,0))) (Nat.le_trans HBb.out.size (below_new _ _).size) hgr)));have HW7:=hid (Own.put (acc:=ba) (bs:=[47]) (by rw [HLb.out];exact hown) H47.out rfl);have hcell7:=HKo.out w7 HB7.out;clear hown hgr)|(at_builtin;refine Lib.wpList_append_own_string _ rfl (.tmp 67) (.tmp 71) 138 9 rfl W4.heap.size 5 i0 Tryz.underlying138 Tryz.underlying9 hi0 hz0 hz1 hz2 (.slice p7 L7 c7) (lb+1) (Lib.byteCells (ba++ [47])) (by go_simp) (by have h8:=HW7.out;unfold Own at h8;rw [HL1.out] at h8;exact h8) (str t) (by go_simp) (by rw [HTs.out];unfold maxLen;omega) (by rw [HTs.out];omega) HB7.out.size ?_;intro v' w8 hown hgr _;obtain⟨p8,L8,c8,rfl⟩:=own_slice3 hown;have HB8:=hid (HB7.out.trans (Own.below HW7.out HB7.out.size hgr));have HW8:=hid (Own.put (acc:=ba++ [47]) (bs:=t) (by rw [HL1.out];exact hown) (by rw [strCells_str]) (by rw [HTs.out,HLt.out]));clear hown hgr));go_roundg (ln-(k+1)+1)
        case measure=>omega
        case rel=>exact⟨k+1,by omega,rfl,by push_cast;go_num,by rw [HTk.out];exact HW8.out,HB8.out⟩
      · obtain rfl:ln=k:=by omega
        have HVb:=hid (show ba=joinS acc from by rw [←HBa.out,List.take_of_length_le (by rw [HLe.out];exact Nat.le_refl _)]);have hcv:=conv_own (by have h8:=HOb.out;exact h8:Own wr W4.heap.size (.slice pb lb cb) ba);go_wp2;go_ret2;rw [HV.out];refine⟨?_,below_out HBw.out HBb.out⟩;show _=Ending.returned (.tuple #[.string (str (joinS acc)),.int .i64 0]);rw [←HVb.out];rfl
structure Env (w:World):Prop where
 most:∃ m:Int,w.cell? ⟨0,0,none⟩=some (.int .i64 m)
theorem Env.below {w w':World} (h:Env w) (hb:Below w.heap.size w w'):Env w':=by
 obtain⟨m,h1⟩:=h.most;exact⟨m,cell_keep hb h1⟩
theorem byte_miss_t (x:UInt8):∀ l:List UInt8,Lib.indexByte l x= -1→∀ y∈l,y≠x
 | [],_,y,hy=>by simp at hy
 |b::l,h,y,hy=>by
  unfold Lib.indexByte at h;split at h
  · simp at h
  · rename_i hb
    split at h
    · rename_i h2
      rcases List.mem_cons.1 hy with rfl|hy
      · simpa using hb
      · exact byte_miss_t x l (by simpa using h2) y hy
    · rename_i h2
      have:=Lib.indexByte_ge l x;simp at h2;omega
theorem byte_hit_t (x:UInt8):∀ (l:List UInt8) (i:Nat),Lib.indexByte l x=i→(∀ y∈l.take i,y≠x)∧l=l.take i++x::l.drop (i+1)
 | [],i,h=>by simp [Lib.indexByte] at h
 |b::l,i,h=>by
  unfold Lib.indexByte at h;split at h
  · rename_i hb
    have hi:i=0:=by omega
    subst hi;have hb':b=x:=by simpa using hb
    subst hb';simp
  · rename_i hb
    split at h
    · omega
    · rename_i h2
      have:=Lib.indexByte_ge l x;simp at h2;obtain⟨j,rfl⟩:∃ j,i=j+1:=⟨i-1,by omega⟩;obtain⟨h3,h4⟩:=byte_hit_t x l j (by omega);refine⟨?_,?_⟩
      · intro y hy;rw [List.take_succ_cons] at hy;rcases List.mem_cons.1 hy with rfl|hy
        · simpa using hb
        · exact h3 y hy
      · rw [List.take_succ_cons,List.drop_succ_cons,List.cons_append,←h4]
theorem cut_lib (x:UInt8) (s:B):Lib.cut s [x]=cutF x s:=by
 unfold Lib.cut;rw [Lib.index_one];have hge:=Lib.indexByte_ge s x;by_cases h:Lib.indexByte s x= -1
 · rw [h,if_neg (by decide),cutF_no s (byte_miss_t x s h)]
 · obtain⟨i,hi⟩:∃ i:Nat,Lib.indexByte s x=i:=⟨(Lib.indexByte s x).toNat,by omega⟩;obtain⟨h1,h2⟩:=byte_hit_t x s i hi;rw [hi,if_pos (by omega)];conv=>rhs;rw [h2]
   rw [cutF_at _ _ h1];rfl
theorem pcut_any (x:UInt8) (s:B) (hs:s.length≤4294967280) (w:World) (hE:Env w):Calls Tryz.prog 80 #[.string (str s),.string ⟨#[x]⟩] w fun e w'=>e= .returned (.tuple #[.string (str (cutF x s).1),.string (str (cutF x s).2.1),.bool (cutF x s).2.2])∧Below w.heap.size w w':=by
 obtain⟨m,hm⟩:=hE.most;refine(Tryz.strings_Cut (str s) ⟨#[x]⟩ m w (by rw [str_size];omega) hm).mono ?_;rintro e w' ⟨rfl,q,rfl⟩;have e1:Lib.cut (str s).data.toList (⟨#[x]⟩:ByteArray).data.toList=cutF x s:=cut_lib x s;rw [e1];exact⟨rfl,below_drew (Below.refl _ _) q⟩
theorem pprefix_any (s:B) (w:World):Calls Tryz.prog 87 #[.string (str s),.string ⟨#[47]⟩] w fun e w'=>e= .returned (.bool (decide (s.head? =some 47)))∧w'=w:=by
 refine(Tryz.strings_HasPrefix (str s) ⟨#[47]⟩ w).mono ?_;rintro e w' ⟨rfl,rfl⟩;refine⟨?_,rfl⟩;have:Lib.hasPrefix (str s).data.toList (⟨#[47]⟩:ByteArray).data.toList=decide (s.head? =some 47):=by
  show ([47]:List UInt8).isPrefixOf s=_;cases s with
  |nil=>rfl
  |cons c l=>
   simp only [List.isPrefixOf,Bool.and_true,List.head?_cons,Option.some.injEq];rw [Bool.eq_iff_iff];simp only [beq_iff_eq,decide_eq_true_eq];exact eq_comm
 rw [this]
theorem last_any (base:Nat) (a b:B) (hb:∀ y∈b,y≠(47:UInt8)) (n:Nat) (hn:(a++47::b).length=n) (hl:n≤140737488355328) (p:Option Addr) (c:Nat) (w:World) (ho:Own w base (.slice p n c) (a++47::b)):
  Calls Tryz.prog 91 #[.slice p n c,.int .u8 47] w fun e w'=>e= .returned (.int .i64 (a.length:Int))∧w'=w:=by
 have HO:=hid ho;obtain⟨la,hla⟩:∃ la,a.length=la:=⟨_,rfl⟩;have HA:=hid hla;have hlt:la<n:=by rw [←hn,List.length_append,hla];simp
 have HAt:=hid (show (a++47::b)[la]?=some 47 from by rw [←hla];simp);have HBe:=hid (show ∀ i y,la<i→(a++47::b)[i]?=some y→y≠47 from fun i y hi hy=>by
  rw [List.getElem?_append_right (by omega)] at hy;obtain⟨k,hk⟩:∃ k,i-a.length=k+1:=⟨i-a.length-1,by omega⟩;rw [hk,List.getElem?_cons_succ] at hy;exact hb y (List.mem_of_getElem? hy))
 have HN:=hid hn;obtain⟨g,o,rfl,hc0⟩:=HO.out.at HAt.out;have HK:=hid (show ∀ i y,(a++47::b)[i]?=some y→w.cell? ⟨g,o+i,none⟩=some (.int .u8 (y.toNat:Int)) from fun i y hy=>by
  obtain⟨g',o',e',h'⟩:=HO.out.at hy;cases e';exact h')
 rw [hla];clear hla ho hb hn hc0;go_enter Tryz.func91,Tryz.ntmps91;go_wp2;go_loopg [5] n (fun gk s5 wr=>∃ i:Nat,la≤i∧i<n∧gk=i+1∧s5= .int .i64 (i:Int)∧wr=w)
 case atStart=>exact⟨n-1,by omega,by omega,by omega,by go_num,rfl⟩
 case round=>
  obtain⟨i,hi,hin,rfl,rfl,rfl⟩:=hrel;have hi1:i<(a++47::b).length:=by rw [HN.out];exact hin
  obtain⟨y,hy⟩:∃ y,(a++47::b)[i]?=some y:=⟨_,List.getElem?_eq_getElem hi1⟩;have hcell:=HK.out i y hy;have HY:=hid hy;clear hi1 hy;by_cases he:i=la
  · subst he;obtain rfl:y=47:=Option.some.inj (HY.out.symm.trans HAt.out);go_wp2;go_ret;exact⟨rfl,rfl⟩
  · have hne:=HBe.out i y (by omega) HY.out;have z1:¬(y.toNat:Int)=47:=fun e=>hne (UInt8.toNat_inj.1 (by show y.toNat=47;omega))
    have z2:((y.toNat:Int)== 47)=false:=by simpa using z1
    have hpos:0<i:=by omega
    clear hne;go_wp2;go_roundg (i-1+1)
    case measure=>omega
    case rel=>exact⟨i-1,by omega,by omega,by omega,by go_num,rfl⟩
def sameB (a b:ByteArray):Bool:=decide (lowS a=lowS b)
theorem eq_toList (a b:ByteArray):(a.toList== b.toList)=decide (a=b):=by
 rw [Lib.toList_data,Lib.toList_data,Bool.eq_iff_iff];simp only [beq_iff_eq,decide_eq_true_eq,Array.toList_inj];exact⟨fun h=>ByteArray.ext h,fun h=>by rw [h]⟩
theorem rsame_any (a b:ByteArray) (w:World) (ha:a.size≤140737488351232) (hb:b.size≤140737488351232):
  Calls Tryz.prog 37 #[.string a,.string b] w fun e w'=>e= .returned (.bool (sameB a b))∧Below w.heap.size w w':=by
 have hB:=Below.refl w.heap.size w;go_enter Tryz.func37,Tryz.ntmps37;go_wp2_with (go_at_call 69;refine(rlower_any _ _ (by assumption)).mono ?_;rintro e w' ⟨rfl,hbb⟩;replace hB:=hB.trans (hbb.mono hB.size);clear hbb);go_ret;exact⟨ret_bool (eq_toList _ _),hB⟩
def chkR (r:RtC):Nat:=if checkN r.host≠0 then checkN r.host else if chkN r.path≠0 then chkN r.path else methE r.ms
theorem cells_r3 {U:World}{g:Nat}{a b c v3 v4 v5 v6 v7 v8 v9 v10 v11 v12:Value}{T:TypeId} (h:U.heap[g]?=some (.cells #[a,b,c,v3,v4,v5,v6,v7,v8,v9,v10,v11,v12] T (0,0))):U.cell? ⟨g,0,none⟩=some a∧U.cell? ⟨g,1,none⟩=some b∧U.cell? ⟨g,2,none⟩=some c:=by
 refine⟨?_,?_,?_⟩ <;> simp [World.cell?,h]
theorem errOf_ne {k:Nat} (h:k≠0):errOf k= .iface 74 (.int .i64 (k:Int)):=by
 unfold errOf;rw [if_neg h]
theorem pchk_any (r:RtC) (p:Option Addr) (n c:Nat) (hn:r.ms.length=n) (hc:n≤c) (hz:∀ x∈r.ms,x.length≤maxLen) (hnn:n≤140737488355328) (h1:r.host.length≤140737488355328) (h2:r.path.length≤4398046511104) (v3 v4 v5 v6 v7 v8 v9 v10 v11 v12:Value) (w:World) (hmx:MxAt w) (hT:TxAt w p r.ms):Calls Tryz.prog 24 #[.agg #[.string (str r.host),.string (str r.path),.slice p n c,v3,v4,v5,v6,v7,v8,v9,v10,v11,v12]] w fun e w'=>e= .returned (errOf (chkR r))∧Below w.heap.size w w':=by
 have HH:=hid (fun (W:World) (hb:Below w.heap.size w W)=>pcheckN r.host (by omega) W (hmx.next hb));have HP:=hid (fun (W:World) (hb:Below w.heap.size w W)=>chk_prog r.path h2 W (hmx.next hb));have HM:=hid (fun (W:World) (hb:Below w.heap.size w W)=>pmeth_any r.ms p n c hn hc hz hnn W (hT.next hb));unfold chkR;obtain⟨a,ha⟩:∃ a,checkN r.host=a:=⟨_,rfl⟩;obtain⟨b,hb⟩:∃ b,chkN r.path=b:=⟨_,rfl⟩;obtain⟨d,hd⟩:∃ d,methE r.ms=d:=⟨_,rfl⟩;rw [ha] at HH ⊢;rw [hb] at HP ⊢;rw [hd] at HM ⊢;obtain⟨Sh,hSh⟩:∃ S,str r.host=S:=⟨_,rfl⟩;obtain⟨Sp,hSp⟩:∃ S,str r.path=S:=⟨_,rfl⟩;rw [hSh] at HH ⊢;rw [hSp] at HP ⊢;have HB:=hid (show Below w.heap.size w (w.alloc (.cells #[.string Sh,.string Sp,.slice p n c,v3,v4,v5,v6,v7,v8,v9,v10,v11,v12] 42 (0,0))) from below_new w _);have HC:=hid (show (w.alloc (.cells #[.string Sh,.string Sp,.slice p n c,v3,v4,v5,v6,v7,v8,v9,v10,v11,v12] 42 (0,0))).heap[w.heap.size]?=some (.cells #[.string Sh,.string Sp,.slice p n c,v3,v4,v5,v6,v7,v8,v9,v10,v11,v12] 42 (0,0)) from heap_alloc_new w _);clear ha hb hd hSh hSp hn hz hT hmx h1 h2;by_cases ha:a=0
 · subst ha;rw [if_neg (by simp)];rw [show errOf 0= .nilIface from rfl] at HH;by_cases hb:b=0
   · subst hb;rw [if_neg (by simp)];rw [show errOf 0= .nilIface from rfl] at HP;obtain⟨D,hD⟩:∃ D,errOf d=D:=⟨_,rfl⟩;rw [hD] at HM ⊢;clear hD;go_enter Tryz.func24,Tryz.ntmps24;go_wp2_with (first|(go_at_call 56;(with_reducible refine(HH.out _ HB.out).mono ?_);rintro e w1 ⟨rfl,hb⟩;replace HB:=hid (below_out HB.out hb);replace HC:=hid (kB hb HC.out);obtain⟨x0,x1,x2⟩:=cells_r3 HC.out;clear hb)|(go_at_call 57;(with_reducible refine(HP.out _ HB.out).mono ?_);rintro e w1 ⟨rfl,hb⟩;replace HB:=hid (below_out HB.out hb);replace HC:=hid (kB hb HC.out);obtain⟨x0,x1,x2⟩:=cells_r3 HC.out;clear hb)|(go_at_call 16;(with_reducible refine(HM.out _ HB.out).mono ?_);rintro e w1 ⟨rfl,hw1⟩;subst w1));go_ret;exact⟨rfl,HB.out⟩
   · rw [if_pos hb];rw [errOf_ne hb] at HP ⊢;go_enter Tryz.func24,Tryz.ntmps24;go_wp2_with (first|(go_at_call 56;(with_reducible refine(HH.out _ HB.out).mono ?_);rintro e w1 ⟨rfl,hb⟩;replace HB:=hid (below_out HB.out hb);replace HC:=hid (kB hb HC.out);obtain⟨x0,x1,x2⟩:=cells_r3 HC.out;clear hb)|(go_at_call 57;(with_reducible refine(HP.out _ HB.out).mono ?_);rintro e w1 ⟨rfl,hb⟩;replace HB:=hid (below_out HB.out hb);replace HC:=hid (kB hb HC.out);obtain⟨x0,x1,x2⟩:=cells_r3 HC.out;clear hb));go_ret;exact⟨rfl,HB.out⟩
 · rw [if_pos ha];rw [errOf_ne ha] at HH ⊢;go_enter Tryz.func24,Tryz.ntmps24;go_wp2_with (go_at_call 56;(with_reducible refine(HH.out _ HB.out).mono ?_);rintro e w1 ⟨rfl,hb⟩;replace HB:=hid (below_out HB.out hb);replace HC:=hid (kB hb HC.out);obtain⟨x0,x1,x2⟩:=cells_r3 HC.out;clear hb);go_ret;exact⟨rfl,HB.out⟩
def likeR (a b:B):Bool:=checkP a && checkP b && decide (keysP a=keysP b)
end Go.Proofs.YtlmlljlappjjjaaGreatDoor
