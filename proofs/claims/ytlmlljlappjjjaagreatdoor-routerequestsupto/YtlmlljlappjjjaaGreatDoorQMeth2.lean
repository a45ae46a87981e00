/- Which patterns may be, by the document. -/
import Derived.Test.YtlmlljlappjjjaaGreatDoorTAdd
namespace Go.Proofs.YtlmlljlappjjjaaGreatDoor
set_option maxRecDepth 20000
set_option maxHeartbeats 16000000
open Go.RowKit
def RChkAns (p:B) (w:World) (e:Ending) (w':World):Prop:=e= .returned (.int .i64 (if checkP p then 0 else 3))∧Below w.heap.size w w'
theorem rchk_no {p:B}{w w':World}{e:Ending} (h:checkP p=false) (he:e= .returned (.int .i64 3)) (hb:Below w.heap.size w w'):RChkAns p w e w':=⟨by rw [h];exact he,hb⟩
theorem rchk_yes {p:B}{w w':World}{e:Ending} (h:checkP p=true) (he:e= .returned (.int .i64 0)) (hb:Below w.heap.size w w'):RChkAns p w e w':=⟨by rw [h];exact he,hb⟩
theorem rsplit_none {p:B} (hp:p.length≤4398046511104) (hb:begB 47 p=false) (w:World):Calls Tryz.prog 53 #[.string (str p)] w fun e w'=>e= .returned (.tuple #[.slice none 0 0,.bool false])∧w'=w:=by
 cases p with
 |nil=>exact rsplit_nil w
 |cons c t=>exact rsplit_not c t (by simpa [begB] using hb) (by simp at hp;omega) w
theorem rcheck_any_r (p:B) (hp:p.length≤4398046511104) (w:World):Calls Tryz.prog 28 #[.string (str p)] w fun e w'=>RChkAns p w e w':=by
 obtain⟨j0,hj0,hy0,hy1,hy2⟩:=info_parts infoS;cases hbg:begB 47 p with
 |false=>
  have HC:=hid (check_beg hbg);have HSp:=hid (fun W:World=>rsplit_none hp hbg W);obtain⟨S,hS⟩:∃ S,str p=S:=⟨_,rfl⟩;rw [hS] at HSp ⊢;clear hS hbg;go_enter Tryz.func28,Tryz.ntmps28;go_wp2_with (go_at_call 53;(with_reducible refine(HSp.out _).mono ?_);rintro e w1 ⟨rfl,hw1⟩;subst w1);go_ret;exact rchk_no HC.out rfl (Below.refl _ _)
 |true=>
  obtain⟨t,rfl⟩:=beg_cons hbg;have HCk:=hid (check_cons t);obtain⟨N,hN⟩:∃ N,(47::t:B).length=N:=⟨_,rfl⟩;have hN1:t.length+1=N:=by rw [←hN];rfl
  rw [hN] at HCk hp;obtain⟨S,hS⟩:∃ S,str (47::t)=S:=⟨_,rfl⟩;have hSn:S.size=N:=by rw [←hS,str_size,hN]
  have HSp:=hid (fun W:World=>rsplit_yes t (by omega) W);rw [hS] at HSp ⊢;have HXl:=hid (show ∀ x∈cutT t,x.length≤4398046511104 from fun x h=>Nat.le_trans (cutT_mem_len h) (by omega));have hlen:=cutT_len t;obtain⟨X,hX⟩:∃ X,cutT t=X:=⟨_,rfl⟩;rw [hX] at HSp HXl hlen HCk;obtain⟨n,hn⟩:∃ n,X.length=n:=⟨_,rfl⟩;have HN:=hid hn;rw [hn] at HSp hlen HCk;have hn9:n≤4398046511105:=by omega
  clear hS hX hn hbg hN hN1;by_cases h256:N≤256
  · have h256':¬(256:Int)<(N:Int):=by omega
    have h256d:decide ((256:Int)<(N:Int))=false:=decide_eq_false h256';rw [decide_eq_true h256,Bool.true_and] at HCk;by_cases h64:n≤64
    · rw [decide_eq_true h64,Bool.true_and] at HCk;have h64':¬(64:Int)<(n:Int):=by omega
      go_enter Tryz.func28,Tryz.ntmps28;go_wp2_with (go_at_call 53;(with_reducible refine(HSp.out _).mono ?_);rintro e w1 ⟨p1,c1,rfl,ho,hb⟩;have HT1:=hid ho.tx;have HB1:=hid hb;clear ho hb HSp);go_loopg [5,6] (n+1) (fun gk s5 s6 wr=>∃ (i m6 c6:Nat) (p6:Option Addr) (names:List B),i≤n∧gk=n-i+1∧s6= .int .i64 (i:Int)∧s5= .slice p6 m6 c6∧names.length=m6∧m6≤i∧OwnR_r 9 1 (fun t:B=>[.string (str t)]) wr w1.heap.size (.slice p6 m6 c6) names∧okSegs visU tokT [] X=okSegs visU tokT names (X.drop i)∧Below w1.heap.size w1 wr)
      case atStart=>exact⟨0,0,0,none,[],by omega,rfl,rfl,rfl,rfl,by omega,OwnR_r.nil _ _,rfl,Below.refl _ _⟩
      case round=>
       obtain⟨i,m6,c6,p6,names,hi,rfl,rfl,rfl,hl6,hm6,hO6,hok,hb⟩:=hrel;have HOk:=hid (HCk.out.trans hok);have HB:=hid hb;have HO6:=hid hO6;have HL6:=hid hl6;clear hok hb hO6 hl6;by_cases hin:i<n
       · obtain⟨x,hx⟩:∃ x,X[i]?=some x:=⟨_,List.getElem?_eq_getElem (by rw [HN.out];exact hin)⟩;have hle:=HXl.out x (List.mem_of_getElem? hx);have HD:=hid (drop_at hx);rw [HD.out] at HOk;have HKa:=hid (fun W:World=>rkind_any x hle W);have HDn:=hid (show decide (X.drop (i+1)= [])=decide (i+1=n) from by
          rw [Bool.eq_iff_iff,decide_eq_true_eq,decide_eq_true_eq,List.drop_eq_nil_iff,HN.out];omega)
         obtain⟨g1,o1,rfl,q1⟩:=(HT1.out.next HB.out) i x hx;have hk2:=kindT_le x;obtain⟨Sx,hSx⟩:∃ S,str x=S:=⟨_,rfl⟩;obtain⟨xl,hxl⟩:∃ xl,x.length=xl:=⟨_,rfl⟩;have hSxn:Sx.size=xl:=by rw [←hSx,str_size,hxl]
         rw [hxl] at hle;rw [hSx] at HKa q1;by_cases h0:kindT x=0
         · rw [h0] at HKa;have HRs:=hid (show okS x=x.all visU from by unfold okS;rw [if_pos h0]);rw [ok_step0 h0] at HOk;rw [HRs.out] at HOk;have HByte:=hid (show ∀ (k:Nat) (h:k<x.length) (h2:k<Sx.size),Sx[k]'h2=x[k]'h from fun k h h2=>by subst hSx;rfl);have HXL:=hid hxl;clear hx hSx hxl hk2 h0;go_wp2_with (go_at_call 62;((with_reducible refine(HKa.out _).mono ?_);rintro e w2 ⟨rfl,hw2⟩;subst w2));go_loopg [7] (xl+1) (fun gk s7 wv=>∃ k:Nat,k≤xl∧gk=xl-k+1∧s7= .int .i64 (k:Int)∧(x.take k).all visU=true∧wv=wr)
           case atStart=>exact⟨0,by omega,rfl,rfl,rfl,rfl⟩
           case round=>
            obtain⟨k,hk,rfl,rfl,hall,hwv⟩:=hrel
            rename World=>wv
            subst hwv;by_cases hlt:k<xl
            · have h3:k<x.length:=by rw [HXL.out];exact hlt
              obtain⟨y,hy⟩:∃ y,x[k]=y:=⟨_,rfl⟩;obtain⟨Y,hY⟩:∃ Y:Nat,y.toNat=Y:=⟨_,rfl⟩;have hY256:Y<256:=by rw [←hY];exact y.toNat_lt
              have hbyte:∀ h:k<Sx.size,(Sx[k]'h).toNat=Y:=fun h=>by rw [HByte.out k h3 h,hy,hY]
              have hvy:visU y=visB (Y:Int):=by unfold visU;rw [hY]
              have HT:=hid (show (x.take (k+1)).all visU=(visB (Y:Int)) from by rw [List.take_succ_eq_append_getElem h3,List.all_append,hall,hy];simp [hvy]);have HF:=hid (show visB (Y:Int)=false→x.all visU=false from fun h=>vis_stop h3 (by rw [hy,hvy];exact h));clear hy hY hall hvy;cases hv:visB (Y:Int) with
              |true=>
               go_wp2_with (go_at_call 63;refine(rvisible_any _ _ (by omega) (by omega)).mono ?_;rintro e w' ⟨rfl,hw'⟩;subst hw');go_roundg (xl-(k+1)+1)
               case measure=>omega
               case rel=>exact⟨k+1,by omega,rfl,by push_cast;go_num,by rw [HT.out,hv],rfl⟩
              |false=>
               have HC:=hid (show checkP (47::t)=false from by rw [HOk.out,HF.out hv];rfl);go_wp2_with (go_at_call 63;refine(rvisible_any _ _ (by omega) (by omega)).mono ?_;rintro e w' ⟨rfl,hw'⟩;subst hw');go_ret;exact rchk_no HC.out rfl (below_out HB1.out HB.out)
            · obtain rfl:xl=k:=by omega
              have HR:=hid (show okSegs visU tokT [] X=okSegs visU tokT names (X.drop (i+1)) from by
               rw [←HCk.out,HOk.out];rw [List.take_of_length_le (by rw [HXL.out];exact Nat.le_refl _)] at hall;rw [hall,Bool.true_and])
              clear hall;go_wp2;go_roundg (n-(i+1)+1)
              case measure=>omega
              case rel=>exact⟨i+1,m6,c6,p6,names,by omega,rfl,by push_cast;go_num,rfl,HL6.out,by omega,HO6.out,HR.out,HB.out⟩
         · have hne:x≠ []:=fun e=>h0 (by rw [e];rfl)
           have h1x:1≤xl:=by
            rw [←hxl];cases x with
            |nil=>exact absurd rfl hne
            |cons _ _=>simp
           have he1:Sx.extract 1 xl=str x.tail:=by rw [←hSx,ext_drop x 1 xl hxl,List.drop_one]
           have HTk:=hid (fun W:World=>ristoken_any (str x.tail) W (by rw [str_size,List.length_tail,hxl];unfold maxLen;omega));obtain⟨T,hT⟩:∃ T,str x.tail=T:=⟨_,rfl⟩;have HTe:=hid hT;have HXs:=hid (show [Value.string (str x.tail)]= [.string T] from by rw [hT]);rw [hT] at HTk he1;rw [ok_step1 h0] at HOk;have HSk:=hid (show okS x=isTok T from by unfold okS;rw [if_neg h0];unfold tokT;rw [hT]);rw [HSk.out] at HOk;obtain⟨K,hK⟩:∃ K:Int,(kindT x:Int)=K:=⟨_,rfl⟩;have hK0:¬K=0:=by rw [←hK];omega
           have hK1:(K== 0)=false:=by simpa using hK0
           rw [hK] at HKa;cases htk:isTok T with
           |false=>
            rw [htk] at HTk HOk;have HC:=hid (show checkP (47::t)=false from HOk.out);clear hx hSx hxl hk2 h0 hne hT hK htk;go_wp2_with (first|(go_at_call 62;((with_reducible refine(HKa.out _).mono ?_);rintro e w2 ⟨rfl,hw2⟩;subst w2))|(go_at_call 42;((with_reducible refine(HTk.out _).mono ?_);rintro e w3 ⟨rfl,hw3⟩;subst w3)));go_ret;exact rchk_no HC.out rfl (below_out HB1.out HB.out)
           |true=>
            rw [htk] at HTk HOk;by_cases hbad:kindT x=2∧¬i+1=n
            · obtain rfl:(2:Int)=K:=by rw [←hK,hbad.1];rfl
              have hlt:i<n-1:=by omega
              have HC:=hid (show checkP (47::t)=false from by
               rw [HOk.out,HDn.out,hbad.1,decide_eq_false hbad.2];simp)
              clear hx hSx hxl hk2 h0 hne hT hK htk hbad;go_wp2_with (first|(go_at_call 62;((with_reducible refine(HKa.out _).mono ?_);rintro e w2 ⟨rfl,hw2⟩;subst w2))|(go_at_call 42;((with_reducible refine(HTk.out _).mono ?_);rintro e w3 ⟨rfl,hw3⟩;subst w3)));go_ret;exact rchk_no HC.out rfl (below_out HB1.out HB.out)
            · have HG:=hid (show (decide (kindT x≠2) || decide (X.drop (i+1)= []))=true from by
               rw [HDn.out,Bool.or_eq_true,decide_eq_true_eq,decide_eq_true_eq];omega)
              rw [HG.out] at HOk;simp only [Bool.true_and,Bool.and_true] at HOk;have hnot:¬(K=2∧i<n-1):=by rw [←hK];omega
              clear hx hSx hxl hk2 h0 hne hT hK htk hbad;by_cases hK2:K=2
              · have hlt:¬i<n-1:=fun h=>hnot ⟨hK2,h⟩
                subst hK2;go_wp2_with (first|(go_at_call 62;((with_reducible refine(HKa.out _).mono ?_);rintro e w2 ⟨rfl,hw2⟩;subst w2))|(go_at_call 42;((with_reducible refine(HTk.out _).mono ?_);rintro e w3 ⟨rfl,hw3⟩;subst w3)));go_loopg [9] (m6+1) (fun gk s9 wv=>∃ k:Nat,k≤m6∧gk=m6-k+1∧s9= .int .i64 (k:Int)∧(names.take k).contains x.tail=false∧wv=wr)
                case atStart=>exact⟨0,by omega,rfl,rfl,rfl,rfl⟩
                case round=>
                 obtain⟨k,hk,rfl,rfl,hno,hwv⟩:=hrel
                 rename World=>wv
                 subst hwv;have HNo:=hid hno;clear hno;by_cases hkm:k<m6
                 · obtain⟨a,ha⟩:∃ a,names[k]?=some a:=⟨_,List.getElem?_eq_getElem (by rw [HL6.out];exact hkm)⟩;obtain⟨g2,o2,rfl,q2⟩:=(ownR_S_r HO6.out).tx k a ha;obtain⟨Sa,hSa⟩:∃ S,str a=S:=⟨_,rfl⟩;rw [hSa] at q2;by_cases hab:a=x.tail
                   · obtain rfl:Sa=T:=by rw [←hSa,←HTe.out,hab]
                     have HC:=hid (show checkP (47::t)=false from by
                      rw [HOk.out];have:names.contains x.tail=true:=by rw [List.contains_iff_mem,←hab];exact List.mem_of_getElem? ha
                      rw [this];rfl)
                     clear ha hSa hab;go_wp2;go_ret;exact rchk_no HC.out rfl (below_out HB1.out HB.out)
                   · have hS:¬Sa=T:=fun h=>hab (str_inj (by rw [hSa,HTe.out,h]))
                     have hS4:(Sa.toList== T.toList)=false:=ne_list hS;have HR:=hid (show (names.take (k+1)).contains x.tail=false from by
                      rw [List.take_add_one,ha];have h1:=HNo.out;rw [List.contains_eq_mem,decide_eq_false_iff_not] at h1 ⊢;simp;exact⟨h1,fun e=>hab e.symm⟩)
                     clear ha hSa hab;go_wp2;go_roundg (m6-(k+1)+1)
                     case measure=>omega
                     case rel=>exact⟨k+1,by omega,rfl,by push_cast;go_num,HR.out,rfl⟩
                 · obtain rfl:m6=k:=by omega
                   have HOk2:=hid (show checkP (47::t)=okSegs visU tokT (names++ [x.tail]) (X.drop (i+1)) from by
                    rw [HOk.out];have h1:=HNo.out;rw [List.take_of_length_le (by rw [HL6.out];exact Nat.le_refl _)] at h1;rw [h1];rfl)
                   go_wp2_with (at_builtin;refine wpList_append_own_at _ rfl (.tmp 91) (.tmp 93) 36 rfl w1.heap.size 9 j0 _ 1 16 Tryz.underlying36 hj0 hy0 hy1 hy2 rfl (by decide) (.slice p6 m6 c6) m6 (names.flatMap fun t:B=>[.string (str t)]) (by go_simp) (by have h8:=HO6.out.alloc (.cells #[.string T] 9 (0,0));unfold OwnR_r at h8;rw [HL6.out] at h8;exact h8) ⟨wv.heap.size,0,none⟩ 1 1 [.string T] (by go_simp) rfl (cells_new wv _ _) (by simp [Value.oneCell']) (by unfold maxLen;omega) (by omega) (by have h1:=HB.out.size;simp;omega) ?_;intro v6 wt hown hgr _ _;obtain⟨p7,L7,c7,rfl⟩:=own_slice3 hown;have HT7:=hid (show OwnR_r 9 1 (fun t:B=>[.string (str t)]) wt w1.heap.size (.slice p7 L7 c7) (names++ [x.tail]) from OwnR_r.put HL6.out (by rw [HXs.out];exact hown));have HBt:=hid (show Below w1.heap.size w1 wt from(HB.out.trans ((below_new wv _).mono HB.out.size)).trans ((HO6.out.alloc _).below (by have h1:=HB.out.size;simp;omega) hgr));obtain⟨hL7,_⟩:L7=m6+1∧True:=⟨row_len hown,trivial⟩;subst hL7;clear hown hgr);go_roundg (n-(i+1)+1)
                   case measure=>omega
                   case rel=>exact⟨i+1,m6+1,c7,p7,names++ [x.tail],by omega,rfl,by push_cast;go_num,rfl,by rw [List.length_append,HL6.out];rfl,by omega,HT7.out,HCk.out.symm.trans HOk2.out,HBt.out⟩
              · have hK3:(K== 2)=false:=by simpa using hK2
                go_wp2_with (first|(go_at_call 62;((with_reducible refine(HKa.out _).mono ?_);rintro e w2 ⟨rfl,hw2⟩;subst w2))|(go_at_call 42;((with_reducible refine(HTk.out _).mono ?_);rintro e w3 ⟨rfl,hw3⟩;subst w3)));go_loopg [9] (m6+1) (fun gk s9 wv=>∃ k:Nat,k≤m6∧gk=m6-k+1∧s9= .int .i64 (k:Int)∧(names.take k).contains x.tail=false∧wv=wr)
                case atStart=>exact⟨0,by omega,rfl,rfl,rfl,rfl⟩
                case round=>
                 obtain⟨k,hk,rfl,rfl,hno,hwv⟩:=hrel
                 rename World=>wv
                 subst hwv;have HNo:=hid hno;clear hno;by_cases hkm:k<m6
                 · obtain⟨a,ha⟩:∃ a,names[k]?=some a:=⟨_,List.getElem?_eq_getElem (by rw [HL6.out];exact hkm)⟩;obtain⟨g2,o2,rfl,q2⟩:=(ownR_S_r HO6.out).tx k a ha;obtain⟨Sa,hSa⟩:∃ S,str a=S:=⟨_,rfl⟩;rw [hSa] at q2;by_cases hab:a=x.tail
                   · obtain rfl:Sa=T:=by rw [←hSa,←HTe.out,hab]
                     have HC:=hid (show checkP (47::t)=false from by
                      rw [HOk.out];have:names.contains x.tail=true:=by rw [List.contains_iff_mem,←hab];exact List.mem_of_getElem? ha
                      rw [this];rfl)
                     clear ha hSa hab;go_wp2;go_ret;exact rchk_no HC.out rfl (below_out HB1.out HB.out)
                   · have hS:¬Sa=T:=fun h=>hab (str_inj (by rw [hSa,HTe.out,h]))
                     have hS4:(Sa.toList== T.toList)=false:=ne_list hS;have HR:=hid (show (names.take (k+1)).contains x.tail=false from by
                      rw [List.take_add_one,ha];have h1:=HNo.out;rw [List.contains_eq_mem,decide_eq_false_iff_not] at h1 ⊢;simp;exact⟨h1,fun e=>hab e.symm⟩)
                     clear ha hSa hab;go_wp2;go_roundg (m6-(k+1)+1)
                     case measure=>omega
                     case rel=>exact⟨k+1,by omega,rfl,by push_cast;go_num,HR.out,rfl⟩
                 · obtain rfl:m6=k:=by omega
                   have HOk2:=hid (show checkP (47::t)=okSegs visU tokT (names++ [x.tail]) (X.drop (i+1)) from by
                    rw [HOk.out];have h1:=HNo.out;rw [List.take_of_length_le (by rw [HL6.out];exact Nat.le_refl _)] at h1;rw [h1];rfl)
                   go_wp2_with (at_builtin;refine wpList_append_own_at _ rfl (.tmp 91) (.tmp 93) 36 rfl w1.heap.size 9 j0 _ 1 16 Tryz.underlying36 hj0 hy0 hy1 hy2 rfl (by decide) (.slice p6 m6 c6) m6 (names.flatMap fun t:B=>[.string (str t)]) (by go_simp) (by have h8:=HO6.out.alloc (.cells #[.string T] 9 (0,0));unfold OwnR_r at h8;rw [HL6.out] at h8;exact h8) ⟨wv.heap.size,0,none⟩ 1 1 [.string T] (by go_simp) rfl (cells_new wv _ _) (by simp [Value.oneCell']) (by unfold maxLen;omega) (by omega) (by have h1:=HB.out.size;simp;omega) ?_;intro v6 wt hown hgr _ _;obtain⟨p7,L7,c7,rfl⟩:=own_slice3 hown;have HT7:=hid (show OwnR_r 9 1 (fun t:B=>[.string (str t)]) wt w1.heap.size (.slice p7 L7 c7) (names++ [x.tail]) from OwnR_r.put HL6.out (by rw [HXs.out];exact hown));have HBt:=hid (show Below w1.heap.size w1 wt from(HB.out.trans ((below_new wv _).mono HB.out.size)).trans ((HO6.out.alloc _).below (by have h1:=HB.out.size;simp;omega) hgr));obtain⟨hL7,_⟩:L7=m6+1∧True:=⟨row_len hown,trivial⟩;subst hL7;clear hown hgr);go_roundg (n-(i+1)+1)
                   case measure=>omega
                   case rel=>exact⟨i+1,m6+1,c7,p7,names++ [x.tail],by omega,rfl,by push_cast;go_num,rfl,by rw [List.length_append,HL6.out];rfl,by omega,HT7.out,HCk.out.symm.trans HOk2.out,HBt.out⟩
       · obtain rfl:n=i:=by omega
         have HFin:=hid (show checkP (47::t)=true from by rw [HOk.out,List.drop_of_length_le (by rw [HN.out];exact Nat.le_refl _)];rfl);go_wp2;go_ret;exact rchk_yes HFin.out rfl (below_out HB1.out HB.out)
    · have HC:=hid (show checkP (47::t)=false from by rw [HCk.out,decide_eq_false h64];rfl);have h64':(64:Int)<(n:Int):=by omega
      have h64d:decide ((64:Int)<(n:Int))=true:=decide_eq_true h64';go_enter Tryz.func28,Tryz.ntmps28;go_wp2_with (go_at_call 53;(with_reducible refine(HSp.out _).mono ?_);rintro e w1 ⟨p1,c1,rfl,ho,hb⟩;have HB1:=hid hb;clear ho hb HSp);go_ret;exact rchk_no HC.out rfl HB1.out
  · have HC:=hid (show checkP (47::t)=false from by rw [HCk.out,decide_eq_false h256];rfl);have h256':(256:Int)<(N:Int):=by omega
    have h256d:decide ((256:Int)<(N:Int))=true:=decide_eq_true h256';go_enter Tryz.func28,Tryz.ntmps28;go_wp2_with (go_at_call 53;(with_reducible refine(HSp.out _).mono ?_);rintro e w1 ⟨p1,c1,rfl,ho,hb⟩;have HB1:=hid hb;clear ho hb HSp);go_ret;exact rchk_no HC.out rfl HB1.out
structure RtC where
 host:B
 path:B
 ms:List B
deriving DecidableEq
def methE (l:List B):Nat:=if l.all tokT then (if decide l.Nodup then 0 else 6) else 3
def takesR (l:List B) (m:B):Bool:=l.isEmpty || l.contains m
def meetR (a b:List B):Bool:=a.isEmpty || b.isEmpty || a.any fun x=>b.contains x
theorem take_snoc_q (l:List B) (i:Nat) (x:B) (h:l[i]?=some x):l.take (i+1)=l.take i++ [x]:=by
 rw [List.take_add_one,h];rfl
theorem methE_bad {l:List B}{i:Nat}{x:B} (hx:l[i]?=some x) (h:tokT x=false):methE l=3:=by
 unfold methE;rw [if_neg];intro h2;rw [List.all_eq_true] at h2;rw [h2 x (List.mem_of_getElem? hx)] at h;cases h
theorem all_to {l:List B}{i:Nat} (h:∀ x∈l.take i,tokT x=true) (hi:i=l.length):l.all tokT=true:=by
 subst hi;rw [List.take_length] at h;rw [List.all_eq_true];exact h
theorem methE_twice {l:List B}{i:Nat}{x:B} (ha:l.all tokT=true) (hx:l[i]?=some x) (h:(l.take i).contains x=true):methE l=6:=by
 unfold methE;rw [if_pos ha,if_neg];intro h2;have h3:=of_decide_eq_true h2;rw [List.contains_iff_mem] at h;have h4:(l.take (i+1)).Nodup:=h3.sublist (List.take_sublist _ _);rw [take_snoc_q l i x hx,List.nodup_append] at h4;exact h4.2.2 x h x (by simp) rfl
theorem methE_ok {l:List B}{i:Nat} (ha:l.all tokT=true) (hi:i=l.length) (h:(l.take i).Nodup):methE l=0:=by
 subst hi;rw [List.take_length] at h;unfold methE;rw [if_pos ha,if_pos (decide_eq_true h)]
theorem nodup_next {l:List B}{i:Nat}{x:B} (h:(l.take i).Nodup) (hx:l[i]?=some x) (hn:(l.take i).contains x=false):(l.take (i+1)).Nodup:=by
 rw [take_snoc_q l i x hx,List.nodup_append];refine⟨h,by simp,fun a ha b hb=>?_⟩;rw [List.mem_singleton.1 hb];intro e;subst e;rw [←List.contains_iff_mem,hn] at ha;cases ha
theorem txt_take {w:World}{p:Option Addr}{l:List B} (h:TxAt w p l) (i:Nat):TxAt w p (l.take i):=by
 intro j t hj;refine h j t ?_;rw [List.getElem?_take] at hj;split at hj
 · exact hj
 · cases hj
theorem contains_to {l:List B}{x:B}{i:Nat} (h:∀ y∈l.take i,¬y=x) (hi:i=l.length):l.contains x=false:=by
 subst hi;rw [List.take_length] at h;rw [←Bool.not_eq_true,List.contains_iff_mem];exact fun hm=>h x hm rfl
theorem rhas_any (l:List B) (p:Option Addr) (n c:Nat) (hn:l.length=n) (hnn:n≤140737488355328) (y:B) (w:World) (hT:TxAt w p l):Calls Tryz.prog 39 #[.slice p n c,.string (str y)] w fun e w'=>e= .returned (.bool (l.contains y))∧w'=w:=by
 have HN:=hid hn;have HT:=hid hT;clear hn hT;obtain⟨Y,hY⟩:∃ Y,str y=Y:=⟨_,rfl⟩;have HY:=hid hY;rw [hY];clear hY;go_enter Tryz.func39,Tryz.ntmps39;go_wp2;go_loopg [5] (n+1) (fun gk s5 wr=>∃ i:Nat,i≤n∧gk=n-i+1∧s5= .int .i64 (i:Int)∧(∀ z∈l.take i,¬z=y)∧wr=w)
 case atStart=>exact⟨0,by omega,rfl,rfl,by simp,rfl⟩
 case round=>
  obtain⟨i,hi,rfl,rfl,hE,hb⟩:=hrel;subst hb;have HE:=hid hE;clear hE;by_cases hin:i<n
  · have h1:i<l.length:=by rw [HN.out];exact hin
    obtain⟨x,hx⟩:∃ x,l[i]?=some x:=⟨_,List.getElem?_eq_getElem h1⟩;have HX:=hid hx;obtain⟨g1,o1,rfl,q1⟩:=HT.out i x hx;clear h1 hx;obtain⟨X,hX⟩:∃ X,str x=X:=⟨_,rfl⟩;have HXs:=hid hX;rw [hX] at q1;clear hX;by_cases hxy:X=Y
    · subst hxy;have HV:=hid (show l.contains y=true from by
       have e:x=y:=str_inj (HXs.out.trans HY.out.symm);rw [List.contains_iff_mem,←e];exact List.mem_of_getElem? HX.out)
      go_wp2;go_ret;exact⟨ret_bool HV.out.symm,rfl⟩
    · have hbf:=ne_list hxy;have HNe:=hid (show ¬x=y from fun e=>hxy (by rw [←HXs.out,←HY.out,e]));go_wp2;go_roundg (n-(i+1)+1)
      case measure=>omega
      case rel=>
       refine⟨i+1,by omega,by omega,by go_num,?_,rfl⟩;intro z hz;rw [take_snoc_q l i x HX.out,List.mem_append,List.mem_singleton] at hz;rcases hz with hz|hz
       · exact HE.out z hz
       · rw [hz];exact HNe.out
  · have HV:=hid (show l.contains y=false from contains_to HE.out (by rw [HN.out];omega));go_wp2;go_ret;exact⟨ret_bool HV.out.symm,rfl⟩
theorem pmeth_any (l:List B) (p:Option Addr) (n c:Nat) (hn:l.length=n) (hc:n≤c) (hz:∀ x∈l,x.length≤maxLen) (hnn:n≤140737488355328) (w:World) (hT:TxAt w p l):Calls Tryz.prog 16 #[.slice p n c] w fun e w'=>e= .returned (errOf (methE l))∧w'=w:=by
 have HN:=hid hn;have HT:=hid hT;have HZ:=hid hz;clear hn hT hz;go_enter Tryz.func16,Tryz.ntmps16;go_wp2;go_loopg [9] (n+1) (fun gk s9 wr=>∃ i:Nat,i≤n∧gk=n-i+1∧s9= .int .i64 (i:Int)∧(∀ z∈l.take i,tokT z=true)∧wr=w)
 case atStart=>exact⟨0,by omega,rfl,rfl,by simp,rfl⟩
 case round=>
  obtain⟨i,hi,rfl,rfl,hE,hb⟩:=hrel;subst hb;have HE:=hid hE;clear hE;by_cases hin:i<n
  · have h1:i<l.length:=by rw [HN.out];exact hin
    obtain⟨x,hx⟩:∃ x,l[i]?=some x:=⟨_,List.getElem?_eq_getElem h1⟩;have HX:=hid hx;obtain⟨g1,o1,rfl,q1⟩:=HT.out i x hx;have HTk:=hid (fun W:World=>istoken_any (str x) W (by rw [str_size];exact HZ.out x (List.mem_of_getElem? hx)));obtain⟨b,hb⟩:∃ b,tokT x=b:=⟨_,rfl⟩;have HBt:=hid hb;rw [show isTok (str x)=b from hb] at HTk;clear h1 hx hb;obtain⟨X,hX⟩:∃ X,str x=X:=⟨_,rfl⟩;rw [hX] at q1 HTk;clear hX;cases b with
    |false=>
     have HV:=hid (methE_bad HX.out HBt.out);go_wp2_with (go_at_call 40;(with_reducible refine(HTk.out _).mono ?_);rintro e w1 ⟨rfl,hw1⟩;subst w1);go_ret;exact⟨by rw [HV.out];rfl,rfl⟩
    |true=>
     go_wp2_with (go_at_call 40;(with_reducible refine(HTk.out _).mono ?_);rintro e w1 ⟨rfl,hw1⟩;subst w1);go_roundg (n-(i+1)+1)
     case measure=>omega
     case rel=>
      refine⟨i+1,by omega,by omega,by go_num,?_,rfl⟩;intro z hz;rw [take_snoc_q l i x HX.out,List.mem_append,List.mem_singleton] at hz;rcases hz with hz|hz
      · exact HE.out z hz
      · rw [hz];exact HBt.out
  · have HA:=hid (all_to HE.out (by rw [HN.out];omega));go_wp2;clear hin hi HE;go_loopg [20] (n+1) (fun gk s20 wr2=>∃ i:Nat,i≤n∧gk=n-i+1∧s20= .int .i64 (i:Int)∧(l.take i).Nodup∧wr2=wr)
    case atStart=>exact⟨0,by omega,rfl,rfl,by simp,rfl⟩
    case round=>
     obtain⟨i,hi,rfl,rfl,hE,hb⟩:=hrel;subst hb;have HE:=hid hE;clear hE;by_cases hin:i<n
     · have h1:i<l.length:=by rw [HN.out];exact hin
       obtain⟨x,hx⟩:∃ x,l[i]?=some x:=⟨_,List.getElem?_eq_getElem h1⟩;have HX:=hid hx;obtain⟨g1,o1,rfl,q1⟩:=HT.out i x hx;have HCt:=hid (contains_any (l.take i) (some ⟨g1,o1,none⟩) i c (by rw [List.length_take];omega) (by omega) x _ (txt_take HT.out i));obtain⟨b,hb⟩:∃ b,(l.take i).contains x=b:=⟨_,rfl⟩;have HBt:=hid hb;rw [hb] at HCt;clear h1 hx hb;obtain⟨X,hX⟩:∃ X,str x=X:=⟨_,rfl⟩;rw [hX] at q1 HCt;clear hX;cases b with
       |true=>
        have HV:=hid (methE_twice HA.out HX.out HBt.out);go_wp2_with (go_at_call 41;(with_reducible refine HCt.out.mono ?_);rintro e w1 ⟨rfl,hw1⟩;subst w1);go_ret;exact⟨by rw [HV.out];rfl,rfl⟩
       |false=>
        go_wp2_with (go_at_call 41;(with_reducible refine HCt.out.mono ?_);rintro e w1 ⟨rfl,hw1⟩;subst w1);go_roundg (n-(i+1)+1)
        case measure=>omega
        case rel=>exact⟨i+1,by omega,by omega,by go_num,nodup_next HE.out HX.out HBt.out,rfl⟩
     · have HV:=hid (methE_ok HA.out (show i=l.length by rw [HN.out];omega) HE.out);go_wp2;go_ret;exact⟨by rw [HV.out];rfl,rfl⟩
theorem rmeet_any (a b:List B) (p q:Option Addr) (n c m d:Nat) (hn:a.length=n) (hm:b.length=m) (hnn:n≤140737488355328) (hmm:m≤140737488355328) (w:World) (hT:TxAt w p a) (hU:TxAt w q b):Calls Tryz.prog 65 #[.slice p n c,.slice q m d] w fun e w'=>e= .returned (.bool (meetR a b))∧w'=w:=by
 have HN:=hid hn;have HT:=hid hT;by_cases h0:n=0
 · subst h0;have HV:=hid (show meetR a b=true from by unfold meetR;rw [List.length_eq_zero_iff.1 hn];rfl);clear hn hm hT hU;go_enter Tryz.func65,Tryz.ntmps65;go_wp2;go_ret;exact⟨ret_bool HV.out.symm,rfl⟩
 by_cases h1:m=0
 · subst h1;have HV:=hid (show meetR a b=true from by unfold meetR;rw [List.length_eq_zero_iff.1 hm];simp);clear hn hm hT hU;go_enter Tryz.func65,Tryz.ntmps65;go_wp2;go_ret;exact⟨ret_bool HV.out.symm,rfl⟩
 have HNa:=hid (show a.isEmpty=false from by cases a with|nil=>exact absurd hn (by simp;omega)|cons x l=>rfl);have HNb:=hid (show b.isEmpty=false from by cases b with|nil=>exact absurd hm (by simp;omega)|cons x l=>rfl);have HH:=hid (fun y:B=>rhas_any b q m d hm hmm y w hU);have hb1:((n:Int)== 0)=false:=by rw [beq_eq_false_iff_ne];omega
 have hb2:((m:Int)== 0)=false:=by rw [beq_eq_false_iff_ne];omega
 clear hn hm hT hU;go_enter Tryz.func65,Tryz.ntmps65;go_wp2;go_loopg [5] (n+1) (fun gk s5 wr=>∃ i:Nat,i≤n∧gk=n-i+1∧s5= .int .i64 (i:Int)∧(∀ z∈a.take i,b.contains z=false)∧wr=w)
 case atStart=>exact⟨0,by omega,rfl,rfl,by simp,rfl⟩
 case round=>
  obtain⟨i,hi,rfl,rfl,hE,hb⟩:=hrel;subst hb;have HE:=hid hE;clear hE;by_cases hin:i<n
  · have h1:i<a.length:=by rw [HN.out];exact hin
    obtain⟨x,hx⟩:∃ x,a[i]?=some x:=⟨_,List.getElem?_eq_getElem h1⟩;have HX:=hid hx;obtain⟨g1,o1,rfl,q1⟩:=HT.out i x hx;have HC:=hid (HH.out x);obtain⟨v,hv⟩:∃ v,b.contains x=v:=⟨_,rfl⟩;have HBt:=hid hv;rw [hv] at HC;clear h1 hx hv;obtain⟨X,hX⟩:∃ X,str x=X:=⟨_,rfl⟩;rw [hX] at q1 HC;clear hX;cases v with
    |true=>
     have HV:=hid (show meetR a b=true from by
      unfold meetR;rw [show (a.any fun x=>b.contains x)=true from List.any_eq_true.2 ⟨x,List.mem_of_getElem? HX.out,HBt.out⟩];simp)
     go_wp2_with (go_at_call 39;(with_reducible refine HC.out.mono ?_);rintro e w1 ⟨rfl,hw1⟩;subst w1);go_ret;exact⟨ret_bool HV.out.symm,rfl⟩
    |false=>
     go_wp2_with (go_at_call 39;(with_reducible refine HC.out.mono ?_);rintro e w1 ⟨rfl,hw1⟩;subst w1);go_roundg (n-(i+1)+1)
     case measure=>omega
     case rel=>
      refine⟨i+1,by omega,by omega,by go_num,?_,rfl⟩;intro z hz;rw [take_snoc_q a i x HX.out,List.mem_append,List.mem_singleton] at hz;rcases hz with hz|hz
      · exact HE.out z hz
      · rw [hz];exact HBt.out
  · have HV:=hid (show meetR a b=false from by
     have he:=HE.out;rw [show i=a.length by rw [HN.out];omega,List.take_length] at he;unfold meetR;rw [HNa.out,HNb.out,Bool.false_or,Bool.false_or,←Bool.not_eq_true,List.any_eq_true];rintro ⟨z,h1,h2⟩;rw [he z h1] at h2;cases h2)
    go_wp2;go_ret;exact⟨ret_bool HV.out.symm,rfl⟩
theorem rmeth_any (l:List B) (p:Option Addr) (n c:Nat) (hn:l.length=n) (hc:n≤c) (hz:∀ x∈l,x.length≤maxLen) (hnn:n≤140737488355328) (w:World) (hT:TxAt w p l):Calls Tryz.prog 17 #[.slice p n c] w fun e w'=>e= .returned (.int .i64 (methE l:Int))∧Below w.heap.size w w':=by
 have HN:=hid hn;have HT:=hid hT;have HZ:=hid hz;clear hn hT hz;go_enter Tryz.func17,Tryz.ntmps17;go_wp2;go_loopg [3] (n+1) (fun gk s9 wr=>∃ i:Nat,i≤n∧gk=n-i+1∧s9= .int .i64 (i:Int)∧(∀ z∈l.take i,tokT z=true)∧wr=w)
 case atStart=>exact⟨0,by omega,rfl,rfl,by simp,rfl⟩
 case round=>
  obtain⟨i,hi,rfl,rfl,hE,hb⟩:=hrel;subst hb;have HE:=hid hE;clear hE;by_cases hin:i<n
  · have h1:i<l.length:=by rw [HN.out];exact hin
    obtain⟨x,hx⟩:∃ x,l[i]?=some x:=⟨_,List.getElem?_eq_getElem h1⟩;have HX:=hid hx;obtain⟨g1,o1,rfl,q1⟩:=HT.out i x hx;have HTk:=hid (fun W:World=>ristoken_any (str x) W (by rw [str_size];exact HZ.out x (List.mem_of_getElem? hx)));obtain⟨b,hb⟩:∃ b,tokT x=b:=⟨_,rfl⟩;have HBt:=hid hb;rw [show isTok (str x)=b from hb] at HTk;clear h1 hx hb;obtain⟨X,hX⟩:∃ X,str x=X:=⟨_,rfl⟩;rw [hX] at q1 HTk;clear hX;cases b with
    |false=>
     have HV:=hid (methE_bad HX.out HBt.out);go_wp2_with (go_at_call 42;(with_reducible refine(HTk.out _).mono ?_);rintro e w1 ⟨rfl,hw1⟩;subst w1);go_ret;exact⟨by rw [HV.out];rfl,Below.refl _ _⟩
    |true=>
     go_wp2_with (go_at_call 42;(with_reducible refine(HTk.out _).mono ?_);rintro e w1 ⟨rfl,hw1⟩;subst w1);go_roundg (n-(i+1)+1)
     case measure=>omega
     case rel=>
      refine⟨i+1,by omega,by omega,by go_num,?_,rfl⟩;intro z hz;rw [take_snoc_q l i x HX.out,List.mem_append,List.mem_singleton] at hz;rcases hz with hz|hz
      · exact HE.out z hz
      · rw [hz];exact HBt.out
  · have HA:=hid (all_to HE.out (by rw [HN.out];omega));obtain⟨w0,hw0⟩:∃ W,W=wr:=⟨_,rfl⟩;subst hw0;go_wp2;clear hin hi HE;go_loopg [4] (n+1) (fun gk s20 wr2=>∃ i:Nat,i≤n∧gk=n-i+1∧s20= .int .i64 (i:Int)∧(l.take i).Nodup∧Below w0.heap.size w0 wr2)
    case atStart=>exact⟨0,by omega,rfl,rfl,by simp,Below.refl _ _⟩
    case round=>
     obtain⟨i,hi,rfl,rfl,hE,hb⟩:=hrel;have HE:=hid hE;have HB:=hid hb;clear hE hb;by_cases hin:i<n
     · have h1:i<l.length:=by rw [HN.out];exact hin
       obtain⟨x,hx⟩:∃ x,l[i]?=some x:=⟨_,List.getElem?_eq_getElem h1⟩;have HX:=hid hx;obtain⟨g1,o1,rfl,q1⟩:=(HT.out.next HB.out) i x hx;have HCt:=hid (fun (W:World) (hb:Below wr.heap.size wr W)=>rhas_any (l.take i) (some ⟨g1,o1,none⟩) i c (by rw [List.length_take];omega) (by omega) x W (txt_take ((HT.out.next HB.out).next hb) i));obtain⟨b,hb⟩:∃ b,(l.take i).contains x=b:=⟨_,rfl⟩;have HBt:=hid hb;rw [hb] at HCt;clear h1 hx hb;obtain⟨X,hX⟩:∃ X,str x=X:=⟨_,rfl⟩;rw [hX] at q1 HCt;clear hX;have hic:i≤c:=by omega
       cases b with
       |true=>
        have HV:=hid (methE_twice HA.out HX.out HBt.out);go_wp2;go_region_with (go_at_call 39;(with_reducible refine(HCt.out _ (by first|exact(Below.refl _ _).drew|exact Below.refl _ _|exact below_drew (Below.refl _ _) _)).mono ?_);rintro e w1 ⟨rfl,hw1⟩;have hbw:Below wr.heap.size wr w1:=(by rw [hw1];first|exact(Below.refl _ _).drew|exact Below.refl _ _|exact below_drew (Below.refl _ _) _);have HB2:=hid (below_out HB.out hbw);clear hw1 hbw);all_goals
         go_wp2;go_ret;exact⟨by rw [HV.out];rfl,HB2.out⟩
       |false=>
        have HNx:=hid (nodup_next HE.out HX.out HBt.out);go_wp2;go_region_with (go_at_call 39;(with_reducible refine(HCt.out _ (by first|exact(Below.refl _ _).drew|exact Below.refl _ _|exact below_drew (Below.refl _ _) _)).mono ?_);rintro e w1 ⟨rfl,hw1⟩;have hbw:Below wr.heap.size wr w1:=(by rw [hw1];first|exact(Below.refl _ _).drew|exact Below.refl _ _|exact below_drew (Below.refl _ _) _);have HB2:=hid (below_out HB.out hbw);clear hw1 hbw);all_goals
         go_wp2;go_roundg (n-(i+1)+1)
         case measure=>omega
         case rel=>exact⟨i+1,by omega,by omega,by go_num,HNx.out,HB2.out⟩
     · have HV:=hid (methE_ok HA.out (show i=l.length by rw [HN.out];omega) HE.out);go_wp2;go_ret;exact⟨by rw [HV.out];rfl,HB.out⟩
theorem ptakes_any (l:List B) (p:Option Addr) (n c:Nat) (hn:l.length=n) (hnn:n≤140737488355328) (P:ByteArray) (y:B) (w:World) (hT:TxAt w p l):Calls Tryz.prog 32 #[.agg #[.string P,.slice p n c],.string (str y)] w fun e w'=>e= .returned (.bool (takesR l y))∧Below w.heap.size w w':=by
 have HCt:=hid (fun (W:World) (hb:Below w.heap.size w W)=>contains_any l p n c hn hnn y W (hT.next hb));unfold takesR;obtain⟨v,hv⟩:∃ v,l.contains y=v:=⟨_,rfl⟩;rw [hv] at HCt ⊢;obtain⟨Y,hY⟩:∃ Y,str y=Y:=⟨_,rfl⟩;rw [hY] at HCt ⊢;clear hv hY hT;have HB0:=hid (below_new w (.cells #[.string P,.slice p n c] 91 (0,0)));by_cases h0:n=0
 · subst h0;rw [List.length_eq_zero_iff.1 hn];clear hn;go_enter Tryz.func32,Tryz.ntmps32;go_wp2;go_ret;exact⟨rfl,HB0.out⟩
 · have HV:=hid (show l.isEmpty=false from by cases l with|nil=>exact absurd hn (by simp;omega)|cons x l=>rfl);have hb1:((n:Int)== 0)=false:=by rw [beq_eq_false_iff_ne];omega
   rw [HV.out,Bool.false_or];clear hn;go_enter Tryz.func32,Tryz.ntmps32;go_wp2_with (go_at_call 41;(with_reducible refine(HCt.out _ HB0.out).mono ?_);rintro e w1 ⟨rfl,hw1⟩;subst w1);go_ret;exact⟨rfl,HB0.out⟩
end Go.Proofs.YtlmlljlappjjjaaGreatDoor
