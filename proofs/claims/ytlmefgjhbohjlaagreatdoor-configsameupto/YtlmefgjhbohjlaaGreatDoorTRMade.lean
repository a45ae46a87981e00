/- The segments of a pattern, by the program. -/
import Derived.Test.YtlmefgjhbohjlaaGreatDoorTFits
namespace Go.Proofs.YtlmefgjhbohjlaaGreatDoor
open Go.RowKit
def checkP (p:B):Bool:=checkT visU tokT p
def SegAns (p:B) (w:World) (e:Ending) (w':World):Prop:=Below w.heap.size w w'∧((checkP p=true∧∃ q n c,e= .returned (.tuple #[.slice q n c,.nilIface])∧OwnG w' w.heap.size (.slice q n c) (cutT p.tail)∧(cutT p.tail).length=n)∨(checkP p=false∧e= .returned (.tuple #[.slice none 0 0,.iface 63 (.int .i64 3)])))
theorem segAns_no {p:B}{w w':World}{e:Ending} (h:checkP p=false) (he:e= .returned (.tuple #[.slice none 0 0,.iface 63 (.int .i64 3)])) (hb:Below w.heap.size w w'):SegAns p w e w':=⟨hb,.inr ⟨h,he⟩⟩
theorem check_beg {p:B} (h:begB 47 p=false):checkP p=false:=by
 unfold checkP checkT splitT;cases p with
 |nil=>rfl
 |cons c t=>
  have:¬c=47:=by simpa [begB] using h
  simp [this]
theorem check_cons (t:B):checkP (47::t)=(decide ((47::t).length≤256) && decide ((cutT t).length≤64) && okSegs visU tokT [] (cutT t)):=rfl
theorem beg_cons {p:B} (h:begB 47 p=true):∃ t,p=47::t:=by
 cases p with
 |nil=>cases h
 |cons c t=>exact⟨t,by rw [show c=47 by simpa [begB] using h]⟩
theorem ok_step0 {names l:List B}{x:B} (h:kindT x=0):okSegs visU tokT names (x::l)=(okS x && okSegs visU tokT names l):=by
 rw [okSegs,if_pos h];unfold okS;rw [if_pos h]
theorem ok_step1 {names l:List B}{x:B} (h:¬kindT x=0):okSegs visU tokT names (x::l)=(okS x && (decide (kindT x≠2) || decide (l= [])) && !names.contains x.tail && okSegs visU tokT (names++ [x.tail]) l):=by
 rw [okSegs,if_neg h];unfold okS;rw [if_neg h]
theorem row_len {w:World}{b n sz L c:Nat}{T:TypeId}{p:Option Addr}{xs:List Value} (h:w.ownsRow b T sz (.slice p L c) n xs):L=n:=by
 rcases h.2 with ⟨h1,h2⟩|⟨g,cap,cur,h1,_⟩
 · injection h1 with _ h3;omega
 · injection h1
section
variable {w1 wr wa wt : World} {K : Int} {T : ByteArray} {v5 v6 : Value} {acc names : List B} {o9 o7 : Obj}
theorem tokB_below (hb:Below w1.heap.size w1 wr) (ha:Below wr.heap.size wr wa) (h6:OwnR 9 1 (fun t:B=>[.string (str t)]) wr w1.heap.size v6 names) (hg:((wa.alloc o9).alloc o7).grownBy wt v6.ownBlock):Below w1.heap.size w1 wt:=by
 have hs:=hb.size;have hs2:=ha.size;have h1:=hb.trans (ha.mono hs);have h2:=(below_new wa o9).mono (Nat.le_trans hs hs2);have h3:=(below_new (wa.alloc o9) o7).mono (show w1.heap.size≤(wa.alloc o9).heap.size from by simp;omega);have h4:=(((h6.keep ha).alloc o9).alloc o7).below (by simp;omega) hg;exact((h1.trans h2).trans h3).trans h4
theorem tok_aside (h5:OwnG wr w1.heap.size v5 acc) (h6:OwnR 9 1 (fun t:B=>[.string (str t)]) wr w1.heap.size v6 names) (ha:Below wr.heap.size wr wa) (hg:((wa.alloc o9).alloc o7).grownBy wt v6.ownBlock):OwnG wt w1.heap.size v5 acc:=
 (((h5.keep ha).alloc o9).alloc o7).aside (((h6.keep ha).alloc o9).alloc o7) (by decide) hg
theorem tok_cells (h6:OwnR 9 1 (fun t:B=>[.string (str t)]) wr w1.heap.size v6 names) (ha:Below wr.heap.size wr wa) (hg:((wa.alloc (.cells #[.int .i64 K,.string T] 329 (0,0))).alloc o7).grownBy wt v6.ownBlock):wt.cell? ⟨wa.heap.size,0,none⟩=some (.int .i64 K)∧wt.cell? ⟨wa.heap.size,1,none⟩=some (.string T):=by
 have hs:=ha.size;have hk:wt.heap[wa.heap.size]?=(wa.alloc (.cells #[.int .i64 K,.string T] 329 (0,0))).heap[wa.heap.size]?:=by
  refine(hg.block wa.heap.size (by simp;omega) (fun e=>?_)).trans ((below_new _ _).block _ (by simp));have:=h6.lt e.symm;omega
 have h0:=cells_new wa [.int .i64 K,.string T] 329 0 _ rfl;have h1:=cells_new wa [.int .i64 K,.string T] 329 1 _ rfl;rw [add_off] at h0 h1;exact⟨cell_same h0 hk,cell_same h1 hk⟩
theorem lst_below (hb:Below w1.heap.size w1 wr) (h5:OwnG wr w1.heap.size v5 acc) (hg:(wr.alloc o7).grownBy wt v5.ownBlock):Below w1.heap.size w1 wt:=by
 have hs:=hb.size;exact(hb.trans ((below_new wr o7).mono hs)).trans ((h5.alloc o7).below (by simp;omega) hg)
theorem lst_aside (h5:OwnG wr w1.heap.size v5 acc) (h6:OwnR 9 1 (fun t:B=>[.string (str t)]) wr w1.heap.size v6 names) (hg:(wr.alloc o7).grownBy wt v5.ownBlock):OwnR 9 1 (fun t:B=>[.string (str t)]) wt w1.heap.size v6 names:=
 (h6.alloc o7).aside (h5.alloc o7) (by decide) hg
end
set_option maxRecDepth 20000 in
set_option maxHeartbeats 16000000 in
theorem segments_any (p:B) (hp:p.length≤140737488355328) (w:World) (hmx:MxAt w):Calls Tryz.prog 226 #[.string (str p)] w fun e w'=>SegAns p w e w':=by
 obtain⟨i0,hi0,hz0,hz1,hz2⟩:=info_parts infoG;obtain⟨j0,hj0,hy0,hy1,hy2⟩:=info_parts infoS;have HBg:=hid (fun W:World=>begins_any p hp W);cases hbg:begB 47 p with
 |false=>
  have HC:=hid (check_beg hbg);rw [hbg] at HBg;obtain⟨S,hS⟩:∃ S,str p=S:=⟨_,rfl⟩;rw [hS] at HBg ⊢;clear hS hbg;go_enter Tryz.func226,Tryz.ntmps226;go_wp2_with (go_at_call 271;(with_reducible refine(HBg.out _).mono ?_);rintro e w1 ⟨rfl,hw1⟩;subst w1);go_ret2;exact segAns_no HC.out rfl (Below.refl _ _)
 |true=>
  rw [hbg] at HBg;obtain⟨t,rfl⟩:=beg_cons hbg;have HCk:=hid (check_cons t);obtain⟨N,hN⟩:∃ N,(47::t:B).length=N:=⟨_,rfl⟩;have hN1:t.length+1=N:=by rw [←hN];rfl
  rw [hN] at HCk hp;obtain⟨S,hS⟩:∃ S,str (47::t)=S:=⟨_,rfl⟩;have hSn:S.size=N:=by rw [←hS,str_size,hN]
  have HE:=hid (show S.extract 1 N=str t from by rw [←hS,ext_drop _ 1 N hN];rfl);rw [hS] at HBg ⊢;by_cases h256:N≤256
  · have HSp:=hid (psplitT t (by omega) w hmx);have HXl:=hid (show ∀ x∈cutT t,x.length≤140737488355328 from fun x h=>Nat.le_trans (cutT_mem_len h) (by omega));have hlen:=cutT_len t;have HTl:=hid (show cutT (47::t:B).tail=cutT t from rfl);obtain⟨X,hX⟩:∃ X,cutT t=X:=⟨_,rfl⟩;rw [hX] at HSp HXl hlen HCk HTl;obtain⟨n,hn⟩:∃ n,X.length=n:=⟨_,rfl⟩;have HN:=hid hn;rw [hn] at HSp hlen HCk;obtain⟨St,hSt⟩:∃ S,str t=S:=⟨_,rfl⟩;rw [hSt] at HSp HE;have he:=HE.out;have h256':¬(256:Int)<(N:Int):=by omega
    have hn2:n≤257:=by omega
    have hN0:1≤N:=by omega
    rw [decide_eq_true h256,Bool.true_and] at HCk;clear hS hX hn hSt hbg hN hN1 HE hlen hmx;by_cases h64:n≤64
    · rw [decide_eq_true h64,Bool.true_and] at HCk;have h64':¬(64:Int)<(n:Int):=by omega
      go_enter Tryz.func226,Tryz.ntmps226;go_wp2_with (first|(go_at_call 271;(with_reducible refine(HBg.out _).mono ?_);rintro e w1 ⟨rfl,hw1⟩;subst w1)|(go_at_call 254;(with_reducible refine HSp.out.mono ?_);rintro e w1 ⟨p1,c1,rfl,ho,hb⟩;have HT1:=hid ho.tx;have HB1:=hid hb;clear ho hb HSp HBg));go_loopg [5,6,29] (n+1) (fun gk s5 s6 s29 wr=>∃ (i m6 c5 c6:Nat) (p5 p6:Option Addr) (names:List B),i≤n∧gk=n-i+1∧s29= .int .i64 (i:Int)∧s5= .slice p5 i c5∧s6= .slice p6 m6 c6∧names.length=m6∧m6≤i∧OwnG wr w1.heap.size (.slice p5 i c5) (X.take i)∧OwnR 9 1 (fun t:B=>[.string (str t)]) wr w1.heap.size (.slice p6 m6 c6) names∧okSegs visU tokT [] X=okSegs visU tokT names (X.drop i)∧Below w1.heap.size w1 wr)
      case atStart=>exact⟨0,0,0,0,none,none,[],by omega,rfl,rfl,rfl,rfl,rfl,by omega,OwnR.nil _ _,OwnR.nil _ _,rfl,Below.refl _ _⟩
      case round=>
       obtain⟨i,m6,c5,c6,p5,p6,names,hi,rfl,rfl,rfl,rfl,hl6,hm6,hO5,hO6,hok,hb⟩:=hrel;have HOk:=hid (HCk.out.trans hok);have HB:=hid hb;have HO5:=hid hO5;have HO6:=hid hO6;have HL6:=hid hl6;clear hok hb hO5 hO6 hl6;by_cases hin:i<n
       · obtain⟨x,hx⟩:∃ x,X[i]?=some x:=⟨_,List.getElem?_eq_getElem (by rw [HN.out];exact hin)⟩;have hle:=HXl.out x (List.mem_of_getElem? hx);have HD:=hid (drop_at hx);have HSg:=hid (fun W:World=>segof_any x hle W);have HDn:=hid (show decide (X.drop (i+1)= [])=decide (i+1=n) from by
          rw [Bool.eq_iff_iff,decide_eq_true_eq,decide_eq_true_eq,List.drop_eq_nil_iff,HN.out];omega)
         have HAcc:=hid (show X.take i++ [x]=X.take (i+1) from by rw [List.take_add_one,hx];rfl);have HL5:=hid (show (X.take i).length=i from by rw [List.length_take,HN.out];omega);obtain⟨acc,hacc⟩:∃ acc,X.take i=acc:=⟨_,rfl⟩;rw [hacc] at HL5 HO5 HAcc;obtain⟨g1,o1,rfl,q1⟩:=(HT1.out.next HB.out) i x hx;rw [HD.out] at HOk;have hk2:=kindT_le x;obtain⟨T,hT⟩:∃ T,str (segX x)=T:=⟨_,rfl⟩;obtain⟨K,hK⟩:∃ K:Int,(kindT x:Int)=K:=⟨_,rfl⟩;have HFx:=hid (show segF x= [.int .i64 K,.string T] from by unfold segF;rw [hK,hT]);have HXs:=hid (show [Value.string (str (segX x))]= [.string T] from by rw [hT]);obtain⟨Sx,hSx⟩:∃ S,str x=S:=⟨_,rfl⟩;rw [hT,hK,hSx] at HSg;rw [hSx] at q1;cases hos:okS x with
         |false=>
          have HC:=hid (show checkP (47::t)=false from by
           rw [HOk.out];by_cases h0:kindT x=0
           · rw [ok_step0 h0,hos];rfl
           · rw [ok_step1 h0,hos];rfl)
          rw [hos] at HSg;clear hx hacc hT hK hSx hos hle;go_wp2_with (go_at_call 272;(with_reducible refine(HSg.out _).mono ?_);rintro e wa ⟨rfl,hba⟩;have HBa:=hid hba;clear hba);go_ret2;exact segAns_no HC.out rfl (below_out HB1.out ((HB.out.trans (HBa.out.mono HB.out.size)).trans ((below_new wa _).mono (Nat.le_trans HB.out.size HBa.out.size))))
         |true=>
          rw [hos] at HSg;by_cases h0:kindT x=0
          · obtain rfl:(0:Int)=K:=by rw [←hK,h0];rfl
            have HR:=hid (show okSegs visU tokT names (x::X.drop (i+1))=okSegs visU tokT names (X.drop (i+1)) from by rw [ok_step0 h0,hos,Bool.true_and]);rw [HR.out] at HOk;clear hx hacc hT hK hSx hos hle hk2 h0;go_wp2_with (first|(go_at_call 272;(with_reducible refine(HSg.out _).mono ?_);rintro e wa ⟨rfl,hba⟩;have HBa:=hid hba;clear hba)|(at_builtin;refine wpList_append_own_at _ rfl (.tmp 67) (.tmp 69) 285 rfl w1.heap.size 329 i0 _ 2 24 Tryz.underlying285 hi0 hz0 hz1 hz2 rfl (by decide) (.slice p5 i c5) i (acc.flatMap segF) (by go_simp) (by have h8:=((HO5.out.keep HBa.out).alloc (.cells #[.int .i64 0,.string T] 329 (0,0))).alloc (.cells #[.int .i64 0,.string T] 329 (0,0));unfold OwnR at h8;rw [HL5.out] at h8;exact h8) ⟨(wa.alloc (.cells #[.int .i64 0,.string T] 329 (0,0))).heap.size,0,none⟩ 1 1 [.int .i64 0,.string T] (by go_simp) rfl (cells_new (wa.alloc (.cells #[.int .i64 0,.string T] 329 (0,0))) _ _) (by simp [Value.oneCell']) (by unfold maxLen;omega) (by omega) (by have h1:=HB.out.size;have h2:=HBa.out.size;simp;first|omega|(have h3:=HBt.out.size;omega)) ?_;intro v5 wl hown hgr _ _;obtain⟨p8,L8,c8,rfl⟩:=own_slice3 hown;have HG8:=hid (show OwnG wl w1.heap.size (.slice p8 L8 c8) (acc++ [x]) from OwnR.put HL5.out (by rw [HFx.out];exact hown));obtain⟨hL8,_⟩:L8=i+1∧True:=⟨row_len hown,trivial⟩;subst hL8;have HO6l:=hid (lst_aside ((HO5.out.keep HBa.out).alloc (.cells #[.int .i64 0,.string T] 329 (0,0))) ((HO6.out.keep HBa.out).alloc (.cells #[.int .i64 0,.string T] 329 (0,0))) hgr);have HBl:=hid (lst_below ((HB.out.trans (HBa.out.mono HB.out.size)).trans ((below_new wa _).mono (Nat.le_trans HB.out.size HBa.out.size))) ((HO5.out.keep HBa.out).alloc (.cells #[.int .i64 0,.string T] 329 (0,0))) hgr);clear hown hgr));go_roundg (n-(i+1)+1)
            case measure=>omega
            case rel=>exact⟨i+1,m6,c8,c6,p8,p6,names,by omega,rfl,by push_cast;go_num,rfl,rfl,HL6.out,by omega,by rw [←HAcc.out];exact HG8.out,HO6l.out,HCk.out.symm.trans HOk.out,HBl.out⟩
          · have HSe:=hid (show segX x=x.tail from by unfold segX;rw [if_neg h0]);have hK0:¬K=0:=by rw [←hK];omega
            have hK1:(K== 0)=false:=by simpa using hK0
            have hK9:(K != 0)=true:=by simpa using hK0
            have HCt:=hid (fun (W:World) (h:TxAt W p6 names)=>contains_any names p6 m6 c6 HL6.out (by omega) (segX x) W h);rw [hT] at HCt;by_cases hbad:kindT x=2∧¬i+1=n
            · obtain rfl:(2:Int)=K:=by rw [←hK,hbad.1];rfl
              have hlt:i<n-1:=by omega
              have HC:=hid (show checkP (47::t)=false from by
               rw [HOk.out,ok_step1 h0,HDn.out,hbad.1,decide_eq_false hbad.2];simp)
              clear hx hacc hT hK hSx hos hle hk2 h0 hbad;go_wp2_with (go_at_call 272;(with_reducible refine(HSg.out _).mono ?_);rintro e wa ⟨rfl,hba⟩;have HBa:=hid hba;clear hba);go_ret2;exact segAns_no HC.out rfl (below_out HB1.out ((HB.out.trans (HBa.out.mono HB.out.size)).trans ((below_new wa _).mono (Nat.le_trans HB.out.size HBa.out.size))))
            · have HG:=hid (show (decide (kindT x≠2) || decide (X.drop (i+1)= []))=true from by
               rw [HDn.out,Bool.or_eq_true,decide_eq_true_eq,decide_eq_true_eq];omega)
              have HR:=hid (show okSegs visU tokT names (x::X.drop (i+1))=(!names.contains (segX x) && okSegs visU tokT (names++ [segX x]) (X.drop (i+1))) from by rw [ok_step1 h0,hos,HG.out,HSe.out];simp);rw [HR.out] at HOk;have hnot:¬(K=2∧i<n-1):=by rw [←hK];omega
              cases hct:names.contains (segX x) with
              |true=>
               rw [hct] at HCt HOk;have HC:=hid (show checkP (47::t)=false from HOk.out);clear hx hacc hT hK hSx hos hle hk2 h0 hbad hct;by_cases hK2:K=2
               · have hlt:¬i<n-1:=fun h=>hnot ⟨hK2,h⟩
                 subst hK2;go_wp2_with (first|(go_at_call 272;(with_reducible refine(HSg.out _).mono ?_);rintro e wa ⟨rfl,hba⟩;have HBa:=hid hba;clear hba)|(go_at_call 227;(with_reducible refine(HCt.out _ (((ownR_S HO6.out).keep HBa.out).alloc _).tx).mono ?_);rintro e w5 ⟨rfl,hw5⟩;subst w5));go_ret2;exact segAns_no HC.out rfl (below_out HB1.out ((HB.out.trans (HBa.out.mono HB.out.size)).trans ((below_new wa _).mono (Nat.le_trans HB.out.size HBa.out.size))))
               · have hK3:(K== 2)=false:=by simpa using hK2
                 go_wp2_with (first|(go_at_call 272;(with_reducible refine(HSg.out _).mono ?_);rintro e wa ⟨rfl,hba⟩;have HBa:=hid hba;clear hba)|(go_at_call 227;(with_reducible refine(HCt.out _ (((ownR_S HO6.out).keep HBa.out).alloc _).tx).mono ?_);rintro e w5 ⟨rfl,hw5⟩;subst w5));go_ret2;exact segAns_no HC.out rfl (below_out HB1.out ((HB.out.trans (HBa.out.mono HB.out.size)).trans ((below_new wa _).mono (Nat.le_trans HB.out.size HBa.out.size))))
              |false=>
               rw [hct] at HCt HOk;have HOk2:=hid (show checkP (47::t)=okSegs visU tokT (names++ [segX x]) (X.drop (i+1)) from by rw [HOk.out];rfl);clear hx hacc hT hK hSx hos hle hk2 h0 hbad hct HOk;by_cases hK2:K=2
               · have hlt:¬i<n-1:=fun h=>hnot ⟨hK2,h⟩
                 subst hK2;go_wp2_with (first|(go_at_call 272;(with_reducible refine(HSg.out _).mono ?_);rintro e wa ⟨rfl,hba⟩;have HBa:=hid hba;clear hba)|(go_at_call 227;(with_reducible refine(HCt.out _ (((ownR_S HO6.out).keep HBa.out).alloc _).tx).mono ?_);rintro e w5 ⟨rfl,hw5⟩;subst w5)|(at_builtin;refine wpList_append_own_at _ rfl (.tmp 62) (.tmp 65) 52 rfl w1.heap.size 9 j0 _ 1 16 Tryz.underlying52 hj0 hy0 hy1 hy2 rfl (by decide) (.slice p6 m6 c6) m6 (names.flatMap fun t:B=>[.string (str t)]) (by go_simp) (by have h8:=((HO6.out.keep HBa.out).alloc (.cells #[.int .i64 2,.string T] 329 (0,0))).alloc (.cells #[.string T] 9 (0,0));unfold OwnR at h8;rw [HL6.out] at h8;exact h8) ⟨(wa.alloc (.cells #[.int .i64 2,.string T] 329 (0,0))).heap.size,0,none⟩ 1 1 [.string T] (by go_simp) rfl (cells_new (wa.alloc (.cells #[.int .i64 2,.string T] 329 (0,0))) _ _) (by simp [Value.oneCell']) (by unfold maxLen;omega) (by omega) (by have h1:=HB.out.size;have h2:=HBa.out.size;simp;omega) ?_;intro v6 wt hown hgr _ _;obtain⟨p7,L7,c7,rfl⟩:=own_slice3 hown;have HT7:=hid (show OwnR 9 1 (fun t:B=>[.string (str t)]) wt w1.heap.size (.slice p7 L7 c7) (names++ [segX x]) from OwnR.put HL6.out (by rw [HXs.out];exact hown));have HBt:=hid (show Below w1.heap.size w1 wt from tokB_below HB.out HBa.out HO6.out hgr);have HO7:=hid (tok_aside HO5.out HO6.out HBa.out hgr);have qc:=tok_cells HO6.out HBa.out hgr;obtain⟨qc0,qc1⟩:=qc;obtain⟨hL7,_⟩:L7=m6+1∧True:=⟨row_len hown,trivial⟩;subst hL7;clear hown hgr)|(at_builtin;refine wpList_append_own_at _ rfl (.tmp 67) (.tmp 69) 285 rfl w1.heap.size 329 i0 _ 2 24 Tryz.underlying285 hi0 hz0 hz1 hz2 rfl (by decide) (.slice p5 i c5) i (acc.flatMap segF) (by go_simp) (by have h8:=HO7.out.alloc (.cells #[.int .i64 2,.string T] 329 (0,0));unfold OwnR at h8;rw [HL5.out] at h8;exact h8) ⟨wt.heap.size,0,none⟩ 1 1 [.int .i64 2,.string T] (by go_simp) rfl (cells_new wt _ _) (by simp [Value.oneCell']) (by unfold maxLen;omega) (by omega) (by have h1:=HB.out.size;have h2:=HBa.out.size;simp;first|omega|(have h3:=HBt.out.size;omega)) ?_;intro v5 wl hown hgr _ _;obtain⟨p8,L8,c8,rfl⟩:=own_slice3 hown;have HG8:=hid (show OwnG wl w1.heap.size (.slice p8 L8 c8) (acc++ [x]) from OwnR.put HL5.out (by rw [HFx.out];exact hown));obtain⟨hL8,_⟩:L8=i+1∧True:=⟨row_len hown,trivial⟩;subst hL8;have HT8:=hid (lst_aside HO7.out HT7.out hgr);have HBl:=hid (lst_below HBt.out HO7.out hgr);clear hown hgr));go_roundg (n-(i+1)+1)
                 case measure=>omega
                 case rel=>exact⟨i+1,m6+1,c8,c7,p8,p7,names++ [segX x],by omega,rfl,by push_cast;go_num,rfl,rfl,by rw [List.length_append,HL6.out];rfl,by omega,by rw [←HAcc.out];exact HG8.out,HT8.out,HCk.out.symm.trans HOk2.out,HBl.out⟩
               · have hK3:(K== 2)=false:=by simpa using hK2
                 go_wp2_with (first|(go_at_call 272;(with_reducible refine(HSg.out _).mono ?_);rintro e wa ⟨rfl,hba⟩;have HBa:=hid hba;clear hba)|(go_at_call 227;(with_reducible refine(HCt.out _ (((ownR_S HO6.out).keep HBa.out).alloc _).tx).mono ?_);rintro e w5 ⟨rfl,hw5⟩;subst w5)|(at_builtin;refine wpList_append_own_at _ rfl (.tmp 62) (.tmp 65) 52 rfl w1.heap.size 9 j0 _ 1 16 Tryz.underlying52 hj0 hy0 hy1 hy2 rfl (by decide) (.slice p6 m6 c6) m6 (names.flatMap fun t:B=>[.string (str t)]) (by go_simp) (by have h8:=((HO6.out.keep HBa.out).alloc (.cells #[.int .i64 K,.string T] 329 (0,0))).alloc (.cells #[.string T] 9 (0,0));unfold OwnR at h8;rw [HL6.out] at h8;exact h8) ⟨(wa.alloc (.cells #[.int .i64 K,.string T] 329 (0,0))).heap.size,0,none⟩ 1 1 [.string T] (by go_simp) rfl (cells_new (wa.alloc (.cells #[.int .i64 K,.string T] 329 (0,0))) _ _) (by simp [Value.oneCell']) (by unfold maxLen;omega) (by omega) (by have h1:=HB.out.size;have h2:=HBa.out.size;simp;omega) ?_;intro v6 wt hown hgr _ _;obtain⟨p7,L7,c7,rfl⟩:=own_slice3 hown;have HT7:=hid (show OwnR 9 1 (fun t:B=>[.string (str t)]) wt w1.heap.size (.slice p7 L7 c7) (names++ [segX x]) from OwnR.put HL6.out (by rw [HXs.out];exact hown));have HBt:=hid (show Below w1.heap.size w1 wt from tokB_below HB.out HBa.out HO6.out hgr);have HO7:=hid (tok_aside HO5.out HO6.out HBa.out hgr);have qc:=tok_cells HO6.out HBa.out hgr;obtain⟨qc0,qc1⟩:=qc;obtain⟨hL7,_⟩:L7=m6+1∧True:=⟨row_len hown,trivial⟩;subst hL7;clear hown hgr)|(at_builtin;refine wpList_append_own_at _ rfl (.tmp 67) (.tmp 69) 285 rfl w1.heap.size 329 i0 _ 2 24 Tryz.underlying285 hi0 hz0 hz1 hz2 rfl (by decide) (.slice p5 i c5) i (acc.flatMap segF) (by go_simp) (by have h8:=HO7.out.alloc (.cells #[.int .i64 K,.string T] 329 (0,0));unfold OwnR at h8;rw [HL5.out] at h8;exact h8) ⟨wt.heap.size,0,none⟩ 1 1 [.int .i64 K,.string T] (by go_simp) rfl (cells_new wt _ _) (by simp [Value.oneCell']) (by unfold maxLen;omega) (by omega) (by have h1:=HB.out.size;have h2:=HBa.out.size;simp;first|omega|(have h3:=HBt.out.size;omega)) ?_;intro v5 wl hown hgr _ _;obtain⟨p8,L8,c8,rfl⟩:=own_slice3 hown;have HG8:=hid (show OwnG wl w1.heap.size (.slice p8 L8 c8) (acc++ [x]) from OwnR.put HL5.out (by rw [HFx.out];exact hown));obtain⟨hL8,_⟩:L8=i+1∧True:=⟨row_len hown,trivial⟩;subst hL8;have HT8:=hid (lst_aside HO7.out HT7.out hgr);have HBl:=hid (lst_below HBt.out HO7.out hgr);clear hown hgr));go_roundg (n-(i+1)+1)
                 case measure=>omega
                 case rel=>exact⟨i+1,m6+1,c8,c7,p8,p7,names++ [segX x],by omega,rfl,by push_cast;go_num,rfl,rfl,by rw [List.length_append,HL6.out];rfl,by omega,by rw [←HAcc.out];exact HG8.out,HT8.out,HCk.out.symm.trans HOk2.out,HBl.out⟩
       · obtain rfl:n=i:=by omega
         have HFin:=hid (show checkP (47::t)=true from by rw [HOk.out,List.drop_of_length_le (by rw [HN.out];exact Nat.le_refl _)];rfl);have HTk:=hid (show X.take n=X from List.take_of_length_le (by rw [HN.out];exact Nat.le_refl _));rw [HTk.out] at HO5;go_wp2;go_ret2;exact⟨below_out HB1.out HB.out,.inl ⟨HFin.out,p5,n,c5,rfl,by rw [HTl.out];exact HO5.out.lower HB1.out.size,by rw [HTl.out];exact HN.out⟩⟩
    · have HC:=hid (show checkP (47::t)=false from by rw [HCk.out,decide_eq_false h64];rfl);have h64':(64:Int)<(n:Int):=by omega
      go_enter Tryz.func226,Tryz.ntmps226;go_wp2_with (first|(go_at_call 271;(with_reducible refine(HBg.out _).mono ?_);rintro e w1 ⟨rfl,hw1⟩;subst w1)|(go_at_call 254;(with_reducible refine HSp.out.mono ?_);rintro e w1 ⟨p1,c1,rfl,ho,hb⟩;have HB1:=hid hb;clear ho hb HSp HBg));go_ret2;exact segAns_no HC.out rfl HB1.out
  · have HC:=hid (show checkP (47::t)=false from by rw [HCk.out,decide_eq_false h256];rfl);have h256':(256:Int)<(N:Int):=by omega
    clear hS hbg hN hN1 HE hmx;go_enter Tryz.func226,Tryz.ntmps226;go_wp2_with (go_at_call 271;(with_reducible refine(HBg.out _).mono ?_);rintro e w1 ⟨rfl,hw1⟩;subst w1);go_ret2;exact segAns_no HC.out rfl (Below.refl _ _)
def letterB (c:UInt8):Bool:=decide (97≤c∧c≤122) || decide (65≤c∧c≤90) || decide (48≤c∧c≤57)
def unres (c:UInt8):Bool:=letterB c || ([45,46,95,126]:B).contains c
def plainB (c:UInt8):Bool:=unres c || ([33,36,38,39,40,41,42,43,44,59,61,58,64]:B).contains c
def hexN (c:UInt8):Option Nat:=if 48≤c∧c≤57 then some (c.toNat-48) else if 97≤c∧c≤102 then some (c.toNat-87) else if 65≤c∧c≤70 then some (c.toNat-55) else none
def greatD (d:Nat):UInt8:=if d<10 then UInt8.ofNat (48+d) else UInt8.ofNat (55+d)
def codeOf (c a b:UInt8):Option UInt8:=if c=37 then (match hexN a,hexN b with
 |some x,some y=>some (UInt8.ofNat (x*16+y))
 |_,_=>none) else none
def codeB (v:UInt8):B:=[37,greatD (v.toNat / 16),greatD (v.toNat % 16)]
def made (o:B) (soft:Bool):B→Bool
 | []=>true
 | [c]=>plainB c || o.contains c
 | [c,d]=>(plainB c || o.contains c) && made o soft [d]
 |c::a::b::r=>if plainB c || o.contains c then made o soft (a::b::r) else match codeOf c a b with
  |none=>false
  |some v=>if soft && (decide (v<32) || v== 127) then false else made o soft r
def isPath (s:B):Bool:=decide (s.head? =some 47) && made [47] true s
def meantB:B→B
 | []=>[]
 | [c]=>[c]
 | [c,d]=>[c,d]
 |c::a::b::r=>match codeOf c a b with
  |none=>c::meantB (a::b::r)
  |some v=>(if unres v then [v] else codeB v)++meantB r
def cutAt (x:UInt8):B→List B
 | []=>[[]]
 |b::l=>if b=x then []::cutAt x l else match cutAt x l with
  | []=>[[b]]
  |p::r=>(b::p)::r
def segs (s:B):List B:=(cutAt 47 s).tail
def joinS (l:List B):B:=l.flatMap fun s=>47::s
def dotsL:List B→List B→Option (List B)
 | [],out=>some out
 |s::r,out=>if s= [46] then (if r= [] then some (out++ [[]]) else dotsL r out)
  else if s= [46,46] then (if out= [] then none else if r= [] then some (out.dropLast++ [[]]) else dotsL r out.dropLast)
  else dotsL r (out++ [s])
def normalB (p:B):Option B:=if isPath p then (dotsL (segs (meantB p)) []).map joinS else none
theorem hexN_lt {c:UInt8}{x:Nat} (h:hexN c=some x):x<16:=by
 unfold hexN at h;have hc:c.toNat<256:=c.toNat_lt;split at h
 · rename_i q
   have h1:c.toNat≤57:=by simpa using UInt8.le_iff_toNat_le.1 q.2
   simp only [Option.some.injEq] at h;omega
 split at h
 · rename_i q
   have h1:c.toNat≤102:=by simpa using UInt8.le_iff_toNat_le.1 q.2
   simp only [Option.some.injEq] at h;omega
 split at h
 · rename_i q
   have h1:c.toNat≤70:=by simpa using UInt8.le_iff_toNat_le.1 q.2
   simp only [Option.some.injEq] at h;omega
 · cases h
theorem code_none {c a b:UInt8} (h:c≠37):codeOf c a b=none:=by unfold codeOf;rw [if_neg h]
theorem made_cons {c:UInt8} (h:(plainB c || [47].contains c)=true):∀ l:B,made [47] true (c::l)=made [47] true l
 | []=>by simp only [made];exact h
 | [d]=>by simp only [made];rw [h];rfl
 |a::b::r=>by simp only [made];rw [if_pos h]
theorem meant_cons {c:UInt8} (h:c≠37):∀ l:B,meantB (c::l)=c::meantB l
 | []=>rfl
 | [d]=>rfl
 |a::b::r=>by simp only [meantB,code_none h]
theorem cut_ne (x:UInt8) (l:B):cutAt x l≠ []:=by
 cases l with
 |nil=>simp [cutAt]
 |cons b l=>unfold cutAt;split <;> (try split) <;> simp
theorem cut_none {x:UInt8}:∀ l:B,(∀ y∈l,y≠x)→cutAt x l= [l]
 | [],_=>rfl
 |b::l,h=>by
  rw [cutAt,if_neg (h b (by simp)),cut_none l (fun y hy=>h y (by simp [hy]))]
theorem cut_at {x:UInt8}:∀ (p l:B),(∀ y∈p,y≠x)→cutAt x (p++x::l)=p::cutAt x l
 | [],l,_=>by rw [List.nil_append,cutAt,if_pos rfl]
 |b::p,l,h=>by
  rw [List.cons_append,cutAt,if_neg (h b (by simp)),cut_at p l (fun y hy=>h y (by simp [hy]))]
def Whole (l:List B):Prop:=∀ s∈l,∀ y∈s,y≠(47:UInt8)
theorem join_app (a b:List B):joinS (a++b)=joinS a++joinS b:=by simp [joinS]
def portOk:Option (B×B)→Bool
 |some r=>decide (r.2≠ [])
 |none=>false
def addrS (s:B):Bool:=decide (s.length≤128) && portOk (hostP okP s)
def askT:AskC:=⟨addrS,fun s=>(normalB s).isSome,fun s=>(patH s).isSome,checkP,Lib.validD,fun i=>Lib.itoa (i:Int)⟩
theorem letter_vis:∀ n:Nat,n<256→(letterB (UInt8.ofNat n)=true∨([45,46,95,126,33,36,38,39,40,41,42,43,44,59,61,58,64,47,37]:B).contains (UInt8.ofNat n)=true)→33≤n∧n≤126:=by decide+kernel
theorem vis_byte {c:UInt8} (h:letterB c=true∨([45,46,95,126,33,36,38,39,40,41,42,43,44,59,61,58,64,47,37]:B).contains c=true):visB (c.toNat:Int)=true:=by
 have:=letter_vis c.toNat c.toNat_lt (by rwa [UInt8.ofNat_toNat]);unfold visB;simp only [decide_eq_true_eq];omega
theorem plain_vis {c:UInt8} (h:plainB c=true∨([47]:B).contains c=true):visB (c.toNat:Int)=true:=by
 apply vis_byte;rcases h with h|h
 · unfold plainB unres at h;rw [Bool.or_eq_true,Bool.or_eq_true] at h;rcases h with (h|h)|h
   · exact .inl h
   · right;rw [List.contains_iff_mem] at h ⊢;exact(by decide:∀ x∈([45,46,95,126]:B),x∈([45,46,95,126,33,36,38,39,40,41,42,43,44,59,61,58,64,47,37]:B)) c h
   · right;rw [List.contains_iff_mem] at h ⊢;exact(by decide:∀ x∈([33,36,38,39,40,41,42,43,44,59,61,58,64]:B),x∈([45,46,95,126,33,36,38,39,40,41,42,43,44,59,61,58,64,47,37]:B)) c h
 · right;rw [List.contains_iff_mem] at h ⊢;exact(by decide:∀ x∈([47]:B),x∈([45,46,95,126,33,36,38,39,40,41,42,43,44,59,61,58,64,47,37]:B)) c h
theorem hex_vis:∀ n:Nat,n<256→(hexN (UInt8.ofNat n)).isSome=true→33≤n∧n≤126:=by decide+kernel
theorem hexN_vis {c:UInt8} (h:(hexN c).isSome=true):visB (c.toNat:Int)=true:=by
 have:=hex_vis c.toNat c.toNat_lt (by rwa [UInt8.ofNat_toNat]);unfold visB;simp only [decide_eq_true_eq];omega
theorem code_vis {c a b v:UInt8} (h:codeOf c a b=some v):visB (c.toNat:Int)=true∧visB (a.toNat:Int)=true∧visB (b.toNat:Int)=true:=by
 unfold codeOf at h;split at h
 · rename_i hc
   subst hc;split at h
   · rename_i h1 h2
     exact⟨rfl,hexN_vis (by rw [h1];rfl),hexN_vis (by rw [h2];rfl)⟩
   · cases h
 · cases h
theorem made_vis (soft:Bool):∀ (n:Nat) (s:B),s.length≤n→made [47] soft s=true→∀ c∈s,visB (c.toNat:Int)=true
 |_,[],_,_,c,hc=>by simp at hc
 |_,[x],_,h,c,hc=>by
  simp only [List.mem_cons,List.not_mem_nil,or_false] at hc;subst hc;unfold made at h;rw [Bool.or_eq_true] at h;exact plain_vis h
 |0,x::y::r,hn,_,_,_=>by simp at hn
 |n+1,[x,y],hn,h,c,hc=>by
  unfold made at h;rw [Bool.and_eq_true,Bool.or_eq_true] at h;rcases List.mem_cons.1 hc with rfl|hc
  · exact plain_vis h.1
  · exact made_vis soft n [y] (by simp at hn ⊢;omega) h.2 c hc
 |n+1,x::y::z::r,hn,h,c,hc=>by
  unfold made at h;split at h
  · rename_i hx
    rw [Bool.or_eq_true] at hx;rcases List.mem_cons.1 hc with rfl|hc
    · exact plain_vis hx
    · exact made_vis soft n (y::z::r) (by simp at hn ⊢;omega) h c hc
  · split at h
    · cases h
    · rename_i v hv
      obtain⟨a1,a2,a3⟩:=code_vis hv;split at h
      · cases h
      · rcases List.mem_cons.1 hc with rfl|hc
        · exact a1
        · rcases List.mem_cons.1 hc with rfl|hc
          · exact a2
          · rcases List.mem_cons.1 hc with rfl|hc
            · exact a3
            · exact made_vis soft n r (by simp at hn ⊢;omega) h c hc
theorem norm_path {s:B} (h:(normalB s).isSome=true):s.head? =some 47∧∀ c∈s,visB (c.toNat:Int)=true:=by
 have hp:isPath s=true:=by
  unfold normalB at h;split at h
  · rename_i hp
    exact hp
  · cases h
 unfold isPath at hp;rw [Bool.and_eq_true,decide_eq_true_eq] at hp;exact⟨hp.1,made_vis true s.length s (Nat.le_refl _) hp.2⟩
theorem probe_two (s:B):probeOK askT s=(decide (s.length≤256) && (normalB s).isSome):=by
 unfold probeOK;show ((normalB s).isSome && decide (s.length≤256) && decide (s.head? =some 47) && s.all (fun c=>visB (c.toNat:Int)))=_;cases hn:(normalB s).isSome with
 |false=>simp
 |true=>
  obtain⟨h1,h2⟩:=norm_path hn;rw [decide_eq_true h1,List.all_eq_true.2 h2,Bool.true_and,Bool.and_true,Bool.and_true]
def madeP (p q:UInt8→Bool):B→Bool
 | []=>true
 | [c]=>decide (c≠37) && p c
 | [c,d]=>decide (c≠37) && p c && (decide (d≠37) && p d)
 |c::a::b::r=>if c=37 then (match codeOf c a b with
  |none=>false
  |some v=>q v && madeP p q r) else p c && madeP p q (a::b::r)
def softC (c:UInt8):Bool:=decide (32≤c) && decide (c≠127)
def inPathC (c:UInt8):Bool:=c== 47 || plainB c
theorem inPath_eq (c:UInt8):inPathC c=(plainB c || ([47]:B).contains c):=by
 unfold inPathC;rw [Bool.or_comm];simp only [List.contains_cons,List.contains_nil,Bool.or_false]
theorem in37 (o:B) (h:o.contains 37=false):(plainB 37 || o.contains 37)=false:=by rw [h];decide
theorem made_is {p q:UInt8→Bool}{o:B}{soft:Bool} (hp:∀ c,p c=(plainB c || o.contains c)) (ho:o.contains 37=false) (hq:∀ v,q v= !(soft && (decide (v<32) || v== 127))):∀ s:B,madeP p q s=made o soft s
 | []=>rfl
 | [c]=>by
  simp only [madeP,made];rw [hp];by_cases hc:c=37
  · rw [hc,in37 o ho];simp
  · simp [hc]
 | [c,d]=>by
  simp only [madeP,made];rw [hp,hp];by_cases hc:c=37
  · rw [hc,in37 o ho];simp
  · by_cases hd:d=37
    · rw [hd,in37 o ho];simp
    · simp [hc,hd]
 |c::a::b::r=>by
  rw [madeP,made];by_cases hc:c=37
  · rw [if_pos hc,if_neg (by rw [hc,in37 o ho];simp)];cases hv:codeOf c a b with
    |none=>rfl
    |some v=>
     simp only;rw [hq,made_is hp ho hq r];cases (soft && (decide (v<32) || v== 127)) <;> rfl
  · rw [if_neg hc,hp,made_is hp ho hq (a::b::r)];by_cases h:(plainB c || o.contains c)=true
    · rw [if_pos h,h];rfl
    · rw [if_neg h,code_none hc];rw [Bool.not_eq_true] at h;rw [h];rfl
theorem path_made (s:B):madeP inPathC softC s=made [47] true s:=by
 refine made_is inPath_eq (by decide) (fun v=>?_) s;unfold softC;rw [Bool.eq_iff_iff];simp only [Bool.and_eq_true,decide_eq_true_eq,Bool.not_eq_true',Bool.true_and,Bool.or_eq_false_iff,decide_eq_false_iff_not,beq_eq_false_iff_ne,ne_eq,UInt8.not_lt]
def toCome (rest:B) (more:Bool):List B:=if more then cutAt 47 rest else []
theorem come_cut (rest:B):toCome rest true=(cutF 47 rest).1::toCome (cutF 47 rest).2.1 (cutF 47 rest).2.2:=by
 show cutAt 47 rest=_;obtain⟨h1,h2,h3⟩:=cutF_spec 47 rest;cases h:(cutF 47 rest).2.2 with
 |true=>
  rw [h] at h2;simp only [if_true] at h2;conv=>lhs;rw [h2]
  rw [cut_at _ _ h1];rfl
 |false=>
  rw [h] at h2;simp only [Bool.false_eq_true,if_false,List.append_nil] at h2;conv=>lhs;rw [h2]
  rw [cut_none _ h1];rfl
theorem come_nil (rest:B) (more:Bool):toCome rest more= []↔more=false:=by
 cases more with
 |true=>simp [toCome,cut_ne]
 |false=>simp [toCome]
def hexI_t (c:UInt8):Int:=match hexN c with
 |some x=>(x:Int)
 |none=> -1
def codeI (l:B):Int:=match l with
 |c::a::b::_=>(match codeOf c a b with
  |some v=>(v.toNat:Int)
  |none=> -1)
 |_=> -1
theorem codeI_short {l:B} (h:l.length<3):codeI l= -1:=by
 match l,h with
 | [],_=>rfl
 | [_],_=>rfl
 | [_,_],_=>rfl
 |_::_::_::r,h=>exact absurd h (by simp)
theorem drop3 {s:B}{i:Nat} (h:i+2<s.length):s.drop i=s[i]::s[i+1]::s[i+2]::s.drop (i+3):=by
 rw [List.drop_eq_getElem_cons (by omega),List.drop_eq_getElem_cons (by omega),List.drop_eq_getElem_cons (by omega)]
theorem codeI_at {c a b:UInt8}{r:B}:codeI (c::a::b::r)=if c=37∧0≤hexI_t a∧0≤hexI_t b then hexI_t a*16+hexI_t b else -1:=by
 unfold codeI codeOf;simp only;by_cases h:c=37
 · rw [if_pos h];unfold hexI_t;cases ha:hexN a with
   |none=>simp
   |some x=>
    cases hb:hexN b with
    |none=>simp
    |some y=>
     have h1:=hexN_lt ha;have h2:=hexN_lt hb;simp only;rw [if_pos ⟨h,by omega,by omega⟩,UInt8.toNat_ofNat'];omega
 · rw [if_neg h,if_neg (fun q=>h q.1)]
theorem codeI_bd (l:B): -1≤codeI l∧codeI l<256:=by
 unfold codeI;split
 · split
   · rename_i v _
     have:=v.toNat_lt;omega
   · omega
 · omega
theorem codeI_some {c a b v:UInt8}{r:B} (h:codeOf c a b=some v):codeI (c::a::b::r)=(v.toNat:Int):=by simp only [codeI,h]
theorem codeI_none {c a b:UInt8}{r:B} (h:codeOf c a b=none):codeI (c::a::b::r)= -1:=by simp only [codeI,h]
end Go.Proofs.YtlmefgjhbohjlaaGreatDoor
