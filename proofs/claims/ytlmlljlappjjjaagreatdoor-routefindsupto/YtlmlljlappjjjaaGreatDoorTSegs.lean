/- The segments of a pattern, by the program. -/
import Derived.Test.YtlmlljlappjjjaaGreatDoorTFits
namespace Go.Proofs.YtlmlljlappjjjaaGreatDoor
open Go.RowKit
def checkP (p:B):Bool:=checkT visU tokT p
def SegAns (p:B) (w:World) (e:Ending) (w':World):Prop:=Below w.heap.size w w'∧((checkP p=true∧∃ q n c,e= .returned (.tuple #[.slice q n c,.nilIface])∧OwnG w' w.heap.size (.slice q n c) (cutT p.tail)∧(cutT p.tail).length=n)∨(checkP p=false∧e= .returned (.tuple #[.slice none 0 0,.iface 74 (.int .i64 3)])))
theorem segAns_no {p:B}{w w':World}{e:Ending} (h:checkP p=false) (he:e= .returned (.tuple #[.slice none 0 0,.iface 74 (.int .i64 3)])) (hb:Below w.heap.size w w'):SegAns p w e w':=⟨hb,.inr ⟨h,he⟩⟩
theorem check_beg {p:B} (h:begB 47 p=false):checkP p=false:=by
 unfold checkP checkT splitT;cases p with
 |nil=>rfl
 |cons c t=>
  have:¬c=47:=by simpa [begB] using h
  simp [this]
theorem check_cons (t:B):checkP (47::t)=(decide ((47::t).length≤256) && decide ((cutT t).length≤64) && okSegs visU tokT [] (cutT t)):=rfl
theorem beg_cons {p:B} (h:begB 47 p=true):∃ t,p=47::t:=by
 cases p with
 |nil=>cases h
 |cons c t=>exact⟨t,by rw [show c=47 by simpa [begB] using h]⟩
theorem ok_step0 {names l:List B}{x:B} (h:kindT x=0):okSegs visU tokT names (x::l)=(okS x && okSegs visU tokT names l):=by
 rw [okSegs,if_pos h];unfold okS;rw [if_pos h]
theorem ok_step1 {names l:List B}{x:B} (h:¬kindT x=0):okSegs visU tokT names (x::l)=(okS x && (decide (kindT x≠2) || decide (l= [])) && !names.contains x.tail && okSegs visU tokT (names++ [x.tail]) l):=by
 rw [okSegs,if_neg h];unfold okS;rw [if_neg h]
theorem row_len {w:World}{b n sz L c:Nat}{T:TypeId}{p:Option Addr}{xs:List Value} (h:w.ownsRow b T sz (.slice p L c) n xs):L=n:=by
 rcases h.2 with ⟨h1,h2⟩|⟨g,cap,cur,h1,_⟩
 · injection h1 with _ h3;omega
 · injection h1
section
variable {w1 wr wa wt : World} {K : Int} {T : ByteArray} {v5 v6 : Value} {acc names : List B} {o9 o7 : Obj}
theorem tokB_below (hb:Below w1.heap.size w1 wr) (ha:Below wr.heap.size wr wa) (h6:OwnR_r 9 1 (fun t:B=>[.string (str t)]) wr w1.heap.size v6 names) (hg:((wa.alloc o9).alloc o7).grownBy wt v6.ownBlock):Below w1.heap.size w1 wt:=by
 have hs:=hb.size;have hs2:=ha.size;have h1:=hb.trans (ha.mono hs);have h2:=(below_new wa o9).mono (Nat.le_trans hs hs2);have h3:=(below_new (wa.alloc o9) o7).mono (show w1.heap.size≤(wa.alloc o9).heap.size from by simp;omega);have h4:=(((h6.keep ha).alloc o9).alloc o7).below (by simp;omega) hg;exact((h1.trans h2).trans h3).trans h4
theorem tok_aside (h5:OwnG wr w1.heap.size v5 acc) (h6:OwnR_r 9 1 (fun t:B=>[.string (str t)]) wr w1.heap.size v6 names) (ha:Below wr.heap.size wr wa) (hg:((wa.alloc o9).alloc o7).grownBy wt v6.ownBlock):OwnG wt w1.heap.size v5 acc:=
 (((h5.keep ha).alloc o9).alloc o7).aside (((h6.keep ha).alloc o9).alloc o7) (by decide) hg
theorem tok_cells (h6:OwnR_r 9 1 (fun t:B=>[.string (str t)]) wr w1.heap.size v6 names) (ha:Below wr.heap.size wr wa) (hg:((wa.alloc (.cells #[.int .i64 K,.string T] 174 (0,0))).alloc o7).grownBy wt v6.ownBlock):wt.cell? ⟨wa.heap.size,0,none⟩=some (.int .i64 K)∧wt.cell? ⟨wa.heap.size,1,none⟩=some (.string T):=by
 have hs:=ha.size;have hk:wt.heap[wa.heap.size]?=(wa.alloc (.cells #[.int .i64 K,.string T] 174 (0,0))).heap[wa.heap.size]?:=by
  refine(hg.block wa.heap.size (by simp;omega) (fun e=>?_)).trans ((below_new _ _).block _ (by simp));have:=h6.lt e.symm;omega
 have h0:=cells_new wa [.int .i64 K,.string T] 174 0 _ rfl;have h1:=cells_new wa [.int .i64 K,.string T] 174 1 _ rfl;rw [add_off] at h0 h1;exact⟨cell_same h0 hk,cell_same h1 hk⟩
theorem lst_below (hb:Below w1.heap.size w1 wr) (h5:OwnG wr w1.heap.size v5 acc) (hg:(wr.alloc o7).grownBy wt v5.ownBlock):Below w1.heap.size w1 wt:=by
 have hs:=hb.size;exact(hb.trans ((below_new wr o7).mono hs)).trans ((h5.alloc o7).below (by simp;omega) hg)
theorem lst_aside (h5:OwnG wr w1.heap.size v5 acc) (h6:OwnR_r 9 1 (fun t:B=>[.string (str t)]) wr w1.heap.size v6 names) (hg:(wr.alloc o7).grownBy wt v5.ownBlock):OwnR_r 9 1 (fun t:B=>[.string (str t)]) wt w1.heap.size v6 names:=
 (h6.alloc o7).aside (h5.alloc o7) (by decide) hg
end
set_option maxRecDepth 20000 in
set_option maxHeartbeats 16000000 in
theorem segments_any (p:B) (hp:p.length≤140737488355328) (w:World) (hmx:MxAt w):Calls Tryz.prog 97 #[.string (str p)] w fun e w'=>SegAns p w e w':=by
 obtain⟨i0,hi0,hz0,hz1,hz2⟩:=info_parts infoG;obtain⟨j0,hj0,hy0,hy1,hy2⟩:=info_parts infoS;have HBg:=hid (fun W:World=>begins_any p hp W);cases hbg:begB 47 p with
 |false=>
  have HC:=hid (check_beg hbg);rw [hbg] at HBg;obtain⟨S,hS⟩:∃ S,str p=S:=⟨_,rfl⟩;rw [hS] at HBg ⊢;clear hS hbg;go_enter Tryz.func97,Tryz.ntmps97;go_wp2_with (go_at_call 109;(with_reducible refine(HBg.out _).mono ?_);rintro e w1 ⟨rfl,hw1⟩;subst w1);go_ret2;exact segAns_no HC.out rfl (Below.refl _ _)
 |true=>
  rw [hbg] at HBg;obtain⟨t,rfl⟩:=beg_cons hbg;have HCk:=hid (check_cons t);obtain⟨N,hN⟩:∃ N,(47::t:B).length=N:=⟨_,rfl⟩;have hN1:t.length+1=N:=by rw [←hN];rfl
  rw [hN] at HCk hp;obtain⟨S,hS⟩:∃ S,str (47::t)=S:=⟨_,rfl⟩;have hSn:S.size=N:=by rw [←hS,str_size,hN]
  have HE:=hid (show S.extract 1 N=str t from by rw [←hS,ext_drop _ 1 N hN];rfl);rw [hS] at HBg ⊢;by_cases h256:N≤256
  · have HSp:=hid (psplitT t (by omega) w hmx);have HXl:=hid (show ∀ x∈cutT t,x.length≤140737488355328 from fun x h=>Nat.le_trans (cutT_mem_len h) (by omega));have hlen:=cutT_len t;have HTl:=hid (show cutT (47::t:B).tail=cutT t from rfl);obtain⟨X,hX⟩:∃ X,cutT t=X:=⟨_,rfl⟩;rw [hX] at HSp HXl hlen HCk HTl;obtain⟨n,hn⟩:∃ n,X.length=n:=⟨_,rfl⟩;have HN:=hid hn;rw [hn] at HSp hlen HCk;obtain⟨St,hSt⟩:∃ S,str t=S:=⟨_,rfl⟩;rw [hSt] at HSp HE;have he:=HE.out;have h256':¬(256:Int)<(N:Int):=by omega
    have hn2:n≤257:=by omega
    have hN0:1≤N:=by omega
    rw [decide_eq_true h256,Bool.true_and] at HCk;clear hS hX hn hSt hbg hN hN1 HE hlen hmx;by_cases h64:n≤64
    · rw [decide_eq_true h64,Bool.true_and] at HCk;have h64':¬(64:Int)<(n:Int):=by omega
      go_enter Tryz.func97,Tryz.ntmps97;go_wp2_with (first|(go_at_call 109;(with_reducible refine(HBg.out _).mono ?_);rintro e w1 ⟨rfl,hw1⟩;subst w1)|(go_at_call 133;(with_reducible refine HSp.out.mono ?_);rintro e w1 ⟨p1,c1,rfl,ho,hb⟩;have HT1:=hid ho.tx;have HB1:=hid hb;clear ho hb HSp HBg));go_loopg [5,6,29] (n+1) (fun gk s5 s6 s29 wr=>∃ (i m6 c5 c6:Nat) (p5 p6:Option Addr) (names:List B),i≤n∧gk=n-i+1∧s29= .int .i64 (i:Int)∧s5= .slice p5 i c5∧s6= .slice p6 m6 c6∧names.length=m6∧m6≤i∧OwnG wr w1.heap.size (.slice p5 i c5) (X.take i)∧OwnR_r 9 1 (fun t:B=>[.string (str t)]) wr w1.heap.size (.slice p6 m6 c6) names∧okSegs visU tokT [] X=okSegs visU tokT names (X.drop i)∧Below w1.heap.size w1 wr)
      case atStart=>exact⟨0,0,0,0,none,none,[],by omega,rfl,rfl,rfl,rfl,rfl,by omega,OwnR_r.nil _ _,OwnR_r.nil _ _,rfl,Below.refl _ _⟩
      case round=>
       obtain⟨i,m6,c5,c6,p5,p6,names,hi,rfl,rfl,rfl,rfl,hl6,hm6,hO5,hO6,hok,hb⟩:=hrel;have HOk:=hid (HCk.out.trans hok);have HB:=hid hb;have HO5:=hid hO5;have HO6:=hid hO6;have HL6:=hid hl6;clear hok hb hO5 hO6 hl6;by_cases hin:i<n
       · obtain⟨x,hx⟩:∃ x,X[i]?=some x:=⟨_,List.getElem?_eq_getElem (by rw [HN.out];exact hin)⟩;have hle:=HXl.out x (List.mem_of_getElem? hx);have HD:=hid (drop_at hx);have HSg:=hid (fun W:World=>segof_any x hle W);have HDn:=hid (show decide (X.drop (i+1)= [])=decide (i+1=n) from by
          rw [Bool.eq_iff_iff,decide_eq_true_eq,decide_eq_true_eq,List.drop_eq_nil_iff,HN.out];omega)
         have HAcc:=hid (show X.take i++ [x]=X.take (i+1) from by rw [List.take_add_one,hx];rfl);have HL5:=hid (show (X.take i).length=i from by rw [List.length_take,HN.out];omega);obtain⟨acc,hacc⟩:∃ acc,X.take i=acc:=⟨_,rfl⟩;rw [hacc] at HL5 HO5 HAcc;obtain⟨g1,o1,rfl,q1⟩:=(HT1.out.next HB.out) i x hx;rw [HD.out] at HOk;have hk2:=kindT_le x;obtain⟨T,hT⟩:∃ T,str (segX x)=T:=⟨_,rfl⟩;obtain⟨K,hK⟩:∃ K:Int,(kindT x:Int)=K:=⟨_,rfl⟩;have HFx:=hid (show segF x= [.int .i64 K,.string T] from by unfold segF;rw [hK,hT]);have HXs:=hid (show [Value.string (str (segX x))]= [.string T] from by rw [hT]);obtain⟨Sx,hSx⟩:∃ S,str x=S:=⟨_,rfl⟩;rw [hT,hK,hSx] at HSg;rw [hSx] at q1;cases hos:okS x with
         |false=>
          have HC:=hid (show checkP (47::t)=false from by
           rw [HOk.out];by_cases h0:kindT x=0
           · rw [ok_step0 h0,hos];rfl
           · rw [ok_step1 h0,hos];rfl)
          rw [hos] at HSg;clear hx hacc hT hK hSx hos hle;go_wp2_with (go_at_call 134;(with_reducible refine(HSg.out _).mono ?_);rintro e wa ⟨rfl,hba⟩;have HBa:=hid hba;clear hba);go_ret2;exact segAns_no HC.out rfl (below_out HB1.out ((HB.out.trans (HBa.out.mono HB.out.size)).trans ((below_new wa _).mono (Nat.le_trans HB.out.size HBa.out.size))))
         |true=>
          rw [hos] at HSg;by_cases h0:kindT x=0
          · obtain rfl:(0:Int)=K:=by rw [←hK,h0];rfl
            have HR:=hid (show okSegs visU tokT names (x::X.drop (i+1))=okSegs visU tokT names (X.drop (i+1)) from by rw [ok_step0 h0,hos,Bool.true_and]);rw [HR.out] at HOk;clear hx hacc hT hK hSx hos hle hk2 h0;go_wp2_with (first|(go_at_call 134;(with_reducible refine(HSg.out _).mono ?_);rintro e wa ⟨rfl,hba⟩;have HBa:=hid hba;clear hba)|(at_builtin;refine wpList_append_own_at _ rfl (.tmp 67) (.tmp 69) 158 rfl w1.heap.size 174 i0 _ 2 24 Tryz.underlying158 hi0 hz0 hz1 hz2 rfl (by decide) (.slice p5 i c5) i (acc.flatMap segF) (by go_simp) (by have h8:=((HO5.out.keep HBa.out).alloc (.cells #[.int .i64 0,.string T] 174 (0,0))).alloc (.cells #[.int .i64 0,.string T] 174 (0,0));unfold OwnR_r at h8;rw [HL5.out] at h8;exact h8) ⟨(wa.alloc (.cells #[.int .i64 0,.string T] 174 (0,0))).heap.size,0,none⟩ 1 1 [.int .i64 0,.string T] (by go_simp) rfl (cells_new (wa.alloc (.cells #[.int .i64 0,.string T] 174 (0,0))) _ _) (by simp [Value.oneCell']) (by unfold maxLen;omega) (by omega) (by have h1:=HB.out.size;have h2:=HBa.out.size;simp;first|omega|(have h3:=HBt.out.size;omega)) ?_;intro v5 wl hown hgr _ _;obtain⟨p8,L8,c8,rfl⟩:=own_slice3 hown;have HG8:=hid (show OwnG wl w1.heap.size (.slice p8 L8 c8) (acc++ [x]) from OwnR_r.put HL5.out (by rw [HFx.out];exact hown));obtain⟨hL8,_⟩:L8=i+1∧True:=⟨row_len hown,trivial⟩;subst hL8;have HO6l:=hid (lst_aside ((HO5.out.keep HBa.out).alloc (.cells #[.int .i64 0,.string T] 174 (0,0))) ((HO6.out.keep HBa.out).alloc (.cells #[.int .i64 0,.string T] 174 (0,0))) hgr);have HBl:=hid (lst_below ((HB.out.trans (HBa.out.mono HB.out.size)).trans ((below_new wa _).mono (Nat.le_trans HB.out.size HBa.out.size))) ((HO5.out.keep HBa.out).alloc (.cells #[.int .i64 0,.string T] 174 (0,0))) hgr);clear hown hgr));go_roundg (n-(i+1)+1)
            case measure=>omega
            case rel=>exact⟨i+1,m6,c8,c6,p8,p6,names,by omega,rfl,by push_cast;go_num,rfl,rfl,HL6.out,by omega,by rw [←HAcc.out];exact HG8.out,HO6l.out,HCk.out.symm.trans HOk.out,HBl.out⟩
          · have HSe:=hid (show segX x=x.tail from by unfold segX;rw [if_neg h0]);have hK0:¬K=0:=by rw [←hK];omega
            have hK1:(K== 0)=false:=by simpa using hK0
            have hK9:(K != 0)=true:=by simpa using hK0
            have HCt:=hid (fun (W:World) (h:TxAt W p6 names)=>contains_any names p6 m6 c6 HL6.out (by omega) (segX x) W h);rw [hT] at HCt;by_cases hbad:kindT x=2∧¬i+1=n
            · obtain rfl:(2:Int)=K:=by rw [←hK,hbad.1];rfl
              have hlt:i<n-1:=by omega
              have HC:=hid (show checkP (47::t)=false from by
               rw [HOk.out,ok_step1 h0,HDn.out,hbad.1,decide_eq_false hbad.2];simp)
              clear hx hacc hT hK hSx hos hle hk2 h0 hbad;go_wp2_with (go_at_call 134;(with_reducible refine(HSg.out _).mono ?_);rintro e wa ⟨rfl,hba⟩;have HBa:=hid hba;clear hba);go_ret2;exact segAns_no HC.out rfl (below_out HB1.out ((HB.out.trans (HBa.out.mono HB.out.size)).trans ((below_new wa _).mono (Nat.le_trans HB.out.size HBa.out.size))))
            · have HG:=hid (show (decide (kindT x≠2) || decide (X.drop (i+1)= []))=true from by
               rw [HDn.out,Bool.or_eq_true,decide_eq_true_eq,decide_eq_true_eq];omega)
              have HR:=hid (show okSegs visU tokT names (x::X.drop (i+1))=(!names.contains (segX x) && okSegs visU tokT (names++ [segX x]) (X.drop (i+1))) from by rw [ok_step1 h0,hos,HG.out,HSe.out];simp);rw [HR.out] at HOk;have hnot:¬(K=2∧i<n-1):=by rw [←hK];omega
              cases hct:names.contains (segX x) with
              |true=>
               rw [hct] at HCt HOk;have HC:=hid (show checkP (47::t)=false from HOk.out);clear hx hacc hT hK hSx hos hle hk2 h0 hbad hct;by_cases hK2:K=2
               · have hlt:¬i<n-1:=fun h=>hnot ⟨hK2,h⟩
                 subst hK2;go_wp2_with (first|(go_at_call 134;(with_reducible refine(HSg.out _).mono ?_);rintro e wa ⟨rfl,hba⟩;have HBa:=hid hba;clear hba)|(go_at_call 41;(with_reducible refine(HCt.out _ (((ownR_S_r HO6.out).keep HBa.out).alloc _).tx).mono ?_);rintro e w5 ⟨rfl,hw5⟩;subst w5));go_ret2;exact segAns_no HC.out rfl (below_out HB1.out ((HB.out.trans (HBa.out.mono HB.out.size)).trans ((below_new wa _).mono (Nat.le_trans HB.out.size HBa.out.size))))
               · have hK3:(K== 2)=false:=by simpa using hK2
                 go_wp2_with (first|(go_at_call 134;(with_reducible refine(HSg.out _).mono ?_);rintro e wa ⟨rfl,hba⟩;have HBa:=hid hba;clear hba)|(go_at_call 41;(with_reducible refine(HCt.out _ (((ownR_S_r HO6.out).keep HBa.out).alloc _).tx).mono ?_);rintro e w5 ⟨rfl,hw5⟩;subst w5));go_ret2;exact segAns_no HC.out rfl (below_out HB1.out ((HB.out.trans (HBa.out.mono HB.out.size)).trans ((below_new wa _).mono (Nat.le_trans HB.out.size HBa.out.size))))
              |false=>
               rw [hct] at HCt HOk;have HOk2:=hid (show checkP (47::t)=okSegs visU tokT (names++ [segX x]) (X.drop (i+1)) from by rw [HOk.out];rfl);clear hx hacc hT hK hSx hos hle hk2 h0 hbad hct HOk;by_cases hK2:K=2
               · have hlt:¬i<n-1:=fun h=>hnot ⟨hK2,h⟩
                 subst hK2;go_wp2_with (first|(go_at_call 134;(with_reducible refine(HSg.out _).mono ?_);rintro e wa ⟨rfl,hba⟩;have HBa:=hid hba;clear hba)|(go_at_call 41;(with_reducible refine(HCt.out _ (((ownR_S_r HO6.out).keep HBa.out).alloc _).tx).mono ?_);rintro e w5 ⟨rfl,hw5⟩;subst w5)|(at_builtin;refine wpList_append_own_at _ rfl (.tmp 62) (.tmp 65) 36 rfl w1.heap.size 9 j0 _ 1 16 Tryz.underlying36 hj0 hy0 hy1 hy2 rfl (by decide) (.slice p6 m6 c6) m6 (names.flatMap fun t:B=>[.string (str t)]) (by go_simp) (by have h8:=((HO6.out.keep HBa.out).alloc (.cells #[.int .i64 2,.string T] 174 (0,0))).alloc (.cells #[.string T] 9 (0,0));unfold OwnR_r at h8;rw [HL6.out] at h8;exact h8) ⟨(wa.alloc (.cells #[.int .i64 2,.string T] 174 (0,0))).heap.size,0,none⟩ 1 1 [.string T] (by go_simp) rfl (cells_new (wa.alloc (.cells #[.int .i64 2,.string T] 174 (0,0))) _ _) (by simp [Value.oneCell']) (by unfold maxLen;omega) (by omega) (by have h1:=HB.out.size;have h2:=HBa.out.size;simp;omega) ?_;intro v6 wt hown hgr _ _;obtain⟨p7,L7,c7,rfl⟩:=own_slice3 hown;have HT7:=hid (show OwnR_r 9 1 (fun t:B=>[.string (str t)]) wt w1.heap.size (.slice p7 L7 c7) (names++ [segX x]) from OwnR_r.put HL6.out (by rw [HXs.out];exact hown));have HBt:=hid (show Below w1.heap.size w1 wt from tokB_below HB.out HBa.out HO6.out hgr);have HO7:=hid (tok_aside HO5.out HO6.out HBa.out hgr);have qc:=tok_cells HO6.out HBa.out hgr;obtain⟨qc0,qc1⟩:=qc;obtain⟨hL7,_⟩:L7=m6+1∧True:=⟨row_len hown,trivial⟩;subst hL7;clear hown hgr)|(at_builtin;refine wpList_append_own_at _ rfl (.tmp 67) (.tmp 69) 158 rfl w1.heap.size 174 i0 _ 2 24 Tryz.underlying158 hi0 hz0 hz1 hz2 rfl (by decide) (.slice p5 i c5) i (acc.flatMap segF) (by go_simp) (by have h8:=HO7.out.alloc (.cells #[.int .i64 2,.string T] 174 (0,0));unfold OwnR_r at h8;rw [HL5.out] at h8;exact h8) ⟨wt.heap.size,0,none⟩ 1 1 [.int .i64 2,.string T] (by go_simp) rfl (cells_new wt _ _) (by simp [Value.oneCell']) (by unfold maxLen;omega) (by omega) (by have h1:=HB.out.size;have h2:=HBa.out.size;simp;first|omega|(have h3:=HBt.out.size;omega)) ?_;intro v5 wl hown hgr _ _;obtain⟨p8,L8,c8,rfl⟩:=own_slice3 hown;have HG8:=hid (show OwnG wl w1.heap.size (.slice p8 L8 c8) (acc++ [x]) from OwnR_r.put HL5.out (by rw [HFx.out];exact hown));obtain⟨hL8,_⟩:L8=i+1∧True:=⟨row_len hown,trivial⟩;subst hL8;have HT8:=hid (lst_aside HO7.out HT7.out hgr);have HBl:=hid (lst_below HBt.out HO7.out hgr);clear hown hgr));go_roundg (n-(i+1)+1)
                 case measure=>omega
                 case rel=>exact⟨i+1,m6+1,c8,c7,p8,p7,names++ [segX x],by omega,rfl,by push_cast;go_num,rfl,rfl,by rw [List.length_append,HL6.out];rfl,by omega,by rw [←HAcc.out];exact HG8.out,HT8.out,HCk.out.symm.trans HOk2.out,HBl.out⟩
               · have hK3:(K== 2)=false:=by simpa using hK2
                 go_wp2_with (first|(go_at_call 134;(with_reducible refine(HSg.out _).mono ?_);rintro e wa ⟨rfl,hba⟩;have HBa:=hid hba;clear hba)|(go_at_call 41;(with_reducible refine(HCt.out _ (((ownR_S_r HO6.out).keep HBa.out).alloc _).tx).mono ?_);rintro e w5 ⟨rfl,hw5⟩;subst w5)|(at_builtin;refine wpList_append_own_at _ rfl (.tmp 62) (.tmp 65) 36 rfl w1.heap.size 9 j0 _ 1 16 Tryz.underlying36 hj0 hy0 hy1 hy2 rfl (by decide) (.slice p6 m6 c6) m6 (names.flatMap fun t:B=>[.string (str t)]) (by go_simp) (by have h8:=((HO6.out.keep HBa.out).alloc (.cells #[.int .i64 K,.string T] 174 (0,0))).alloc (.cells #[.string T] 9 (0,0));unfold OwnR_r at h8;rw [HL6.out] at h8;exact h8) ⟨(wa.alloc (.cells #[.int .i64 K,.string T] 174 (0,0))).heap.size,0,none⟩ 1 1 [.string T] (by go_simp) rfl (cells_new (wa.alloc (.cells #[.int .i64 K,.string T] 174 (0,0))) _ _) (by simp [Value.oneCell']) (by unfold maxLen;omega) (by omega) (by have h1:=HB.out.size;have h2:=HBa.out.size;simp;omega) ?_;intro v6 wt hown hgr _ _;obtain⟨p7,L7,c7,rfl⟩:=own_slice3 hown;have HT7:=hid (show OwnR_r 9 1 (fun t:B=>[.string (str t)]) wt w1.heap.size (.slice p7 L7 c7) (names++ [segX x]) from OwnR_r.put HL6.out (by rw [HXs.out];exact hown));have HBt:=hid (show Below w1.heap.size w1 wt from tokB_below HB.out HBa.out HO6.out hgr);have HO7:=hid (tok_aside HO5.out HO6.out HBa.out hgr);have qc:=tok_cells HO6.out HBa.out hgr;obtain⟨qc0,qc1⟩:=qc;obtain⟨hL7,_⟩:L7=m6+1∧True:=⟨row_len hown,trivial⟩;subst hL7;clear hown hgr)|(at_builtin;refine wpList_append_own_at _ rfl (.tmp 67) (.tmp 69) 158 rfl w1.heap.size 174 i0 _ 2 24 Tryz.underlying158 hi0 hz0 hz1 hz2 rfl (by decide) (.slice p5 i c5) i (acc.flatMap segF) (by go_simp) (by have h8:=HO7.out.alloc (.cells #[.int .i64 K,.string T] 174 (0,0));unfold OwnR_r at h8;rw [HL5.out] at h8;exact h8) ⟨wt.heap.size,0,none⟩ 1 1 [.int .i64 K,.string T] (by go_simp) rfl (cells_new wt _ _) (by simp [Value.oneCell']) (by unfold maxLen;omega) (by omega) (by have h1:=HB.out.size;have h2:=HBa.out.size;simp;first|omega|(have h3:=HBt.out.size;omega)) ?_;intro v5 wl hown hgr _ _;obtain⟨p8,L8,c8,rfl⟩:=own_slice3 hown;have HG8:=hid (show OwnG wl w1.heap.size (.slice p8 L8 c8) (acc++ [x]) from OwnR_r.put HL5.out (by rw [HFx.out];exact hown));obtain⟨hL8,_⟩:L8=i+1∧True:=⟨row_len hown,trivial⟩;subst hL8;have HT8:=hid (lst_aside HO7.out HT7.out hgr);have HBl:=hid (lst_below HBt.out HO7.out hgr);clear hown hgr));go_roundg (n-(i+1)+1)
                 case measure=>omega
                 case rel=>exact⟨i+1,m6+1,c8,c7,p8,p7,names++ [segX x],by omega,rfl,by push_cast;go_num,rfl,rfl,by rw [List.length_append,HL6.out];rfl,by omega,by rw [←HAcc.out];exact HG8.out,HT8.out,HCk.out.symm.trans HOk2.out,HBl.out⟩
       · obtain rfl:n=i:=by omega
         have HFin:=hid (show checkP (47::t)=true from by rw [HOk.out,List.drop_of_length_le (by rw [HN.out];exact Nat.le_refl _)];rfl);have HTk:=hid (show X.take n=X from List.take_of_length_le (by rw [HN.out];exact Nat.le_refl _));rw [HTk.out] at HO5;go_wp2;go_ret2;exact⟨below_out HB1.out HB.out,.inl ⟨HFin.out,p5,n,c5,rfl,by rw [HTl.out];exact HO5.out.lower HB1.out.size,by rw [HTl.out];exact HN.out⟩⟩
    · have HC:=hid (show checkP (47::t)=false from by rw [HCk.out,decide_eq_false h64];rfl);have h64':(64:Int)<(n:Int):=by omega
      go_enter Tryz.func97,Tryz.ntmps97;go_wp2_with (first|(go_at_call 109;(with_reducible refine(HBg.out _).mono ?_);rintro e w1 ⟨rfl,hw1⟩;subst w1)|(go_at_call 133;(with_reducible refine HSp.out.mono ?_);rintro e w1 ⟨p1,c1,rfl,ho,hb⟩;have HB1:=hid hb;clear ho hb HSp HBg));go_ret2;exact segAns_no HC.out rfl HB1.out
  · have HC:=hid (show checkP (47::t)=false from by rw [HCk.out,decide_eq_false h256];rfl);have h256':(256:Int)<(N:Int):=by omega
    clear hS hbg hN hN1 HE hmx;go_enter Tryz.func97,Tryz.ntmps97;go_wp2_with (go_at_call 109;(with_reducible refine(HBg.out _).mono ?_);rintro e w1 ⟨rfl,hw1⟩;subst w1);go_ret2;exact segAns_no HC.out rfl (Below.refl _ _)
end Go.Proofs.YtlmlljlappjjjaaGreatDoor
