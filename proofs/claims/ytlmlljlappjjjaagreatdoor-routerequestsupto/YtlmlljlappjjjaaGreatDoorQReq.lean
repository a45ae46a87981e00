/- The law: the right route is found, or the error; the routes can be written over. -/
import Derived.Test.YtlmlljlappjjjaaGreatDoorQLawful
import Derived.Test.YtlmlljlappjjjaaGreatDoorQDFind
namespace Go.Proofs.YtlmlljlappjjjaaGreatDoor
set_option maxRecDepth 20000
set_option maxHeartbeats 32000000
open Go.RowKit
theorem chkR_le (r:RtC):chkR r≤9:=by
 unfold chkR checkN chkN methE;repeat' split
 all_goals omega
theorem newE_le (L:List RtC):newE L≤9:=by
 unfold newE;split
 · omega
 · split
   · exact chkR_le _
   · split <;> omega
theorem rnew_fine {l:List RtX}{v:Value} (h:newE (l.map RtX.r)=0):rnewV (l.map RtX.r) v= .tuple #[.agg #[v],.int .i64 0]:=by unfold rnewV;rw [h];rfl
theorem info9:(Tryz.prog.info? 9).map (fun i=>(i.zero,i.size,i.bytes))=some (some (.string ByteArray.empty),1,16):=by kernel_rfl
def strVL (s:ByteArray):Value:=.string s
theorem own_over {w w':World}{B n:Nat}{e:TypeId}{size:Nat}{v:Value}{xs:List Value} (h:w.ownsRow B e size v n xs) (hb:Below w.heap.size w w'):w'.ownsRow B e size v n xs:=by
 refine⟨h.1,?_⟩;rcases h.2 with h'|⟨g,cap,cur,e1,e2,e3,e4⟩
 · exact .inl h'
 · exact .inr ⟨g,cap,cur,e1,e2,(hb.block g (by
    rcases Nat.lt_or_ge g w.heap.size with h|h
    · exact h
    · rw [Array.getElem?_eq_none h] at e3;cases e3)).trans e3,e4⟩
theorem own_cellL {W:World}{B n:Nat}{v:Value}{L:List ByteArray} (h:W.ownsRow B 9 1 v n (L.map strVL)) (h0:0<n):∃ g cap,v= .slice (some ⟨g,0,none⟩) n cap∧∀ j p,L[j]?=some p→W.cell? ⟨g,j,none⟩=some (.string p):=by
 have hl:L.length=n:=by have:=h.1;simpa using this
 rcases h.2 with ⟨_,h'⟩|⟨g,cap,cur,rfl,_⟩
 · omega
 · refine⟨g,cap,rfl,fun j p hp=>?_⟩;have hj:j<L.length:=by
    rcases Nat.lt_or_ge j L.length with h'|h'
    · exact h'
    · rw [List.getElem?_eq_none h'] at hp;cases hp
   rw [h.cellAt j (by omega)];simp [hp,strVL]
def valsB (fs:List (B×B)) (nm:ByteArray):List ByteArray:=(fs.filter (fun f=>sameB (str f.1) nm)).map (fun f=>str f.2)
theorem vals_le (fs:List (B×B)) (nm:ByteArray):(valsB fs nm).length≤fs.length:=by unfold valsB;rw [List.length_map];exact List.length_filter_le _ _
theorem vals_take (fs:List (B×B)) (nm:ByteArray) (i:Nat):(valsB (fs.take i) nm).length≤i:=Nat.le_trans (vals_le _ _) (by rw [List.length_take];omega)
theorem take_snocF {fs:List (B×B)}{i:Nat}{f:B×B} (h:fs[i]?=some f):fs.take (i+1)=fs.take i++ [f]:=by rw [List.take_add_one,h];rfl
theorem vals_yes {fs:List (B×B)}{nm:ByteArray}{i:Nat}{f:B×B} (h:fs[i]?=some f) (hs:sameB (str f.1) nm=true):valsB (fs.take (i+1)) nm=valsB (fs.take i) nm++ [str f.2]:=by
 rw [take_snocF h];unfold valsB;simp [hs]
theorem vals_no {fs:List (B×B)}{nm:ByteArray}{i:Nat}{f:B×B} (h:fs[i]?=some f) (hs:sameB (str f.1) nm=false):valsB (fs.take (i+1)) nm=valsB (fs.take i) nm:=by
 rw [take_snocF h];unfold valsB;simp [hs]
theorem same_bel (a b:ByteArray) (w:World) (ha:a.size≤1048576) (hb:b.size≤1048576):Calls Tryz.prog 119 #[.string a,.string b] w fun e w'=>e= .returned (.bool (sameB a b))∧Below w.heap.size w w':=
 (same_any a b w (Nat.le_trans ha (by decide)) (Nat.le_trans hb (by decide))).mono (fun e w' ⟨h1,m,h2⟩=>⟨h1,by rw [h2];exact below_drew (Below.refl _ _) m⟩)
def RowB (W:World) (b:Nat) (v:Value) (L:List ByteArray):Prop:=W.ownsRow b 9 1 v L.length (L.map strVL)
theorem RowB.nil (W:World) (b:Nat):RowB W b (.slice none 0 0) []:=⟨rfl,.inl ⟨rfl,rfl⟩⟩
theorem box2 {V:World}{g:Nat}{a b:Value}{T:TypeId} (h:V.heap[g]?=some (.cells #[a,b] T (0,0))):V.cell? ⟨g,0,none⟩=some a∧V.cell? ⟨g,1,none⟩=some b:=by
 constructor <;> simp [World.cell?,h]
def szB (fs:List (B×B)):Prop:=∀ f∈fs,f.1.length≤1048576∧f.2.length≤1048576
theorem pvals (fs:List (B×B)) (p:Option Addr) (n c:Nat) (hn:fs.length=n) (nm:ByteArray) (w:World) (hF:FAt w p fs) (hsz:szB fs) (hnm:nm.size≤1048576) (hnn:n≤1048576):
  Calls Tryz.prog 79 #[.slice p n c,.string nm] w fun e w'=>∃ v,e= .returned v∧RowB w' w.heap.size v (valsB fs nm)∧Below w.heap.size w w':=by
 obtain⟨i0,hi,hz0,hz1,hz2⟩:=info_parts info9;have HF:=hid hF;have HN:=hid hn;have HZ:=hid hsz;clear hF hn hsz;go_enter Tryz.func79,Tryz.ntmps79;go_wp2;go_loopg [5,10] (n+1) (fun gk s5 s10 wr=>∃ (i:Nat) (q:Option Addr) (m d:Nat),s5= .slice q m d∧s10= .int .i64 (i:Int)∧i≤n∧gk=n-i+1∧m=(valsB (fs.take i) nm).length∧RowB wr w.heap.size (.slice q m d) (valsB (fs.take i) nm)∧Below w.heap.size w wr)
 case atStart=>exact⟨0,none,0,0,rfl,rfl,by omega,rfl,rfl,RowB.nil _ _,Below.refl _ _⟩
 case round=>
  obtain⟨i,q,m,d,rfl,rfl,hin,rfl,hm,ho,hb⟩:=hrel;have hmi:=vals_take fs nm i;rw [←hm] at hmi;have HB:=hid hb;have HO:=hid (show wr.ownsRow w.heap.size 9 1 (.slice q m d) m ((valsB (fs.take i) nm).map strVL) from by unfold RowB at ho;rw [←hm] at ho;exact ho);have HM:=hid hm;clear hb ho hm;by_cases hlt:i<n
  · obtain⟨f,hf⟩:∃ f,fs[i]?=some f:=⟨fs[i]'(by rw [HN.out];exact hlt),List.getElem?_eq_getElem (by rw [HN.out];exact hlt)⟩;obtain⟨g,o,hp,c0,c1⟩:=(HF.out.next HB.out) i f hf;subst hp;have hltI:(i:Int)<(n:Int):=by omega
    obtain⟨z1,z2⟩:=HZ.out f (List.mem_of_getElem? hf);have HSm:=hid (show ∀ W:World,_ from fun W=>same_bel (str f.1) nm W (by rw [str_size];omega) (by omega));have HCl:=hid (show ∀ W:World,_ from fun W=>clone_any (str f.2) W (by rw [str_size];omega));cases hS:sameB (str f.1) nm with
    |true=>
     have HY:=hid (vals_yes hf hS);rw [hS] at HSm;obtain⟨N,hN⟩:∃ N,str f.1=N:=⟨_,rfl⟩;obtain⟨V,hV⟩:∃ V,str f.2=V:=⟨_,rfl⟩;rw [hN] at c0 HSm;rw [hV] at c1 HCl HY;clear hf hS hN hV;go_wp2_with (first|(go_at_call 119;(with_reducible refine(HSm.out _).mono ?_);rintro e w2 ⟨rfl,hb⟩;have hbx:=below_new wr (.cells #[.string N,.string V] 73 (0,0));have HB2:=hid (below_out (below_out HB.out hbx) hb);have HO2:=hid (own_over (own_over HO.out hbx) hb);obtain⟨y0,y1⟩:=box2 ((hb.block _ (lt_of_heap (heap_alloc_new wr (.cells #[.string N,.string V] 73 (0,0))))).trans (heap_alloc_new wr (.cells #[.string N,.string V] 73 (0,0))));clear hb hbx HSm)|(go_at_call 58;(with_reducible refine(HCl.out _).mono ?_);rintro e w3 ⟨rfl,hb⟩;have HB3:=hid (below_out HB2.out hb);have HO3:=hid (own_over HO2.out hb);clear hb HCl y0 y1)|(at_builtin;refine wpList_append_own_at _ rfl (.tmp 18) (.tmp 22) 36 rfl w.heap.size 9 i0 _ 1 16 Tryz.underlying36 hi hz0 hz1 hz2 rfl (by decide) (.slice q m d) m ((valsB (fs.take i) nm).map strVL) (by go_simp) (HO3.out.alloc _) ⟨w3.heap.size,0,none⟩ 1 1 [.string V] (by go_simp) rfl (cells_new w3 _ _) (by simp [Value.oneCell']) (by unfold maxLen;omega) (by omega) (Nat.le_trans HB3.out.size (below_new _ _).size) ?_;intro v' w4 hown' hgrow _ _;have HB4:=hid (app_belowL HB3.out HO3.out hgrow);obtain⟨q',d',rfl⟩:=own_slice hown';have HO4:=hid hown';clear hown' hgrow));go_roundg (n-(i+1)+1)
     case measure=>omega
     case rel=>exact⟨i+1,q',m+1,d',rfl,by go_num,by omega,rfl,(by rw [HY.out,List.length_append,←HM.out];rfl),(by unfold RowB;rw [HY.out,List.length_append,←HM.out,List.map_append];exact HO4.out),HB4.out⟩
    |false=>
     have HY:=hid (vals_no hf hS);rw [hS] at HSm;obtain⟨N,hN⟩:∃ N,str f.1=N:=⟨_,rfl⟩;obtain⟨V,hV⟩:∃ V,str f.2=V:=⟨_,rfl⟩;rw [hN] at c0 HSm;rw [hV] at c1 HCl;clear hf hS hN hV;go_wp2_with (first|(go_at_call 119;(with_reducible refine(HSm.out _).mono ?_);rintro e w2 ⟨rfl,hb⟩;have hbx:=below_new wr (.cells #[.string N,.string V] 73 (0,0));have HB2:=hid (below_out (below_out HB.out hbx) hb);have HO2:=hid (own_over (own_over HO.out hbx) hb);obtain⟨y0,y1⟩:=box2 ((hb.block _ (lt_of_heap (heap_alloc_new wr (.cells #[.string N,.string V] 73 (0,0))))).trans (heap_alloc_new wr (.cells #[.string N,.string V] 73 (0,0))));clear hb hbx HSm));go_roundg (n-(i+1)+1)
     case measure=>omega
     case rel=>exact⟨i+1,q,m,d,rfl,by go_num,by omega,rfl,(by rw [HY.out];exact HM.out),(by unfold RowB;rw [HY.out,←HM.out];exact HO2.out),HB2.out⟩
  · obtain rfl:i=n:=by omega
    have hltI:¬(i:Int)<(i:Int):=by omega
    have HT:=hid (show fs.take i=fs from List.take_of_length_le (by rw [HN.out];exact Nat.le_refl _));clear hlt;go_wp2;go_ret;exact⟨_,rfl,(by unfold RowB;have h1:=HO.out;have h2:=HM.out;rw [HT.out] at h1 h2;rw [←h2];exact h1),HB.out⟩
def oneB (L:List ByteArray):ByteArray×Nat:=match L with| []=>(⟨#[]⟩,8)| [x]=>(x,0)|_=>(⟨#[]⟩,6)
theorem row_see {W:World}{b:Nat}{v:Value}{L:List ByteArray} (h:RowB W b v L) (n:Nat) (hn:L.length=n):∃ q d,v= .slice q n d∧∀ j x,L[j]?=some x→∃ g,q=some ⟨g,0,none⟩∧W.cell? ⟨g,j,none⟩=some (.string x):=by
 unfold RowB at h;by_cases h0:0<L.length
 · obtain⟨g,cap,e,hc⟩:=own_cellL h h0;exact⟨_,cap,by rw [e,hn],fun j x hj=>⟨g,rfl,hc j x hj⟩⟩
 · obtain⟨q,d,e⟩:=own_slice h;refine⟨q,d,by rw [e,hn],fun j x hj=>?_⟩;have:=(List.getElem?_eq_some_iff.1 hj).1;omega
theorem pone (fs:List (B×B)) (p:Option Addr) (n c:Nat) (hn:fs.length=n) (nm:ByteArray) (w:World) (hF:FAt w p fs) (hsz:szB fs) (hnm:nm.size≤1048576) (hnn:n≤1048576):
  Calls Tryz.prog 44 #[.slice p n c,.string nm] w fun e w'=>e= .returned (.tuple #[.string (oneB (valsB fs nm)).1,errOf (oneB (valsB fs nm)).2])∧Below w.heap.size w w':=by
 have hV0:=pvals fs p n c hn nm w hF hsz hnm hnn;have HV:=hid (show ∀ _:Unit,_ from fun _=>hV0);clear hV0;obtain⟨L,hL⟩:∃ L,valsB fs nm=L:=⟨_,rfl⟩;rw [hL] at HV ⊢;clear hL hF hsz hn;rcases L with _|⟨x,_|⟨y,r⟩⟩
 · go_enter Tryz.func44,Tryz.ntmps44;go_wp2_with (go_at_call 79;(with_reducible refine(HV.out ()).mono ?_);rintro e w1 ⟨v,rfl,ho,hb⟩;obtain⟨q,d,rfl,hq⟩:=row_see ho 0 rfl;  have HB:=hid hb;clear hb ho hq);go_ret2;exact⟨rfl,HB.out⟩
 · go_enter Tryz.func44,Tryz.ntmps44;go_wp2_with (go_at_call 79;(with_reducible refine(HV.out ()).mono ?_);rintro e w1 ⟨v,rfl,ho,hb⟩;obtain⟨q,d,rfl,hq⟩:=row_see ho 1 rfl;obtain⟨g,rfl,x0⟩:=hq 0 x rfl;have HB:=hid hb;clear hb ho hq);go_ret2;exact⟨rfl,HB.out⟩
 · obtain⟨k,hk⟩:∃ k,(x::y::r).length=k:=⟨_,rfl⟩;have HK:=hid hk;have h2:2≤k:=by rw [←hk];simp
   have hk0:((k:Int)== 0)=false:=by simp;omega
   have hk1:((k:Int)== 1)=false:=by simp;omega
   have hk2:¬(k:Int)=0:=by omega
   have hk3:¬(k:Int)=1:=by omega
   have HR:=hid (show oneB (x::y::r)=(⟨#[]⟩,6) from rfl);rw [HR.out];clear hk;go_enter Tryz.func44,Tryz.ntmps44;go_wp2_with (go_at_call 79;(with_reducible refine(HV.out ()).mono ?_);rintro e w1 ⟨v,rfl,ho,hb⟩;obtain⟨q,d,rfl,hq⟩:=row_see ho k HK.out;  have HB:=hid hb;clear hb ho hq);go_ret2;exact⟨rfl,HB.out⟩
abbrev hostS:ByteArray:=⟨#[72,111,115,116]⟩
def authQ (t:TG) (fs:List (B×B)):Option B:=if t.form=2 then some t.host else if (oneB (valsB fs hostS)).2=0 then some (oneB (valsB fs hostS)).1.data.toList else none
def ofAuth (o:Option B) (path:B):Sum Nat (B×B):=match o with
 |none=>.inl 3
 |some A=>if (splitN A).2.2≠0 then .inl 3 else .inr ((splitN A).1,path)
def askQ (target:B) (fs:List (B×B)):Sum Nat (B×B):=
 if (parseT target).2≠0 then .inl (parseT target).2
 else if (parseT target).1.form=3 then .inl 8
 else ofAuth (authQ (parseT target).1 fs) (parseT target).1.path
theorem split_err (s:B):(splitN s).2.2=0∨(splitN s).2.2=3:=by
 unfold splitN;cases labsH false (s.take (colonH s)) with
 |none=>exact .inr rfl
 |some x=>
  dsimp only;split
  · exact .inl rfl
  · split
    · exact .inl rfl
    · exact .inr rfl
def FndV (L:List RtC) (h p method:B) (b:Nat) (W:World) (i:Int) (v:Value) (S:ByteArray) (er:Value):Prop:=
 (∃ k,FndNo L h p method k∧k≠0∧i=((0:Nat):Int)∧v= .slice none 0 0∧S=str []∧er=errOf k)∨
 (∃ (j:Nat) (F:List (B×B)) (m:B) (q:Option Addr) (d:Nat),FndYes L h p method j F m∧i=(j:Int)∧v= .slice q F.length d∧S=str m∧er= .nilIface∧OwnF W b v F)
theorem fnd_of {L:List RtC}{h p method:B}{w:World}{e:Ending}{w':World} (H:FndAns L h p method w e w'):∃ i q n d S er,e= .returned (.tuple #[.agg #[.int .i64 i,.slice q n d,.string S],er])∧Below w.heap.size w w'∧FndV L h p method w.heap.size w' i (.slice q n d) S er:=by
 rcases H with ⟨hb,⟨k,h1,h2,rfl⟩|⟨i,F,m,q,d,h1,rfl,h2⟩⟩
 · exact⟨_,none,0,0,_,_,rfl,hb,.inl ⟨k,h1,h2,rfl,rfl,rfl,rfl⟩⟩
 · exact⟨_,q,F.length,d,_,_,rfl,hb,.inr ⟨i,F,m,q,d,h1,rfl,rfl,rfl,rfl,h2⟩⟩
theorem fnd_back {L:List RtC}{h p method:B}{w W:World}{b:Nat}{i:Int}{v:Value}{S:ByteArray}{er:Value} (hb:Below w.heap.size w W) (hl:w.heap.size≤b) (H:FndV L h p method b W i v S er):FndAns L h p method w (.returned (.tuple #[.agg #[.int .i64 i,v,.string S],er])) W:=by
 rcases H with ⟨k,h1,h2,rfl,rfl,rfl,rfl⟩|⟨j,F,m,q,d,h1,rfl,rfl,rfl,rfl,h2⟩
 · exact⟨hb,.inl ⟨k,h1,h2,rfl⟩⟩
 · exact⟨hb,.inr ⟨j,F,m,q,d,h1,rfl,h2.lowT hl⟩⟩
theorem FndV.set3 {L:List RtC}{h p method:B}{W:World}{b g:Nat}{i:Int}{v a1 a2 a3 x y z:Value}{S:ByteArray}{er:Value} (H:FndV L h p method b W i v S er) (hg:W.heap[g]?=some (.cells #[a1,a2,a3] 47 (0,0))):FndV L h p method b (((W.setCell ⟨g,0,none⟩ x).setCell ⟨g,1,none⟩ y).setCell ⟨g,2,none⟩ z) i v S er:=by
 rcases H with H|⟨j,F,m,q,d,h1,h2,h3,h4,h5,h6⟩
 · exact .inl H
 · exact .inr ⟨j,F,m,q,d,h1,h2,h3,h4,h5,OwnF.set3 h6 hg⟩
theorem cutF_le (x:UInt8) (s:B):(cutF x s).1.length≤s.length:=(cutF_len x s).1
theorem behind_len (f:Int) (h s:B):(behindB f h s).1.path.length≤s.length+1∧(behindB f h s).1.host.length≤h.length:=by
 unfold behindB;split
 · exact⟨Nat.zero_le _,Nat.zero_le _⟩
 · refine⟨?_,Nat.le_refl _⟩;dsimp only;have:=cutF_le 63 s;unfold pathOf;split
   · simp
   · omega
theorem parse_len (s:B):(parseT s).1.path.length≤s.length+1∧(parseT s).1.host.length≤s.length:=by
 unfold parseT;split
 · exact⟨Nat.zero_le _,Nat.zero_le _⟩
 · split
   · exact⟨Nat.zero_le _,Nat.zero_le _⟩
   · split
     · have:=behind_len 1 [] s;exact⟨this.1,Nat.le_trans this.2 (Nat.zero_le _)⟩
     · split
       · exact⟨Nat.zero_le _,Nat.zero_le _⟩
       · split
         · exact⟨Nat.zero_le _,Nat.zero_le _⟩
         · have h1:=behind_len 2 (smallB ((s.drop 7).takeWhile hostB)) ((s.drop 7).dropWhile hostB);have h2:=(List.takeWhile_sublist (l:=s.drop 7) hostB).length_le;have h3:=(List.dropWhile_sublist (l:=s.drop 7) hostB).length_le;have h4:(s.drop 7).length≤s.length:=by rw [List.length_drop];omega
           have h5:(smallB ((s.drop 7).takeWhile hostB)).length=((s.drop 7).takeWhile hostB).length:=by unfold smallB;rw [List.length_map]
           omega
theorem one_len_q {fs:List (B×B)} (h:szB fs) (nm:ByteArray):(oneB (valsB fs nm)).1.size≤1048576:=by
 have hm:∀ x∈valsB fs nm,x.size≤1048576:=fun x hx=>by
  unfold valsB at hx;obtain⟨f,hf,rfl⟩:=List.mem_map.1 hx;rw [str_size];exact(h f (List.mem_filter.1 hf).1).2
 cases hv:valsB fs nm with
 |nil=>exact Nat.zero_le _
 |cons x r=>
  cases r with
  |nil=>exact hm x (by rw [hv];simp)
  |cons y z=>exact Nat.zero_le _
theorem split_len (s:B):(splitN s).1.length≤s.length:=by
 unfold splitN;cases labsH false (s.take (colonH s)) with
 |none=>exact Nat.zero_le _
 |some x=>
  have h1:(lowH (s.take (colonH s))).length≤s.length:=by rw [low_len,List.length_take];omega
  dsimp only;split
  · exact h1
  · split
    · exact h1
    · exact Nat.zero_le _
theorem box4r {W:World}{g:Nat}{a b c d:Value}{T:TypeId} (h:W.heap[g]?=some (.cells #[a,b,c,d] T (0,0))):W.cell? ⟨g,0,none⟩=some a∧W.cell? ⟨g,1,none⟩=some b∧W.cell? ⟨g,2,none⟩=some c∧W.cell? ⟨g,3,none⟩=some d:=by
 refine⟨?_,?_,?_,?_⟩ <;> simp [World.cell?,h]
theorem box5r {W:World}{g:Nat}{a b c d e:Value}{T:TypeId} (h:W.heap[g]?=some (.cells #[a,b,c,d,e] T (0,0))):W.cell? ⟨g,0,none⟩=some a∧W.cell? ⟨g,1,none⟩=some b∧W.cell? ⟨g,2,none⟩=some c:=by
 refine⟨?_,?_,?_⟩ <;> simp [World.cell?,h]
def PReqAns (L:List RtC) (method target:B) (fs:List (B×B)) (w:World) (e:Ending) (w':World):Prop:=match askQ target fs with
 | .inl k=>e= .returned (.tuple #[foundV 0 (.slice none 0 0) [],errOf k])∧k≠0∧Below w.heap.size w w'
 | .inr (h,p)=>FndAns L h p method w e w'
theorem preq_nil (v0 v1:ByteArray) (mi:Int) (fp:Option Addr) (fn fc:Nat) (w:World):Calls Tryz.prog 18 #[.pointer none,.agg #[.string v0,.string v1,.int .i64 mi,.slice fp fn fc]] w fun e w'=>e= .returned (.tuple #[foundV 0 (.slice none 0 0) [],errOf 8])∧Below w.heap.size w w':=by
 have HB0:=hid (BxR.new w (.cells #[.string v0,.string v1,.int .i64 mi,.slice fp fn fc] 57 (0,0)) (.cells #[.int .i64 0,.slice none 0 0,.string ⟨#[]⟩] 47 (0,0)));go_enter Tryz.func18,Tryz.ntmps18;go_wp2;refine bodyPost_ret (results_fd rfl _ _ (w.heap.size+1) _ _ (0,0) rfl HB0.out.b rfl) rfl ?_;exact⟨rfl,HB0.out.low⟩
theorem preq_any {b0:Nat}{w:World}{t gh m:Nat}{L:List RtC}{M:Nat} (hQ:TabQ b0 w t gh m (contQ L M)) (hs:b0≤w.heap.size) (hmx:MxAt w) (h64:L.length≤64) (hzp:∀ r∈L,r.path.length≤4398046511104) (hzm:∀ r∈L,r.ms.length≤140737488355328) (method target:B) (mi:Int) (fs:List (B×B)) (fp:Option Addr) (fn fc:Nat) (hfn:fs.length=fn) (hF:FAt w fp fs) (hsz:szB fs) (hfl:fn≤1048576) (ht:target.length≤1048576):
  Calls Tryz.prog 18 #[.pointer (some ⟨t,0,none⟩),.agg #[.string (str method),.string (str target),.int .i64 mi,.slice fp fn fc]] w fun e w'=>PReqAns L method target fs w e w':=by
 have HQ:=hid hQ;have HS:=hid hs;have HMx:=hid hmx;have HPa:=hid (fun (W:World) (h:MxAt W)=>pparse_any target (by omega) W (env_mx h));have HPl:=hid (parse_len target);have HOn:=hid (fun (W:World) (hb:Below w.heap.size w W)=>pone fs fp fn fc hfn hostS W (hF.next hb) hsz (by decide) hfl);have HOl:=hid (one_len_q hsz hostS);have HSp:=hid (fun (A:B) (hA:A.length≤1048577) (W:World) (h:MxAt W)=>psplit_any A (by omega) W h);have HFd:=hid (fun (h p:B) (hh:h.length≤1048577) (hp:p.length≤1048577) (W:World) (hb:Below w.heap.size w W)=>pfind_any (hQ.next hs hb) (Nat.le_trans hs hb.size) (hmx.next hb) h64 hzp hzm h p method (by omega) (by omega) (fun y hy=>by have:=normal_len_q hy;omega));have hpf:=parse_form target;have htl:=ht;obtain⟨SM,hSM⟩:∃ S,str method=S:=⟨_,rfl⟩;obtain⟨ST,hST⟩:∃ S,str target=S:=⟨_,rfl⟩;rw [hSM] at HFd ⊢;rw [hST] at HPa ⊢;have HB0:=hid (BxR.new w (.cells #[.string SM,.string ST,.int .i64 mi,.slice fp fn fc] 57 (0,0)) (.cells #[.int .i64 0,.slice none 0 0,.string ⟨#[]⟩] 47 (0,0)));unfold PReqAns askQ ofAuth;rcases hpt:parseT target with ⟨⟨form,host,path,query,has⟩,k⟩
 rw [hpt] at HPa HPl hpf;unfold tgV at HPa;dsimp only at HPa HPl hpf ⊢;obtain⟨Xh,hXh⟩:∃ S,str host=S:=⟨_,rfl⟩;obtain⟨Xp,hXp⟩:∃ S,str path=S:=⟨_,rfl⟩;obtain⟨Xq,hXq⟩:∃ S,str query=S:=⟨_,rfl⟩;rw [hXh,hXp,hXq] at HPa;clear hQ hs hmx hF hfn hsz hST hSM hXq hpt;obtain⟨c0,c1,c2,c3⟩:=box4r HB0.out.a;by_cases hk:k≠0
 · rw [if_pos hk];dsimp only;rw [errOf_ne hk] at HPa ⊢;have HK:=hid hk;clear hk hpf;go_enter Tryz.func18,Tryz.ntmps18;go_wp2_with (go_at_call 43;(with_reducible refine(HPa.out _ (HMx.out.next HB0.out.low)).mono ?_);rintro e w1 ⟨rfl,hb1⟩;have HB1:=hid ((HB0.out.next hb1).next (below_new w1 (.cells #[.int .i64 form,.string Xh,.string Xp,.string Xq,.bool has] 105 (0,0))));obtain⟨z0,f0,z1,f1,z2,f2⟩:=fd_box HB1.out.b (.int .i64 0) (.slice none 0 0);clear hb1);refine bodyPost_ret (results_fd rfl _ _ (w.heap.size+1) _ _ (0,0) rfl (heap_three HB1.out.b _ _ _) rfl) rfl ?_;exact⟨rfl,HK.out,below_three HB1.out.low (by omega) _ _ _⟩
 · have hk0:k=0:=by omega
   subst hk0;have hpf:=hpf rfl;rw [if_neg hk];rw [show errOf 0=Value.nilIface from rfl] at HPa;clear hk;by_cases h3:form=3
   · subst h3;rw [if_pos rfl];dsimp only;rw [errOf_ne (show (8:Nat)≠0 by decide)];clear hpf;go_enter Tryz.func18,Tryz.ntmps18;go_wp2_with (go_at_call 43;(with_reducible refine(HPa.out _ (HMx.out.next HB0.out.low)).mono ?_);rintro e w1 ⟨rfl,hb1⟩;have hn1:=below_new w1 (.cells #[.int .i64 3,.string Xh,.string Xp,.string Xq,.bool has] 105 (0,0));have HB1:=hid ((HB0.out.next hb1).next hn1);have HT1:=hid (heap_alloc_new w1 (.cells #[.int .i64 3,.string Xh,.string Xp,.string Xq,.bool has] 105 (0,0)));obtain⟨y0,y1,y2⟩:=box5r HT1.out;obtain⟨z0,f0,z1,f1,z2,f2⟩:=fd_box HB1.out.b (.int .i64 0) (.slice none 0 0);clear hb1 hn1);refine bodyPost_ret (results_fd rfl _ _ (w.heap.size+1) _ _ (0,0) rfl (heap_three HB1.out.b _ _ _) rfl) rfl ?_;exact⟨rfl,by decide,below_three HB1.out.low (by omega) _ _ _⟩
   rw [if_neg h3];by_cases h2:form=2
   · subst h2;rw [show authQ ⟨2,host,path,query,has⟩ fs=some host from if_pos rfl];dsimp only;clear hpf h3;have HSpA:=hid (HSp.out host (by have:=HPl.out.2;omega));have HFa:=hid (fun (W:World) (hb:Below w.heap.size w W)=>HFd.out (splitN host).1 path (Nat.le_trans (split_len _) (by have:=HPl.out.2;omega)) (by have:=HPl.out.1;omega) W hb);have hse:=split_err host;rcases hsp:splitN host with ⟨nm,po,er⟩
     rw [hsp] at HSpA HFa hse;dsimp only at HSpA HFa hse ⊢;obtain⟨Xn,hXn⟩:∃ S,str nm=S:=⟨_,rfl⟩;rw [hXh] at HSpA;rw [hXn,hXp] at HFa;rw [hXn] at HSpA;clear hsp hXn;rcases hse with rfl|rfl
     · rw [if_neg (by simp)];dsimp only;rw [show errOf 0=Value.nilIface from rfl] at HSpA;go_enter Tryz.func18,Tryz.ntmps18;go_wp2_with (first|(go_at_call 43;(with_reducible refine(HPa.out _ (HMx.out.next HB0.out.low)).mono ?_);rintro e w1 ⟨rfl,hb1⟩;have hn1:=below_new w1 (.cells #[.int .i64 2,.string Xh,.string Xp,.string Xq,.bool has] 105 (0,0));have HB1:=hid ((HB0.out.next hb1).next hn1);have HT1:=hid (heap_alloc_new w1 (.cells #[.int .i64 2,.string Xh,.string Xp,.string Xq,.bool has] 105 (0,0)));obtain⟨y0,y1,y2⟩:=box5r HT1.out;clear c0 c1 c2 c3;obtain⟨c0,c1,c2,c3⟩:=box4r HB1.out.a;clear hb1 hn1)|(go_at_call 45;(with_reducible refine(HSpA.out _ (HMx.out.next HB1.out.low)).mono ?_);rintro e w3 ⟨rfl,hb3⟩;have HB3:=hid (HB1.out.next hb3);have HT3:=hid (kB hb3 HT1.out);obtain⟨y0,y1,y2⟩:=box5r HT3.out;clear c0 c1 c2 c3;obtain⟨c0,c1,c2,c3⟩:=box4r HB3.out.a;clear hb3)|(go_at_call 12;(with_reducible refine(HFa.out _ HB3.out.low).mono ?_);rintro e w4 hf4;obtain⟨i4,q4,n4,d4,S4,er4,rfl,hb4,hV4⟩:=fnd_of hf4;have HB4:=hid (HB3.out.next hb4);have HV4:=hid hV4;have HS3:=hid HB3.out.low.size;obtain⟨z0,f0,z1,f1,z2,f2⟩:=fd_box HB4.out.b (.int .i64 i4) (.slice q4 n4 d4);clear hb4 hV4 hf4));refine bodyPost_ret (results_fd rfl _ _ (w.heap.size+1) _ _ (0,0) rfl (heap_three HB4.out.b _ _ _) rfl) rfl ?_;exact fnd_back (below_three HB4.out.low (by omega) _ _ _) HS3.out (HV4.out.set3 HB4.out.b)
     · rw [if_pos (by decide)];dsimp only;rw [errOf_ne (show (3:Nat)≠0 by decide)] at HSpA ⊢;go_enter Tryz.func18,Tryz.ntmps18;go_wp2_with (first|(go_at_call 43;(with_reducible refine(HPa.out _ (HMx.out.next HB0.out.low)).mono ?_);rintro e w1 ⟨rfl,hb1⟩;have hn1:=below_new w1 (.cells #[.int .i64 2,.string Xh,.string Xp,.string Xq,.bool has] 105 (0,0));have HB1:=hid ((HB0.out.next hb1).next hn1);have HT1:=hid (heap_alloc_new w1 (.cells #[.int .i64 2,.string Xh,.string Xp,.string Xq,.bool has] 105 (0,0)));obtain⟨y0,y1,y2⟩:=box5r HT1.out;clear c0 c1 c2 c3;obtain⟨c0,c1,c2,c3⟩:=box4r HB1.out.a;clear hb1 hn1)|(go_at_call 45;(with_reducible refine(HSpA.out _ (HMx.out.next HB1.out.low)).mono ?_);rintro e w3 ⟨rfl,hb3⟩;have HB3:=hid (HB1.out.next hb3);have HT3:=hid (kB hb3 HT1.out);obtain⟨z0,f0,z1,f1,z2,f2⟩:=fd_box HB3.out.b (.int .i64 0) (.slice none 0 0);clear hb3));refine bodyPost_ret (results_fd rfl _ _ (w.heap.size+1) _ _ (0,0) rfl (heap_three HB3.out.b _ _ _) rfl) rfl ?_;exact⟨rfl,by decide,below_three HB3.out.low (by omega) _ _ _⟩
   obtain rfl:form=1:=by
    rcases hpf with h|h|h
    · exact h
    · exact absurd h h2
    · exact absurd h h3
   have ha:authQ ⟨1,host,path,query,has⟩ fs=if (oneB (valsB fs hostS)).2=0 then some (oneB (valsB fs hostS)).1.data.toList else none:=if_neg (show ¬(1:Int)=2 by decide)
   rw [ha];clear hpf h2 h3 ha;rcases hob:oneB (valsB fs hostS) with ⟨sv,ke⟩
   rw [hob] at HOn HOl;dsimp only at HOn HOl ⊢;clear hob;by_cases hke:ke=0
   · subst hke;rw [if_pos rfl];dsimp only;rw [show errOf 0=Value.nilIface from rfl] at HOn;have HSpA:=hid (HSp.out sv.data.toList (by have:=HOl.out;simp at this ⊢;omega));have HFa:=hid (fun (W:World) (hb:Below w.heap.size w W)=>HFd.out (splitN sv.data.toList).1 path (Nat.le_trans (split_len _) (by have:=HOl.out;simp at this ⊢;omega)) (by have:=HPl.out.1;omega) W hb);have hse:=split_err sv.data.toList;rcases hsp:splitN sv.data.toList with ⟨nm,po,er⟩
     rw [hsp] at HSpA HFa hse;dsimp only at HSpA HFa hse ⊢;obtain⟨Xn,hXn⟩:∃ S,str nm=S:=⟨_,rfl⟩;rw [show str sv.data.toList=sv from by cases sv;rfl] at HSpA;rw [hXn,hXp] at HFa;rw [hXn] at HSpA;clear hsp hXn;rcases hse with rfl|rfl
     · rw [if_neg (by simp)];dsimp only;rw [show errOf 0=Value.nilIface from rfl] at HSpA;go_enter Tryz.func18,Tryz.ntmps18;go_wp2_with (first|(go_at_call 43;(with_reducible refine(HPa.out _ (HMx.out.next HB0.out.low)).mono ?_);rintro e w1 ⟨rfl,hb1⟩;have hn1:=below_new w1 (.cells #[.int .i64 1,.string Xh,.string Xp,.string Xq,.bool has] 105 (0,0));have HB1:=hid ((HB0.out.next hb1).next hn1);have HT1:=hid (heap_alloc_new w1 (.cells #[.int .i64 1,.string Xh,.string Xp,.string Xq,.bool has] 105 (0,0)));obtain⟨y0,y1,y2⟩:=box5r HT1.out;clear c0 c1 c2 c3;obtain⟨c0,c1,c2,c3⟩:=box4r HB1.out.a;clear hb1 hn1)|(go_at_call 44;(with_reducible refine(HOn.out _ HB1.out.low).mono ?_);rintro e w2 ⟨rfl,hb2⟩;have HB2:=hid (HB1.out.next hb2);have HT2:=hid (kB hb2 HT1.out);clear hb2)|(go_at_call 45;(with_reducible refine(HSpA.out _ (HMx.out.next HB2.out.low)).mono ?_);rintro e w3 ⟨rfl,hb3⟩;have HB3:=hid (HB2.out.next hb3);have HT3:=hid (kB hb3 HT2.out);obtain⟨y0,y1,y2⟩:=box5r HT3.out;clear c0 c1 c2 c3;obtain⟨c0,c1,c2,c3⟩:=box4r HB3.out.a;clear hb3)|(go_at_call 12;(with_reducible refine(HFa.out _ HB3.out.low).mono ?_);rintro e w4 hf4;obtain⟨i4,q4,n4,d4,S4,er4,rfl,hb4,hV4⟩:=fnd_of hf4;have HB4:=hid (HB3.out.next hb4);have HV4:=hid hV4;have HS3:=hid HB3.out.low.size;obtain⟨z0,f0,z1,f1,z2,f2⟩:=fd_box HB4.out.b (.int .i64 i4) (.slice q4 n4 d4);clear hb4 hV4 hf4));refine bodyPost_ret (results_fd rfl _ _ (w.heap.size+1) _ _ (0,0) rfl (heap_three HB4.out.b _ _ _) rfl) rfl ?_;exact fnd_back (below_three HB4.out.low (by omega) _ _ _) HS3.out (HV4.out.set3 HB4.out.b)
     · rw [if_pos (by decide)];dsimp only;rw [errOf_ne (show (3:Nat)≠0 by decide)] at HSpA ⊢;go_enter Tryz.func18,Tryz.ntmps18;go_wp2_with (first|(go_at_call 43;(with_reducible refine(HPa.out _ (HMx.out.next HB0.out.low)).mono ?_);rintro e w1 ⟨rfl,hb1⟩;have hn1:=below_new w1 (.cells #[.int .i64 1,.string Xh,.string Xp,.string Xq,.bool has] 105 (0,0));have HB1:=hid ((HB0.out.next hb1).next hn1);have HT1:=hid (heap_alloc_new w1 (.cells #[.int .i64 1,.string Xh,.string Xp,.string Xq,.bool has] 105 (0,0)));obtain⟨y0,y1,y2⟩:=box5r HT1.out;clear c0 c1 c2 c3;obtain⟨c0,c1,c2,c3⟩:=box4r HB1.out.a;clear hb1 hn1)|(go_at_call 44;(with_reducible refine(HOn.out _ HB1.out.low).mono ?_);rintro e w2 ⟨rfl,hb2⟩;have HB2:=hid (HB1.out.next hb2);have HT2:=hid (kB hb2 HT1.out);clear hb2)|(go_at_call 45;(with_reducible refine(HSpA.out _ (HMx.out.next HB2.out.low)).mono ?_);rintro e w3 ⟨rfl,hb3⟩;have HB3:=hid (HB2.out.next hb3);have HT3:=hid (kB hb3 HT2.out);obtain⟨z0,f0,z1,f1,z2,f2⟩:=fd_box HB3.out.b (.int .i64 0) (.slice none 0 0);clear hb3));refine bodyPost_ret (results_fd rfl _ _ (w.heap.size+1) _ _ (0,0) rfl (heap_three HB3.out.b _ _ _) rfl) rfl ?_;exact⟨rfl,by decide,below_three HB3.out.low (by omega) _ _ _⟩
   · rw [if_neg hke];dsimp only;rw [errOf_ne hke] at HOn;rw [errOf_ne (show (3:Nat)≠0 by decide)];clear hke;go_enter Tryz.func18,Tryz.ntmps18;go_wp2_with (first|(go_at_call 43;(with_reducible refine(HPa.out _ (HMx.out.next HB0.out.low)).mono ?_);rintro e w1 ⟨rfl,hb1⟩;have hn1:=below_new w1 (.cells #[.int .i64 1,.string Xh,.string Xp,.string Xq,.bool has] 105 (0,0));have HB1:=hid ((HB0.out.next hb1).next hn1);have HT1:=hid (heap_alloc_new w1 (.cells #[.int .i64 1,.string Xh,.string Xp,.string Xq,.bool has] 105 (0,0)));obtain⟨y0,y1,y2⟩:=box5r HT1.out;clear c0 c1 c2 c3;obtain⟨c0,c1,c2,c3⟩:=box4r HB1.out.a;clear hb1 hn1)|(go_at_call 44;(with_reducible refine(HOn.out _ HB1.out.low).mono ?_);rintro e w2 ⟨rfl,hb2⟩;have HB2:=hid (HB1.out.next hb2);obtain⟨z0,f0,z1,f1,z2,f2⟩:=fd_box HB2.out.b (.int .i64 0) (.slice none 0 0);clear hb2));refine bodyPost_ret (results_fd rfl _ _ (w.heap.size+1) _ _ (0,0) rfl (heap_three HB2.out.b _ _ _) rfl) rfl ?_;exact⟨rfl,by decide,below_three HB2.out.low (by omega) _ _ _⟩
end Go.Proofs.YtlmlljlappjjjaaGreatDoor
