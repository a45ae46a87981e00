/- Whether a pattern's segments fit a path, by the program. -/
import Derived.Test.YtlmlljlappjjjaaGreatDoorTSegs
namespace Go.Proofs.YtlmlljlappjjjaaGreatDoor
set_option maxRecDepth 20000
set_option maxHeartbeats 16000000
open Go.RowKit
def takeT (x left:B):B×B×Bool:=if kindT x=2 then (left,[],false) else cutF 47 left
def fitT (x t:B):Bool:=if kindT x=0 then decide (t=x) else if kindT x=1 then decide (t≠ []) else true
def fitL:List B→B→Bool→Option (List (B×B))
 | [],_,more=>if more then none else some []
 |x::l,left,more=>if more then (if fitT x (takeT x left).1 then (fitL l (takeT x left).2.1 (takeT x left).2.2).map (fun F=>if kindT x=0 then F else (segX x,(takeT x left).1)::F) else none) else none
theorem rest_tail {x:B}{l:List B} (h:restLast (x::l)=true):restLast l=true∧(kindT x=2→l= []):=by
 cases l with
 |nil=>exact⟨rfl,fun _=>rfl⟩
 |cons y m=>
  simp [restLast] at h;exact⟨h.2,fun e=>absurd e h.1⟩
theorem fitL_same:∀ (l:List B) (left:B) (more:Bool),restLast l=true→fitL l left more=fitsT l (if more then cutT left else [])
 | [],left,true,_=>by
  cases h:cutT left with
  |nil=>exact absurd h (cutT_ne left)
  |cons y r=>simp [fitL,fitsT]
 | [],left,false,_=>rfl
 |x::l,left,false,_=>rfl
 |x::l,left,true,hr=>by
  obtain⟨hr1,hr2⟩:=rest_tail hr;have hk:=kindT_le x;have e:fitL (x::l) left true=if fitT x (takeT x left).1 then (fitL l (takeT x left).2.1 (takeT x left).2.2).map (fun F=>if kindT x=0 then F else (segX x,(takeT x left).1)::F) else none:=rfl
  rw [e,if_pos rfl];by_cases h2:kindT x=2
  · have hl:=hr2 h2;subst hl;have e1:takeT x left=(left,[],false):=by unfold takeT;rw [if_pos h2]
    have e2:∀ t,fitT x t=true:=fun t=>by unfold fitT;rw [if_neg (by omega),if_neg (by omega)]
    have e3:segX x=x.tail:=by unfold segX;rw [if_neg (by omega)]
    rw [e1,e2,if_pos rfl,cutT_cut left,fitsT,if_pos h2,←cutT_cut left,joinT_cut,e3];show some (if kindT x=0 then [] else [(x.tail,left)])=_;rw [if_neg (by omega)]
  · have e1:takeT x left=cutF 47 left:=by unfold takeT;rw [if_neg h2]
    have ih:=fitL_same l (cutF 47 left).2.1 (cutF 47 left).2.2 hr1;rw [e1,ih,cutT_cut left,fitsT,if_neg h2];by_cases h1:kindT x=1
    · have e3:segX x=x.tail:=by unfold segX;rw [if_neg (by omega)]
      rw [if_pos h1,e3];by_cases hn:(cutF 47 left).1= []
      · rw [if_pos hn,if_neg (by unfold fitT;rw [if_neg (by omega),if_pos h1,hn];simp)]
      · rw [if_neg hn,if_pos (by unfold fitT;rw [if_neg (by omega),if_pos h1];simpa using hn)];congr 1;funext F;rw [if_neg (by omega)]
    · have h0:kindT x=0:=by omega
      rw [if_neg h1];by_cases hn:x=(cutF 47 left).1
      · rw [if_pos hn,if_pos (by unfold fitT;rw [if_pos h0];exact decide_eq_true hn.symm)];simp only [if_pos h0,Option.map_id']
      · rw [if_neg hn,if_neg (by unfold fitT;rw [if_pos h0];simpa using fun e=>hn e.symm)]
theorem cutF_lensT (left:B):(cutF 47 left).1.length≤left.length∧(cutF 47 left).2.1.length≤left.length:=by
 have:=cutF_lens 47 left;omega
theorem takeT_lens (x left:B):(takeT x left).1.length≤left.length∧(takeT x left).2.1.length≤left.length:=by
 unfold takeT;split
 · simp
 · exact cutF_lensT left
theorem take_any (x left:B) (hl:left.length≤140737488355328) (w:World) (hmx:MxAt w):Calls Tryz.prog 142 #[.agg #[.int .i64 (kindT x:Int),.string (str (segX x))],.string (str left)] w fun e w'=>e= .returned (.tuple #[.string (str (takeT x left).1),.string (str (takeT x left).2.1),.bool (takeT x left).2.2])∧Below w.heap.size w w':=by
 obtain⟨T,hT⟩:∃ T,str (segX x)=T:=⟨_,rfl⟩;obtain⟨L,hL⟩:∃ L,str left=L:=⟨_,rfl⟩;rw [hT];by_cases h2:kindT x=2
 · have e1:takeT x left=(left,[],false):=by unfold takeT;rw [if_pos h2]
   rw [e1,h2];dsimp only;rw [hL,show str []=⟨#[]⟩ from rfl];clear hT hL e1 h2 hmx;go_enter Tryz.func142,Tryz.ntmps142;go_wp2;go_ret3;exact⟨rfl,below_new w _⟩
 · have e1:takeT x left=cutF 47 left:=by unfold takeT;rw [if_neg h2]
   have HC:=hid (fun (W:World) (h:MxAt W)=>pcutT left hl W h);have hmx2:=hmx.next (below_new w (.cells #[.int .i64 (kindT x:Int),.string T] 174 (0,0)))
   rw [e1];obtain⟨K,hK⟩:∃ K:Int,(kindT x:Int)=K:=⟨_,rfl⟩;have hK2:(K== 2)=false:=by simp;rw [←hK];omega
   obtain⟨a,ha⟩:∃ a,cutF 47 left=a:=⟨_,rfl⟩;rw [ha] at HC ⊢;obtain⟨A1,hA1⟩:∃ A,str a.1=A:=⟨_,rfl⟩;obtain⟨A2,hA2⟩:∃ A,str a.2.1=A:=⟨_,rfl⟩;rw [hA1,hA2,hL] at HC;rw [hA1,hA2,hK,hL];rw [hK] at hmx2;clear hT hL e1 h2 ha hA1 hA2 hK;go_enter Tryz.func142,Tryz.ntmps142;go_wp2_with (go_at_call 80;(with_reducible refine(HC.out _ hmx2).mono ?_);rintro e w1 ⟨rfl,z,rfl⟩);go_ret3;exact⟨rfl,below_drew (below_new w _) _⟩
theorem sfits_any (x t:B) (w:World):Calls Tryz.prog 143 #[.agg #[.int .i64 (kindT x:Int),.string (str (segX x))],.string (str t)] w fun e w'=>e= .returned (.bool (fitT x t))∧Below w.heap.size w w':=by
 have hk:=kindT_le x;obtain⟨X,hX⟩:∃ X,str (segX x)=X:=⟨_,rfl⟩;obtain⟨T,hT⟩:∃ T,str t=T:=⟨_,rfl⟩;rw [hX,hT];by_cases h0:kindT x=0
 · have e3:segX x=x:=by unfold segX;rw [if_pos h0]
   rw [e3] at hX;rw [h0];by_cases ht:t=x
   · have e1:fitT x t=true:=by unfold fitT;rw [if_pos h0];exact decide_eq_true ht
     obtain rfl:X=T:=by rw [←hX,←hT,ht]
     rw [e1];clear hX hT e1 e3 h0 hk ht;go_enter Tryz.func143,Tryz.ntmps143;go_wp2;go_ret;exact⟨rfl,below_new w _⟩
   · have e1:fitT x t=false:=by unfold fitT;rw [if_pos h0];exact decide_eq_false ht
     have hne:¬T=X:=fun e=>ht (str_inj (by rw [hX,hT];exact e))
     have hne2:(T.toList== X.toList)=false:=ne_list hne;rw [e1];clear hX hT e1 e3 h0 hk ht;go_enter Tryz.func143,Tryz.ntmps143;go_wp2;go_ret;exact⟨rfl,below_new w _⟩
 · by_cases h1:kindT x=1
   · rw [h1];by_cases ht:t= []
     · have e1:fitT x t=false:=by unfold fitT;rw [if_neg h0,if_pos h1,ht];rfl
       obtain rfl:(⟨#[]⟩:ByteArray)=T:=by rw [←hT,ht]
       rw [e1];clear hX hT e1 h0 h1 hk ht;go_enter Tryz.func143,Tryz.ntmps143;go_wp2;go_ret;exact⟨rfl,below_new w _⟩
     · have e1:fitT x t=true:=by unfold fitT;rw [if_neg h0,if_pos h1];exact decide_eq_true ht
       have hne:¬T=(⟨#[]⟩:ByteArray):=fun e=>ht (str_inj (by rw [hT,e]))
       have hne2:(T.toList== (⟨#[]⟩:ByteArray).toList)=false:=ne_list hne;have hne3:T.toList.isEmpty=false:=ne_empty hne;have hne4:(T.toList== [])=false:=by have h:=hne2;rw [ByteArray.toList_eq,ByteArray.toList_eq] at h;rw [ByteArray.toList_eq];exact h
       rw [e1];clear hX hT e1 h0 h1 hk ht;go_enter Tryz.func143,Tryz.ntmps143;go_wp2;go_ret;exact⟨by first|rfl|simp [hne3],below_new w _⟩
   · obtain h2:kindT x=2:=by omega
     have e1:fitT x t=true:=by unfold fitT;rw [if_neg h0,if_neg h1]
     rw [e1,h2];clear hX hT e1 h0 h1 hk h2;go_enter Tryz.func143,Tryz.ntmps143;go_wp2;go_ret;exact⟨rfl,below_new w _⟩
def SgAt (w:World) (p:Option Addr) (l:List B):Prop:=∀ (j:Nat) (x:B),l[j]?=some x→∃ g o,p=some ⟨g,o,none⟩∧w.cell? ⟨g,o+j*2,none⟩=some (.int .i64 (kindT x:Int))∧w.cell? ⟨g,o+j*2+1,none⟩=some (.string (str (segX x)))
theorem SgAt.next {w w':World}{p:Option Addr}{l:List B} (h:SgAt w p l) (hb:Below w.heap.size w w'):SgAt w' p l:=by
 intro j x hj;obtain⟨g,o,e,h1,h2⟩:=h j x hj;exact⟨g,o,e,cell_keep hb h1,cell_keep hb h2⟩
theorem segF_len (x:B):(segF x).length=2:=rfl
theorem OwnG.sg {w:World}{b n c:Nat}{p:Option Addr}{l:List B} (h:OwnG w b (.slice p n c) l):SgAt w p l:=by
 intro j x hj;obtain⟨g,e,hc⟩:=OwnR_r.at segF_len h hj;refine⟨g,0,e,?_,?_⟩
 · have:=hc 0 _ rfl;rw [Nat.zero_add,Nat.mul_comm];exact this
 · have:=hc 1 _ rfl;rw [Nat.zero_add,Nat.mul_comm];exact this
def FitP (o:Option (List (B×B))) (w:World) (e:Ending) (w':World):Prop:=match o with
 |none=>e= .returned (.tuple #[.slice none 0 0,.bool false])∧Below w.heap.size w w'
 |some F=>∃ q d,e= .returned (.tuple #[.slice q F.length d,.bool true])∧OwnF w' w.heap.size (.slice q F.length d) F∧Below w.heap.size w w'
theorem fitP_no {o:Option (List (B×B))}{w w':World}{e:Ending} (h:o=none) (he:e= .returned (.tuple #[.slice none 0 0,.bool false])) (hb:Below w.heap.size w w'):FitP o w e w':=by subst h;exact⟨he,hb⟩
theorem fitP_yes {o:Option (List (B×B))}{F:List (B×B)}{w w':World}{e:Ending}{q:Option Addr}{n d:Nat} (h:o=some F) (hn:F.length=n) (he:e= .returned (.tuple #[.slice q n d,.bool true])) (ho:OwnF w' w.heap.size (.slice q n d) F) (hb:Below w.heap.size w w'):FitP o w e w':=by subst h;subst hn;exact⟨q,d,he,ho,hb⟩
theorem fit_any (X:List B) (p:Option Addr) (n c:Nat) (hn:X.length=n) (hnn:n≤64) (hX:∀ x∈X,x.length≤256) (t:B) (ht:t.length≤140737488355328) (w:World) (hmx:MxAt w) (hG:SgAt w p X):
  Calls Tryz.prog 111 #[.slice p n c,.string (str (47::t))] w fun e w'=>FitP (fitL X t true) w e w':=by
 obtain⟨i0,hi0,hz0,hz1,hz2⟩:=info_parts infoF;have HN:=hid hn;have HX:=hid hX;have HG:=hid hG;have HMx:=hid hmx;obtain⟨S,hS⟩:∃ S,str (47::t)=S:=⟨_,rfl⟩;obtain⟨N,hN⟩:∃ N,(47::t:B).length=N:=⟨_,rfl⟩;have hN1:t.length+1=N:=by rw [←hN];rfl
 have hSn:S.size=N:=by rw [←hS,str_size,hN]
 have he:S.extract 1 N=str t:=by rw [←hS,ext_drop _ 1 N hN];rfl
 obtain⟨St,hSt⟩:∃ S,str t=S:=⟨_,rfl⟩;have HSt:=hid hSt;have HTl:=hid ht;rw [hSt] at he;rw [hS];have hNb:N≤140737488355329:=by omega
 have hN1':1≤N:=by omega
 clear hn hX hG hmx hS hN hN1 hSt ht;go_enter Tryz.func111,Tryz.ntmps111;go_wp2;go_quiet (fail);go_wp2;go_loopg [6,7,8,9,16] (n+1) (fun gk s6 s7 s8 s9 s16 wr=>∃ (i k d:Nat) (q:Option Addr) (acc:List (B×B)) (left:B) (more:Bool) (s:ByteArray),i≤n∧gk=n-i+1∧s16= .int .i64 (i:Int)∧s7= .string s∧s8= .string (str left)∧s9= .bool more∧s6= .slice q k d∧acc.length=k∧k≤i∧left.length≤140737488355328∧OwnF wr w.heap.size (.slice q k d) acc∧fitL X t true=(fitL (X.drop i) left more).map (acc++ ·)∧Below w.heap.size w wr)
 case atStart=>exact⟨0,0,0,none,[],t,true,_,by omega,rfl,rfl,rfl,by rw [HSt.out],rfl,rfl,rfl,by omega,HTl.out,OwnF.nil _ _,by rw [List.drop_zero];cases fitL X t true <;> simp,below_drew (Below.refl _ _) _⟩
 case round=>
  obtain⟨i,k,d,q,acc,left,more,s0,hi,rfl,rfl,rfl,rfl,rfl,rfl,hacc,hki,hll,hO,hE,hb⟩:=hrel;have HE:=hid hE;have HB:=hid hb;have HO:=hid hO;have HAc:=hid hacc;clear hE hb hO hacc;by_cases hin:i<n
  · obtain⟨x,hx⟩:∃ x,X[i]?=some x:=⟨_,List.getElem?_eq_getElem (by rw [HN.out];exact hin)⟩;have HD:=hid (drop_at hx);rw [HD.out] at HE;obtain⟨g1,o1,rfl,q1,q2⟩:=(HG.out.next HB.out) i x hx;obtain⟨T,hT⟩:∃ T,str (segX x)=T:=⟨_,rfl⟩;have HTs:=hid hT;have hk2:=kindT_le x;have hxl:=HX.out x (List.mem_of_getElem? hx);cases more with
    |false=>
     have HV:=hid (show fitL X t true=none from by rw [HE.out];rfl);obtain⟨K,hK⟩:∃ K:Int,(kindT x:Int)=K:=⟨_,rfl⟩;rw [hT] at q2;rw [hK] at q1;clear hx hT hK hk2 hxl;go_wp2;go_ret2;exact fitP_no HV.out rfl (HB.out.trans ((below_new wr _).mono HB.out.size))
    |true=>
     have HTk:=hid (fun (W:World) (h:MxAt W)=>take_any x left hll W h);have HFt:=hid (fun (W:World)=>sfits_any x (takeT x left).1 W);obtain⟨hl1,hl2⟩:=takeT_lens x left;have HStep:=hid (show fitL (x::X.drop (i+1)) left true=if fitT x (takeT x left).1 then (fitL (X.drop (i+1)) (takeT x left).2.1 (takeT x left).2.2).map (fun F=>if kindT x=0 then F else (segX x,(takeT x left).1)::F) else none from rfl);obtain⟨⟨a,b,m⟩,hab⟩:∃ r,takeT x left=r:=⟨_,rfl⟩;rw [hab] at HTk HFt HStep hl1 hl2;dsimp only at HTk HFt HStep hl1 hl2;obtain⟨Sa,hSa⟩:∃ S,str a=S:=⟨_,rfl⟩;have HSa:=hid hSa;have HLb:=hid (show b.length≤140737488355328 from Nat.le_trans hl2 hll);have HCa:=hid (fun W:World=>cloneT a W (by omega));have HCx:=hid (fun W:World=>cloneT (segX x) W (by have h:(segX x).length≤x.length:=by {unfold segX;split;exact Nat.le_refl _;rw [List.length_tail];omega};omega));obtain⟨L,hL⟩:∃ L,str left=L:=⟨_,rfl⟩;obtain⟨K,hK⟩:∃ K:Int,(kindT x:Int)=K:=⟨_,rfl⟩;rw [hT,hK,hL,hSa] at HTk;rw [hT,hK,hSa] at HFt;rw [hSa] at HCa;rw [hT] at HCx;rw [hT] at q2;rw [hK] at q1;rw [hL];have HBr:=hid (show Below w.heap.size w (wr.alloc (.cells #[.int .i64 K,.string T] 174 (0,0))) from HB.out.trans ((below_new wr _).mono HB.out.size));have HBn:=hid (below_new wr (.cells #[.int .i64 K,.string T] 174 (0,0)));have HMr:=hid (HMx.out.next HBr.out);have hcN:=cells_new wr [.int .i64 K,.string T] 174;have hc0:=hcN 0 _ rfl;have hc1:=hcN 1 _ rfl;rw [add_off] at hc0 hc1;have HC0:=hid hc0;have HC1:=hid hc1;clear hcN hc0 hc1;cases hft:fitT x a with
     |false=>
      rw [hft] at HFt;have HV:=hid (show fitL X t true=none from by rw [HE.out,HStep.out,hft];rfl);clear hx hT hK hk2 hxl hab hSa hL hft hl1 hl2 hll;go_wp2_with (first|(go_at_call 142;(with_reducible refine(HTk.out _ HMr.out).mono ?_);rintro e wa ⟨rfl,hba⟩;have HBa:=hid hba;have q3:=cell_keep hba HC0.out;have q4:=cell_keep hba HC1.out;clear hba)|(go_at_call 143;(with_reducible refine(HFt.out _).mono ?_);rintro e wb ⟨rfl,hbb⟩;have HBb:=hid hbb;clear hbb));go_ret2;exact fitP_no HV.out rfl ((HBr.out.trans (HBa.out.mono HBr.out.size)).trans (HBb.out.mono (Nat.le_trans HBr.out.size HBa.out.size)))
     |true=>
      rw [hft] at HFt;by_cases h0:kindT x=0
      · have HV:=hid (show fitL X t true=(fitL (X.drop (i+1)) b m).map (acc++ ·) from by
         rw [HE.out,HStep.out,hft,if_pos rfl];simp only [if_pos h0,Option.map_id'])
        obtain rfl:(0:Int)=K:=by rw [←hK,h0];rfl
        clear hx hT hK hk2 hxl hab hSa hL hft hl1 hl2 hll h0;go_wp2_with (first|(go_at_call 142;(with_reducible refine(HTk.out _ HMr.out).mono ?_);rintro e wa ⟨rfl,hba⟩;have HBa:=hid hba;have q3:=cell_keep hba HC0.out;have q4:=cell_keep hba HC1.out;have HQ3:=hid q3;have HQ4:=hid q4;clear hba)|(go_at_call 143;(with_reducible refine(HFt.out _).mono ?_);rintro e wb ⟨rfl,hbb⟩;have HBb:=hid hbb;have q5:=cell_keep hbb HQ3.out;have q6:=cell_keep hbb HQ4.out;clear hbb));go_roundg (n-(i+1)+1)
        case measure=>omega
        case rel=>exact⟨i+1,k,d,q,acc,b,m,_,by omega,rfl,by push_cast;go_num,rfl,rfl,rfl,rfl,HAc.out,by omega,HLb.out,HO.out.keep (HBn.out.trans ((HBa.out.mono HBn.out.size).trans (HBb.out.mono (Nat.le_trans HBn.out.size HBa.out.size)))),HV.out,(HBr.out.trans (HBa.out.mono HBr.out.size)).trans (HBb.out.mono (Nat.le_trans HBr.out.size HBa.out.size))⟩
      · have HV:=hid (show fitL X t true=(fitL (X.drop (i+1)) b m).map ((acc++ [(segX x,a)])++ ·) from by
         rw [HE.out,HStep.out,hft,if_pos rfl];simp only [if_neg h0,Option.map_map];congr 1;funext F;simp)
        have hK0:(K== 0)=false:=by simp;rw [←hK];omega
        have hK9:(K != 0)=true:=by simp;rw [←hK];omega
        clear hx hT hK hk2 hxl hab hSa hL hft hl1 hl2 hll h0;go_wp2_with (first|(go_at_call 142;(with_reducible refine(HTk.out _ HMr.out).mono ?_);rintro e wa ⟨rfl,hba⟩;have HBa:=hid hba;have q3:=cell_keep hba HC0.out;have q4:=cell_keep hba HC1.out;have HQ3:=hid q3;have HQ4:=hid q4;clear hba)|(go_at_call 143;(with_reducible refine(HFt.out _).mono ?_);rintro e wb ⟨rfl,hbb⟩;have HBb:=hid hbb;have q5:=cell_keep hbb HQ3.out;have q6:=cell_keep hbb HQ4.out;clear hbb)|(go_at_call 58;first|((with_reducible refine(HCx.out _).mono ?_);rintro e wd ⟨rfl,hbd⟩;have HBd:=hid hbd;clear hbd HCx)|((with_reducible refine(HCa.out _).mono ?_);rintro e wc ⟨rfl,hbc⟩;have HBcc:=hid hbc;have HBq:=hid (((HBa.out.mono HBn.out.size).trans (HBb.out.mono (Nat.le_trans HBn.out.size HBa.out.size))).trans ((HBd.out.mono (Nat.le_trans HBn.out.size (Nat.le_trans HBa.out.size HBb.out.size))).trans (hbc.mono (Nat.le_trans HBn.out.size (Nat.le_trans HBa.out.size (Nat.le_trans HBb.out.size HBd.out.size))))));have HBc:=hid (HBr.out.trans (HBq.out.mono HB.out.size));have HOc:=hid (HO.out.keep (HBn.out.trans HBq.out));clear hbc))|(at_builtin;refine wpList_append_own_at _ rfl (.tmp 36) (.tmp 43) 45 rfl w.heap.size 73 i0 _ 2 32 Tryz.underlying45 hi0 hz0 hz1 hz2 rfl (by decide) (.slice q k d) k (fldC acc) (by go_simp) (by have h8:=HOc.out.alloc (.cells #[.string T,.string Sa] 73 (0,0));unfold OwnF at h8;rw [HAc.out] at h8;exact h8) ⟨wc.heap.size,0,none⟩ 1 1 [.string T,.string Sa] (by go_simp) rfl (cells_new wc _ _) (by simp [Value.oneCell']) (by unfold maxLen;omega) (by omega) (by have h1:=HBc.out.size;simp;omega) ?_;intro v' wf hown hgr _ _;obtain⟨p7,L7,c7,rfl⟩:=own_slice3 hown;have HFw:=hid (show OwnF wf w.heap.size (.slice p7 L7 c7) (acc++ [(segX x,a)]) from OwnF.put (by rw [HAc.out,HTs.out,HSa.out];exact hown));have HBf:=hid (HBc.out.trans (((below_new wc (.cells #[.string T,.string Sa] 73 (0,0))).mono HBc.out.size).trans (OwnF.below (HOc.out.alloc (.cells #[.string T,.string Sa] 73 (0,0))) (Nat.le_trans HBc.out.size (below_new _ _).size) hgr)));obtain⟨hL7,_⟩:L7=k+1∧True:=⟨row_len hown,trivial⟩;subst hL7;clear hown hgr));go_roundg (n-(i+1)+1)
        case measure=>omega
        case rel=>exact⟨i+1,k+1,c7,p7,acc++ [(segX x,a)],b,m,_,by omega,rfl,by push_cast;go_num,rfl,rfl,rfl,rfl,by rw [List.length_append,HAc.out];rfl,by omega,HLb.out,HFw.out,HV.out,HBf.out⟩
  · obtain rfl:n=i:=by omega
    have HDn:=hid (show X.drop n= [] from List.drop_of_length_le (by rw [HN.out];exact Nat.le_refl _));rw [HDn.out] at HE;obtain⟨L,hL⟩:∃ L,str left=L:=⟨_,rfl⟩;rw [hL];clear hL;cases more with
    |true=>
     go_wp2;go_ret2;exact fitP_no (by rw [HE.out];rfl) rfl HB.out
    |false=>
     go_wp2;go_ret2;exact fitP_yes (by rw [HE.out];show some (acc++ [])=_;rw [List.append_nil]) HAc.out rfl HO.out HB.out
end Go.Proofs.YtlmlljlappjjjaaGreatDoor
