/- Whether a pattern's segments fit a path, by the program. -/
import Derived.Test.YtlmlljlappjjjaaGreatDoorTSegs
namespace Go.Proofs.YtlmlljlappjjjaaGreatDoor
set_option maxRecDepth 20000
set_option maxHeartbeats 16000000
open Go.RowKit
def takeT (x left:B):B×B×Bool:=if kindT x=2 then (left,[],false) else cutF 47 left
def fitT (x t:B):Bool:=if kindT x=0 then decide (t=x) else if kindT x=1 then decide (t≠ []) else true
def fitL:List B→B→Bool→Option (List (B×B))
 | [],_,more=>if more then none else some []
 |x::l,left,more=>if more then (if fitT x (takeT x left).1 then (fitL l (takeT x left).2.1 (takeT x left).2.2).map (fun F=>if kindT x=0 then F else (segX x,(takeT x left).1)::F) else none) else none
theorem rest_tail {x:B}{l:List B} (h:restLast (x::l)=true):restLast l=true∧(kindT x=2→l= []):=by
 cases l with
 |nil=>exact⟨rfl,fun _=>rfl⟩
 |cons y m=>
  simp [restLast] at h;exact⟨h.2,fun e=>absurd e h.1⟩
theorem fitL_same:∀ (l:List B) (left:B) (more:Bool),restLast l=true→fitL l left more=fitsT l (if more then cutT left else [])
 | [],left,true,_=>by
  cases h:cutT left with
  |nil=>exact absurd h (cutT_ne left)
  |cons y r=>simp [fitL,fitsT]
 | [],left,false,_=>rfl
 |x::l,left,false,_=>rfl
 |x::l,left,true,hr=>by
  obtain⟨hr1,hr2⟩:=rest_tail hr;have hk:=kindT_le x;have e:fitL (x::l) left true=if fitT x (takeT x left).1 then (fitL l (takeT x left).2.1 (takeT x left).2.2).map (fun F=>if kindT x=0 then F else (segX x,(takeT x left).1)::F) else none:=rfl
  rw [e,if_pos rfl];by_cases h2:kindT x=2
  · have hl:=hr2 h2;subst hl;have e1:takeT x left=(left,[],false):=by unfold takeT;rw [if_pos h2]
    have e2:∀ t,fitT x t=true:=fun t=>by unfold fitT;rw [if_neg (by omega),if_neg (by omega)]
    have e3:segX x=x.tail:=by unfold segX;rw [if_neg (by omega)]
    rw [e1,e2,if_pos rfl,cutT_cut left,fitsT,if_pos h2,←cutT_cut left,joinT_cut,e3];show some (if kindT x=0 then [] else [(x.tail,left)])=_;rw [if_neg (by omega)]
  · have e1:takeT x left=cutF 47 left:=by unfold takeT;rw [if_neg h2]
    have ih:=fitL_same l (cutF 47 left).2.1 (cutF 47 left).2.2 hr1;rw [e1,ih,cutT_cut left,fitsT,if_neg h2];by_cases h1:kindT x=1
    · have e3:segX x=x.tail:=by unfold segX;rw [if_neg (by omega)]
      rw [if_pos h1,e3];by_cases hn:(cutF 47 left).1= []
      · rw [if_pos hn,if_neg (by unfold fitT;rw [if_neg (by omega),if_pos h1,hn];simp)]
      · rw [if_neg hn,if_pos (by unfold fitT;rw [if_neg (by omega),if_pos h1];simpa using hn)];congr 1;funext F;rw [if_neg (by omega)]
    · have h0:kindT x=0:=by omega
      rw [if_neg h1];by_cases hn:x=(cutF 47 left).1
      · rw [if_pos hn,if_pos (by unfold fitT;rw [if_pos h0];exact decide_eq_true hn.symm)];simp only [if_pos h0,Option.map_id']
      · rw [if_neg hn,if_neg (by unfold fitT;rw [if_pos h0];simpa using fun e=>hn e.symm)]
theorem cutF_lensT (left:B):(cutF 47 left).1.length≤left.length∧(cutF 47 left).2.1.length≤left.length:=by
 have:=cutF_lens 47 left;omega
theorem takeT_lens (x left:B):(takeT x left).1.length≤left.length∧(takeT x left).2.1.length≤left.length:=by
 unfold takeT;split
 · simp
 · exact cutF_lensT left
theorem take_any (x left:B) (hl:left.length≤140737488355328) (w:World) (hmx:MxAt w):Calls Tryz.prog 142 #[.agg #[.int .i64 (kindT x:Int),.string (str (segX x))],.string (str left)] w fun e w'=>e= .returned (.tuple #[.string (str (takeT x left).1),.string (str (takeT x left).2.1),.bool (takeT x left).2.2])∧Below w.heap.size w w':=by
 obtain⟨T,hT⟩:∃ T,str (segX x)=T:=⟨_,rfl⟩;obtain⟨L,hL⟩:∃ L,str left=L:=⟨_,rfl⟩;rw [hT];by_cases h2:kindT x=2
 · have e1:takeT x left=(left,[],false):=by unfold takeT;rw [if_pos h2]
   rw [e1,h2];dsimp only;rw [hL,show str []=⟨#[]⟩ from rfl];clear hT hL e1 h2 hmx;go_enter Tryz.func142,Tryz.ntmps142;go_wp2;go_ret3;exact⟨rfl,below_new w _⟩
 · have e1:takeT x left=cutF 47 left:=by unfold takeT;rw [if_neg h2]
   have HC:=hid (fun (W:World) (h:MxAt W)=>pcutT left hl W h);have hmx2:=hmx.next (below_new w (.cells #[.int .i64 (kindT x:Int),.string T] 174 (0,0)))
   rw [e1];obtain⟨K,hK⟩:∃ K:Int,(kindT x:Int)=K:=⟨_,rfl⟩;have hK2:(K== 2)=false:=by simp;rw [←hK];omega
   obtain⟨a,ha⟩:∃ a,cutF 47 left=a:=⟨_,rfl⟩;rw [ha] at HC ⊢;obtain⟨A1,hA1⟩:∃ A,str a.1=A:=⟨_,rfl⟩;obtain⟨A2,hA2⟩:∃ A,str a.2.1=A:=⟨_,rfl⟩;rw [hA1,hA2,hL] at HC;rw [hA1,hA2,hK,hL];rw [hK] at hmx2;clear hT hL e1 h2 ha hA1 hA2 hK;go_enter Tryz.func142,Tryz.ntmps142;go_wp2_with (go_at_call 80;(with_reducible refine(HC.out _ hmx2).mono ?_);rintro e w1 ⟨rfl,z,rfl⟩);go_ret3;exact⟨rfl,below_drew (below_new w _) _⟩
theorem sfits_any (x t:B) (w:World):Calls Tryz.prog 143 #[.agg #[.int .i64 (kindT x:Int),.string (str (segX x))],.string (str t)] w fun e w'=>e= .returned (.bool (fitT x t))∧Below w.heap.size w w':=by
 have hk:=kindT_le x;obtain⟨X,hX⟩:∃ X,str (segX x)=X:=⟨_,rfl⟩;obtain⟨T,hT⟩:∃ T,str t=T:=⟨_,rfl⟩;rw [hX,hT];by_cases h0:kindT x=0
 · have e3:segX x=x:=by unfold segX;rw [if_pos h0]
   rw [e3] at hX;rw [h0];by_cases ht:t=x
   · have e1:fitT x t=true:=by unfold fitT;rw [if_pos h0];exact decide_eq_true ht
     obtain rfl:X=T:=by rw [←hX,←hT,ht]
     rw [e1];clear hX hT e1 e3 h0 hk ht;go_enter Tryz.func143,Tryz.ntmps143;go_wp2;go_ret;exact⟨rfl,below_new w _⟩
   · have e1:fitT x t=false:=by unfold fitT;rw [if_pos h0];exact decide_eq_false ht
     have hne:¬T=X:=fun e=>ht (str_inj (by rw [hX,hT];exact e))
     have hne2:(T.toList== X.toList)=false:=ne_list hne;rw [e1];clear hX hT e1 e3 h0 hk ht;go_enter Tryz.func143,Tryz.ntmps143;go_wp2;go_ret;exact⟨rfl,below_new w _⟩
 · by_cases h1:kindT x=1
   · rw [h1];by_cases ht:t= []
     · have e1:fitT x t=false:=by unfold fitT;rw [if_neg h0,if_pos h1,ht];rfl
       obtain rfl:(⟨#[]⟩:ByteArray)=T:=by rw [←hT,ht]
       rw [e1];clear hX hT e1 h0 h1 hk ht;go_enter Tryz.func143,Tryz.ntmps143;go_wp2;go_ret;exact⟨rfl,below_new w _⟩
     · have e1:fitT x t=true:=by unfold fitT;rw [if_neg h0,if_pos h1];exact decide_eq_true ht
       have hne:¬T=(⟨#[]⟩:ByteArray):=fun e=>ht (str_inj (by rw [hT,e]))
       have hne2:(T.toList== (⟨#[]⟩:ByteArray).toList)=false:=ne_list hne;have hne3:T.toList.isEmpty=false:=ne_empty hne;have hne4:(T.toList== [])=false:=by have h:=hne2;rw [ByteArray.toList_eq,ByteArray.toList_eq] at h;rw [ByteArray.toList_eq];exact h
       rw [e1];clear hX hT e1 h0 h1 hk ht;go_enter Tryz.func143,Tryz.ntmps143;go_wp2;go_ret;exact⟨by first|rfl|simp [hne3],below_new w _⟩
   · obtain h2:kindT x=2:=by omega
     have e1:fitT x t=true:=by unfold fitT;rw [if_neg h0,if_neg h1]
     rw [e1,h2];clear hX hT e1 h0 h1 hk h2;go_enter Tryz.func143,Tryz.ntmps143;go_wp2;go_ret;exact⟨rfl,below_new w _⟩
def SgAt (w:World) (p:Option Addr) (l:List B):Prop:=∀ (j:Nat) (x:B),l[j]?=some x→∃ g o,p=some ⟨g,o,none⟩∧w.cell? ⟨g,o+j*2,none⟩=some (.int .i64 (kindT x:Int))∧w.cell? ⟨g,o+j*2+1,none⟩=some (.string (str (segX x)))
theorem SgAt.next {w w':World}{p:Option Addr}{l:List B} (h:SgAt w p l) (hb:Below w.heap.size w w'):SgAt w' p l:=by
 intro j x hj;obtain⟨g,o,e,h1,h2⟩:=h j x hj;exact⟨g,o,e,cell_keep hb h1,cell_keep hb h2⟩
theorem segF_len (x:B):(segF x).length=2:=rfl
theorem OwnG.sg {w:World}{b n c:Nat}{p:Option Addr}{l:List B} (h:OwnG w b (.slice p n c) l):SgAt w p l:=by
 intro j x hj;obtain⟨g,e,hc⟩:=OwnR_r.at segF_len h hj;refine⟨g,0,e,?_,?_⟩
 · have:=hc 0 _ rfl;rw [Nat.zero_add,Nat.mul_comm];exact this
 · have:=hc 1 _ rfl;rw [Nat.zero_add,Nat.mul_comm];exact this
def FitP (o:Option (List (B×B))) (w:World) (e:Ending) (w':World):Prop:=match o with
 |none=>e= .returned (.tuple #[.slice none 0 0,.bool false])∧Below w.heap.size w w'
 |some F=>∃ q d,e= .returned (.tuple #[.slice q F.length d,.bool true])∧OwnF w' w.heap.size (.slice q F.length d) F∧Below w.heap.size w w'
theorem fitP_no {o:Option (List (B×B))}{w w':World}{e:Ending} (h:o=none) (he:e= .returned (.tuple #[.slice none 0 0,.bool false])) (hb:Below w.heap.size w w'):FitP o w e w':=by subst h;exact⟨he,hb⟩
theorem fitP_yes {o:Option (List (B×B))}{F:List (B×B)}{w w':World}{e:Ending}{q:Option Addr}{n d:Nat} (h:o=some F) (hn:F.length=n) (he:e= .returned (.tuple #[.slice q n d,.bool true])) (ho:OwnF w' w.heap.size (.slice q n d) F) (hb:Below w.heap.size w w'):FitP o w e w':=by subst h;subst hn;exact⟨q,d,he,ho,hb⟩
theorem fit_any (X:List B) (p:Option Addr) (n c:Nat) (hn:X.length=n) (hnn:n≤64) (hX:∀ x∈X,x.length≤256) (t:B) (ht:t.length≤140737488355328) (w:World) (hmx:MxAt w) (hG:SgAt w p X):
  Calls Tryz.prog 111 #[.slice p n c,.string (str (47::t))] w fun e w'=>FitP (fitL X t true) w e w':=by
 obtain⟨i0,hi0,hz0,hz1,hz2⟩:=info_parts infoF;have HN:=hid hn;have HX:=hid hX;have HG:=hid hG;have HMx:=hid hmx;obtain⟨S,hS⟩:∃ S,str (47::t)=S:=⟨_,rfl⟩;obtain⟨N,hN⟩:∃ N,(47::t:B).length=N:=⟨_,rfl⟩;have hN1:t.length+1=N:=by rw [←hN];rfl
 have hSn:S.size=N:=by rw [←hS,str_size,hN]
 have he:S.extract 1 N=str t:=by rw [←hS,ext_drop _ 1 N hN];rfl
 obtain⟨St,hSt⟩:∃ S,str t=S:=⟨_,rfl⟩;have HSt:=hid hSt;have HTl:=hid ht;rw [hSt] at he;rw [hS];have hNb:N≤140737488355329:=by omega
 have hN1':1≤N:=by omega
 clear hn hX hG hmx hS hN hN1 hSt ht;go_enter Tryz.func111,Tryz.ntmps111;go_wp2;go_quiet (fail);go_wp2;go_loopg [6,7,8,9,16] (n+1) (fun gk s6 s7 s8 s9 s16 wr=>∃ (i k d:Nat) (q:Option Addr) (acc:List (B×B)) (left:B) (more:Bool) (s:ByteArray),i≤n∧gk=n-i+1∧s16= .int .i64 (i:Int)∧s7= .string s∧s8= .string (str left)∧s9= .bool more∧s6= .slice q k d∧acc.length=k∧k≤i∧left.length≤140737488355328∧OwnF wr w.heap.size (.slice q k d) acc∧fitL X t true=(fitL (X.drop i) left more).map (acc++ ·)∧Below w.heap.size w wr)
 case atStart=>exact⟨0,0,0,none,[],t,true,_,by omega,rfl,rfl,rfl,by rw [HSt.out],rfl,rfl,rfl,by omega,HTl.out,OwnF.nil _ _,by rw [List.drop_zero];cases fitL X t true <;> simp,below_drew (Below.refl _ _) _⟩
 case round=>
  obtain⟨i,k,d,q,acc,left,more,s0,hi,rfl,rfl,rfl,rfl,rfl,rfl,hacc,hki,hll,hO,hE,hb⟩:=hrel;have HE:=hid hE;have HB:=hid hb;have HO:=hid hO;have HAc:=hid hacc;clear hE hb hO hacc;by_cases hin:i<n
  · obtain⟨x,hx⟩:∃ x,X[i]?=some x:=⟨_,List.getElem?_eq_getElem (by rw [HN.out];exact hin)⟩;have HD:=hid (drop_at hx);rw [HD.out] at HE;obtain⟨g1,o1,rfl,q1,q2⟩:=(HG.out.next HB.out) i x hx;obtain⟨T,hT⟩:∃ T,str (segX x)=T:=⟨_,rfl⟩;have HTs:=hid hT;have hk2:=kindT_le x;have hxl:=HX.out x (List.mem_of_getElem? hx);cases more with
    |false=>
     have HV:=hid (show fitL X t true=none from by rw [HE.out];rfl);obtain⟨K,hK⟩:∃ K:Int,(kindT x:Int)=K:=⟨_,rfl⟩;rw [hT] at q2;rw [hK] at q1;clear hx hT hK hk2 hxl;go_wp2;go_ret2;exact fitP_no HV.out rfl (HB.out.trans ((below_new wr _).mono HB.out.size))
    |true=>
     have HTk:=hid (fun (W:World) (h:MxAt W)=>take_any x left hll W h);have HFt:=hid (fun (W:World)=>sfits_any x (takeT x left).1 W);obtain⟨hl1,hl2⟩:=takeT_lens x left;have HStep:=hid (show fitL (x::X.drop (i+1)) left true=if fitT x (takeT x left).1 then (fitL (X.drop (i+1)) (takeT x left).2.1 (takeT x left).2.2).map (fun F=>if kindT x=0 then F else (segX x,(takeT x left).1)::F) else none from rfl);obtain⟨⟨a,b,m⟩,hab⟩:∃ r,takeT x left=r:=⟨_,rfl⟩;rw [hab] at HTk HFt HStep hl1 hl2;dsimp only at HTk HFt HStep hl1 hl2;obtain⟨Sa,hSa⟩:∃ S,str a=S:=⟨_,rfl⟩;have HSa:=hid hSa;have HLb:=hid (show b.length≤140737488355328 from Nat.le_trans hl2 hll);have HCa:=hid (fun W:World=>cloneT a W (by omega));have HCx:=hid (fun W:World=>cloneT (segX x) W (by have h:(segX x).length≤x.length:=by {unfold segX;split;exact Nat.le_refl _;rw [List.length_tail];omega};omega));obtain⟨L,hL⟩:∃ L,str left=L:=⟨_,rfl⟩;obtain⟨K,hK⟩:∃ K:Int,(kindT x:Int)=K:=⟨_,rfl⟩;rw [hT,hK,hL,hSa] at HTk;rw [hT,hK,hSa] at HFt;rw [hSa] at HCa;rw [hT] at HCx;rw [hT] at q2;rw [hK] at q1;rw [hL];have HBr:=hid (show Below w.heap.size w (wr.alloc (.cells #[.int .i64 K,.string T] 174 (0,0))) from HB.out.trans ((below_new wr _).mono HB.out.size));have HBn:=hid (below_new wr (.cells #[.int .i64 K,.string T] 174 (0,0)));have HMr:=hid (HMx.out.next HBr.out);have hcN:=cells_new wr [.int .i64 K,.string T] 174;have hc0:=hcN 0 _ rfl;have hc1:=hcN 1 _ rfl;rw [add_off] at hc0 hc1;have HC0:=hid hc0;have HC1:=hid hc1;clear hcN hc0 hc1;cases hft:fitT x a with
     |false=>
      rw [hft] at HFt;have HV:=hid (show fitL X t true=none from by rw [HE.out,HStep.out,hft];rfl);clear hx hT hK hk2 hxl hab hSa hL hft hl1 hl2 hll;go_wp2_with (first|(go_at_call 142;(with_reducible refine(HTk.out _ HMr.out).mono ?_);rintro e wa ⟨rfl,hba⟩;have HBa:=hid hba;have q3:=cell_keep hba HC0.out;have q4:=cell_keep hba HC1.out;clear hba)|(go_at_call 143;(with_reducible refine(HFt.out _).mono ?_);rintro e wb ⟨rfl,hbb⟩;have HBb:=hid hbb;clear hbb));go_ret2;exact fitP_no HV.out rfl ((HBr.out.trans (HBa.out.mono HBr.out.size)).trans (HBb.out.mono (Nat.le_trans HBr.out.size HBa.out.size)))
     |true=>
      rw [hft] at HFt;by_cases h0:kindT x=0
      · have HV:=hid (show fitL X t true=(fitL (X.drop (i+1)) b m).map (acc++ ·) from by
         rw [HE.out,HStep.out,hft,if_pos rfl];simp only [if_pos h0,Option.map_id'])
        obtain rfl:(0:Int)=K:=by rw [←hK,h0];rfl
        clear hx hT hK hk2 hxl hab hSa hL hft hl1 hl2 hll h0;go_wp2_with (first|(go_at_call 142;(with_reducible refine(HTk.out _ HMr.out).mono ?_);rintro e wa ⟨rfl,hba⟩;have HBa:=hid hba;have q3:=cell_keep hba HC0.out;have q4:=cell_keep hba HC1.out;have HQ3:=hid q3;have HQ4:=hid q4;clear hba)|(go_at_call 143;(with_reducible refine(HFt.out _).mono ?_);rintro e wb ⟨rfl,hbb⟩;have HBb:=hid hbb;have q5:=cell_keep hbb HQ3.out;have q6:=cell_keep hbb HQ4.out;clear hbb));go_roundg (n-(i+1)+1)
        case measure=>omega
        case rel=>exact⟨i+1,k,d,q,acc,b,m,_,by omega,rfl,by push_cast;go_num,rfl,rfl,rfl,rfl,HAc.out,by omega,HLb.out,HO.out.keep (HBn.out.trans ((HBa.out.mono HBn.out.size).trans (HBb.out.mono (Nat.le_trans HBn.out.size HBa.out.size)))),HV.out,(HBr.out.trans (HBa.out.mono HBr.out.size)).trans (HBb.out.mono (Nat.le_trans HBr.out.size HBa.out.size))⟩
      · have HV:=hid (show fitL X t true=(fitL (X.drop (i+1)) b m).map ((acc++ [(segX x,a)])++ ·) from by
         rw [HE.out,HStep.out,hft,if_pos rfl];simp only [if_neg h0,Option.map_map];congr 1;funext F;simp)
        have hK0:(K== 0)=false:=by simp;rw [←hK];omega
        have hK9:(K != 0)=true:=by simp;rw [←hK];omega
        clear hx hT hK hk2 hxl hab hSa hL hft hl1 hl2 hll h0;go_wp2_with (first|(go_at_call 142;(with_reducible refine(HTk.out _ HMr.out).mono ?_);rintro e wa ⟨rfl,hba⟩;have HBa:=hid hba;have q3:=cell_keep hba HC0.out;have q4:=cell_keep hba HC1.out;have HQ3:=hid q3;have HQ4:=hid q4;clear hba)|(go_at_call 143;(with_reducible refine(HFt.out _).mono ?_);rintro e wb ⟨rfl,hbb⟩;have HBb:=hid hbb;have q5:=cell_keep hbb HQ3.out;have q6:=cell_keep hbb HQ4.out;clear hbb)|(go_at_call 58;first|((with_reducible refine(HCx.out _).mono ?_);rintro e wd ⟨rfl,hbd⟩;have HBd:=hid hbd;clear hbd HCx)|((with_reducible refine(HCa.out _).mono ?_);rintro e wc ⟨rfl,hbc⟩;have HBcc:=hid hbc;have HBq:=hid (((HBa.out.mono HBn.out.size).trans (HBb.out.mono (Nat.le_trans HBn.out.size HBa.out.size))).trans ((HBd.out.mono (Nat.le_trans HBn.out.size (Nat.le_trans HBa.out.size HBb.out.size))).trans (hbc.mono (Nat.le_trans HBn.out.size (Nat.le_trans HBa.out.size (Nat.le_trans HBb.out.size HBd.out.size))))));have HBc:=hid (HBr.out.trans (HBq.out.mono HB.out.size));have HOc:=hid (HO.out.keep (HBn.out.trans HBq.out));clear hbc))|(at_builtin;refine wpList_append_own_at _ rfl (.tmp 36) (.tmp 43) 45 rfl w.heap.size 73 i0 _ 2 32 Tryz.underlying45 hi0 hz0 hz1 hz2 rfl (by decide) (.slice q k d) k (fldC acc) (by go_simp) (by have h8:=HOc.out.alloc (.cells #[.string T,.string Sa] 73 (0,0));unfold OwnF at h8;rw [HAc.out] at h8;exact h8) ⟨wc.heap.size,0,none⟩ 1 1 [.string T,.string Sa] (by go_simp) rfl (cells_new wc _ _) (by simp [Value.oneCell']) (by unfold maxLen;omega) (by omega) (by have h1:=HBc.out.size;simp;omega) ?_;intro v' wf hown hgr _ _;obtain⟨p7,L7,c7,rfl⟩:=own_slice3 hown;have HFw:=hid (show OwnF wf w.heap.size (.slice p7 L7 c7) (acc++ [(segX x,a)]) from OwnF.put (by rw [HAc.out,HTs.out,HSa.out];exact hown));have HBf:=hid (HBc.out.trans (((below_new wc (.cells #[.string T,.string Sa] 73 (0,0))).mono HBc.out.size).trans (OwnF.below (HOc.out.alloc (.cells #[.string T,.string Sa] 73 (0,0))) (Nat.le_trans HBc.out.size (below_new _ _).size) hgr)));obtain⟨hL7,_⟩:L7=k+1∧True:=⟨row_len hown,trivial⟩;subst hL7;clear hown hgr));go_roundg (n-(i+1)+1)
        case measure=>omega
        case rel=>exact⟨i+1,k+1,c7,p7,acc++ [(segX x,a)],b,m,_,by omega,rfl,by push_cast;go_num,rfl,rfl,rfl,rfl,by rw [List.length_append,HAc.out];rfl,by omega,HLb.out,HFw.out,HV.out,HBf.out⟩
  · obtain rfl:n=i:=by omega
    have HDn:=hid (show X.drop n= [] from List.drop_of_length_le (by rw [HN.out];exact Nat.le_refl _));rw [HDn.out] at HE;obtain⟨L,hL⟩:∃ L,str left=L:=⟨_,rfl⟩;rw [hL];clear hL;cases more with
    |true=>
     go_wp2;go_ret2;exact fitP_no (by rw [HE.out];rfl) rfl HB.out
    |false=>
     go_wp2;go_ret2;exact fitP_yes (by rw [HE.out];show some (acc++ [])=_;rw [List.append_nil]) HAc.out rfl HO.out HB.out
def lowI (c:Int):Bool:=digB c || (decide (97≤c) && decide (c≤122)) || decide (c=45) || decide (c=95)
def lowU (c:UInt8):Bool:=lowI (c.toNat:Int)
def isLabB (s:B):Bool:=s.all lowU && decide (s≠ []) && decide (s.length≤63)
theorem lowU_small (c:UInt8):lowU (smallU c)=hostU c:=by
 unfold lowU hostU lowI hostI;rw [smallU_val];have h1:=c.toNat_lt;unfold smallV;rw [Bool.eq_iff_iff];split <;> simp [digB] <;> omega
theorem smallU_eq {c x:UInt8} (hx:¬(65≤x.toNat∧x.toNat≤90)) (hx2:¬(97≤x.toNat∧x.toNat≤122)):smallU c=x↔c=x:=by
 unfold smallU;by_cases h:65≤c.toNat∧c.toNat≤90
 · rw [if_pos h];constructor
   · intro e;have:=congrArg UInt8.toNat e;rw [UInt8.toNat_ofNat'] at this;omega
   · intro e;subst e;exact absurd h hx
 · rw [if_neg h]
theorem cutH_low:∀ s:B,cutH (lowH s)=(cutH s).map lowH
 | []=>rfl
 |c::s=>by
  have ih:=cutH_low s;show cutH (smallU c::lowH s)=_;rw [cutH_cons,cutH_cons];have hd:smallU c=46↔c=46:=smallU_eq (by decide) (by decide);by_cases h:c=46
  · rw [if_pos (hd.2 h),if_pos h,ih];rfl
  · rw [if_neg (fun e=>h (hd.1 e)),if_neg h,ih];cases cutH s <;> rfl
theorem star_low (x:B):lowH x=starL↔x= [42]:=by
 cases x with
 |nil=>simp [lowH,starL]
 |cons c r=>
  cases r with
  |nil=>
   have:smallU c=42↔c=42:=smallU_eq (by decide) (by decide);simp [lowH,starL,this]
  |cons d r=>simp [lowH,starL]
theorem low_len (x:B):(lowH x).length=x.length:=by simp [lowH]
theorem low_all (x:B):(lowH x).all lowU=x.all hostU:=by
 unfold lowH;rw [List.all_map];congr 1;funext c;exact lowU_small c
def okP (wild:Bool) (x:B):Bool:=isLabB x || (wild && decide (x=starL))
theorem okP_low (wild:Bool) (x:B):okP wild (lowH x)=okLab wild x:=by
 unfold okP isLabB okLab;rw [low_all,low_len];have h0:(lowH x≠ [])↔1≤x.length:=by
  rw [←low_len x];cases lowH x <;> simp
 have hs:=star_low x;rw [Bool.eq_iff_iff];simp only [Bool.or_eq_true,Bool.and_eq_true,decide_eq_true_eq,h0,hs];constructor
 · rintro (⟨⟨h1,h2⟩,h3⟩|⟨h1,h2⟩)
   · exact⟨⟨h2,h3⟩,.inr h1⟩
   · exact⟨⟨by rw [h2];decide,by rw [h2];decide⟩,.inl ⟨h1,h2⟩⟩
 · rintro ⟨⟨h1,h2⟩,h3|h3⟩
   · exact .inr h3
   · exact .inl ⟨⟨h3,h1⟩,h2⟩
theorem labsH_low (wild:Bool) (s:B):labsH wild s=if 253<s.length then none else if (cutH (lowH s)).all (okP wild) then some (cutH (lowH s)) else none:=by
 unfold labsH;have e:(cutH (lowH s)).all (okP wild)=(cutH s).all (okLab wild):=by
  rw [cutH_low,List.all_map];congr 1;funext x;exact okP_low wild x
 by_cases h0:s= []
 · subst h0;cases wild <;> rfl
 · by_cases h1:253<s.length
   · rw [if_pos (.inr h1),if_pos h1]
   · rw [if_neg (fun h=>h.elim h0 h1),if_neg h1,e,cutH_low]
theorem lab_snoc (S:ByteArray) (k:Nat) (h:k<S.size):(S.data.toList.take (k+1)).all lowU=((S.data.toList.take k).all lowU && lowI (S[k].toNat:Int)):=by
 rw [List.take_succ_eq_append_getElem (by simpa using h),List.all_append];simp [lowU];rfl
theorem lab_stop (S:ByteArray) (k:Nat) (h:k<S.size) (hv:lowI (S[k].toNat:Int)=false):isLabB S.data.toList=false:=by
 unfold isLabB;have:S.data.toList.all lowU=false:=by
  rw [List.all_eq_false];exact⟨S[k],List.getElem_mem (by simpa using h),by unfold lowU;rw [hv];simp⟩
 rw [this];rfl
theorem lab_end (S:ByteArray) (h:(S.data.toList.take S.size).all lowU=true):isLabB S.data.toList=(decide (¬S=⟨#[]⟩) && decide (S.size≤63)):=by
 unfold isLabB;rw [List.take_of_length_le (by simp)] at h;rw [h,Bool.true_and];congr 1;rw [Bool.eq_iff_iff];simp only [decide_eq_true_eq];constructor
 · intro h1 e;subst e;exact h1 rfl
 · intro h1 e;exact h1 (arr_inj e)
theorem isLabel_arr (S:ByteArray) (w:World) (hs:S.size≤140737488355328):
  Calls Tryz.prog 139 #[.string S] w fun e w'=>e= .returned (.bool (isLabB S.data.toList))∧w'=w:=by
 go_enter Tryz.func139,Tryz.ntmps139;go_wp2;go_loop [7] (fun i=>∃ k:Nat,k≤S.size∧i= .int .i64 k∧(S.data.toList.take k).all lowU=true) (fun i=>S.size-(intOf i).toNat)
 case atStart=>exact⟨0,Nat.zero_le _,rfl,rfl⟩
 case round=>
  obtain⟨k,hk,rfl,hall⟩:=hrel;by_cases hlt:k<S.size
  · have hb:=S[k].toNat_lt;have HG:=hid (show lowI (S[k].toNat:Int)=true→(S.data.toList.take (k+1)).all lowU=true from fun h=>by rw [lab_snoc S k hlt,hall,h];rfl);have HF:=hid (show lowI (S[k].toNat:Int)=false→isLabB S.data.toList=false from lab_stop S k hlt);clear hall;obtain⟨Y,hY⟩:∃ Y,S[k].toNat=Y:=⟨_,rfl⟩;rw [hY] at HG HF hb;cases hd:digB (Y:Int) with
    |true=>
     go_wp2_with (go_at_call 116;refine(digit_any _ _ (by omega) (by omega)).mono ?_;rintro e w' ⟨rfl,rfl⟩);go_round
     case rel=>exact⟨k+1,by omega,by go_num,HG.out (by unfold lowI;simp [hd])⟩
     case measure=>simp [intOf];omega
    |false=>
     by_cases h97:Y<97
     · have i97:(Y:Int)<97:=by omega
       by_cases h45:Y=45
       · have i45:(Y:Int)=45:=by omega
         have j45:((Y:Int) != 45)=false:=by rw [i45];rfl
         go_wp2_with (go_at_call 116;refine(digit_any _ _ (by omega) (by omega)).mono ?_;rintro e w' ⟨rfl,rfl⟩);go_round
         case rel=>exact⟨k+1,by omega,by go_num,HG.out (by unfold lowI;simp [i45])⟩
         case measure=>simp [intOf];omega
       · have i45:¬(Y:Int)=45:=by omega
         have j45:((Y:Int) != 45)=true:=by simpa using i45
         by_cases h95:Y=95
         · have i95:(Y:Int)=95:=by omega
           have j95:((Y:Int) != 95)=false:=by rw [i95];rfl
           go_wp2_with (go_at_call 116;refine(digit_any _ _ (by omega) (by omega)).mono ?_;rintro e w' ⟨rfl,rfl⟩);go_round
           case rel=>exact⟨k+1,by omega,by go_num,HG.out (by unfold lowI;simp [i95])⟩
           case measure=>simp [intOf];omega
         · have i95:¬(Y:Int)=95:=by omega
           have j95:((Y:Int) != 95)=true:=by simpa using i95
           go_wp2_with (go_at_call 116;refine(digit_any _ _ (by omega) (by omega)).mono ?_;rintro e w' ⟨rfl,rfl⟩);go_ret;exact⟨ret_bool (HF.out (by unfold lowI;simp [hd];omega)).symm,rfl⟩
     · have i97:¬(Y:Int)<97:=by omega
       by_cases h122:122<Y
       · have i122:(122:Int)<(Y:Int):=by omega
         have i45:¬(Y:Int)=45:=by omega
         have j45:((Y:Int) != 45)=true:=by simpa using i45
         have i95:¬(Y:Int)=95:=by omega
         have j95:((Y:Int) != 95)=true:=by simpa using i95
         go_wp2_with (go_at_call 116;refine(digit_any _ _ (by omega) (by omega)).mono ?_;rintro e w' ⟨rfl,rfl⟩);go_ret;exact⟨ret_bool (HF.out (by unfold lowI;simp [hd];omega)).symm,rfl⟩
       · have i122:¬(122:Int)<(Y:Int):=by omega
         have i1:(97:Int)≤(Y:Int):=by omega
         have i2:(Y:Int)≤122:=by omega
         go_wp2_with (go_at_call 116;refine(digit_any _ _ (by omega) (by omega)).mono ?_;rintro e w' ⟨rfl,rfl⟩);go_round
         case rel=>exact⟨k+1,by omega,by go_num,HG.out (by unfold lowI;simp [i1,i2])⟩
         case measure=>simp [intOf];omega
  · obtain rfl:k=S.size:=by omega
    have HE:=hid (lab_end S hall);clear hall;by_cases h0:S=⟨#[]⟩
    · subst h0;go_wp2;go_ret;exact⟨ret_bool (by rw [HE.out];rfl),rfl⟩
    · have hne2:(S.toList== (⟨#[]⟩:ByteArray).toList)=false:=ne_list h0;have hne3:S.toList.isEmpty=false:=ne_empty h0;have hne4:(S.toList== [])=false:=by have h:=hne2;rw [ByteArray.toList_eq,ByteArray.toList_eq] at h;rw [ByteArray.toList_eq];exact h
      go_wp2;go_ret;exact⟨ret_bool (by rw [HE.out];simp [h0];try omega),rfl⟩
theorem isLabel_any (x:B) (w:World) (hs:x.length≤140737488355328):
 Calls Tryz.prog 139 #[.string (str x)] w fun e w'=>e= .returned (.bool (isLabB x))∧w'=w:=isLabel_arr (str x) w (by rw [str_size];exact hs)
theorem below_low (s:B) (w:World) (hs:s.length≤253):Calls Tryz.prog 100 #[.string (str s)] w fun e w'=>e= .returned (.string (str (lowH s)))∧Below w.heap.size w w':=by
 have h:=lower_any (str s) w (by rw [str_size];unfold maxLen;omega);rw [lowS_strH] at h;exact h
abbrev err3:Value:=.iface 74 (.int .i64 3)
def PLab (o:Option (List B)) (w:World) (e:Ending) (w':World):Prop:=Below w.heap.size w w'∧match o with
 |none=>e= .returned (.tuple #[.slice none 0 0,err3])
 |some L=>∃ q d,e= .returned (.tuple #[.slice q L.length d,.nilIface])∧OwnS w' w.heap.size (.slice q L.length d) L
theorem plab_no {o:Option (List B)}{w w':World}{e:Ending} (h:o=none) (he:e= .returned (.tuple #[.slice none 0 0,err3])) (hb:Below w.heap.size w w'):PLab o w e w':=by subst h;exact⟨hb,he⟩
theorem plab_yes {o:Option (List B)}{L:List B}{w w':World}{e:Ending}{q:Option Addr}{n d:Nat} (h:o=some L) (hn:L.length=n) (he:e= .returned (.tuple #[.slice q n d,.nilIface])) (ho:OwnS w' w.heap.size (.slice q n d) L) (hb:Below w.heap.size w w'):PLab o w e w':=by subst h;subst hn;exact⟨hb,q,d,he,ho⟩
theorem cutH_mem_len:∀ {s:B}{x:B},x∈cutH s→x.length≤s.length
 | [],x,h=>by simp [cutH] at h;subst h;exact Nat.le_refl _
 |c::s,x,h=>by
  rw [cutH_cons] at h;split at h
  · rcases List.mem_cons.1 h with h|h
    · subst h;exact Nat.zero_le _
    · have:=cutH_mem_len h;simp;omega
  · split at h
    · simp at h;subst h;simp
    · rename_i y l e
      rcases List.mem_cons.1 h with h|h
      · subst h;have:=@cutH_mem_len s y (by rw [e];simp);simp;omega
      · have:=@cutH_mem_len s x (by rw [e];simp [h]);simp;omega
theorem plabels_any (s:B) (wild:Bool) (hs:s.length≤9223372036854775807) (w:World) (hmx:MxAt w):Calls Tryz.prog 107 #[.string (str s),.bool wild] w fun e w'=>PLab (labsH wild s) w e w':=by
 obtain⟨n,hn⟩:∃ n,s.length=n:=⟨_,rfl⟩;have HLb:=hid (labsH_low wild s);by_cases h253:253<n
 · rw [hn,if_pos h253] at HLb;obtain⟨S,hS⟩:∃ S,str s=S:=⟨_,rfl⟩;have hSn:S.size=n:=by rw [←hS,str_size,hn]
   have h253':(253:Int)<(n:Int):=by omega
   rw [hS];clear hS hn;go_enter Tryz.func107,Tryz.ntmps107;go_wp2;go_ret2;exact plab_no HLb.out rfl (Below.refl _ _)
 · rw [hn,if_neg h253] at HLb;have HLo:=hid (fun W:World=>below_low s W (by omega));have HSp:=hid (fun (W:World) (h:MxAt W)=>psplitH (lowH s) (by rw [low_len];omega) W h);have HM:=hid hmx;obtain⟨L,hL⟩:∃ L,lowH s=L:=⟨_,rfl⟩;have hLn:L.length=n:=by rw [←hL,low_len,hn]
   rw [hL] at HLo HSp HLb;have hX3:=cutH_len L;have HXl:=hid (show ∀ x∈cutH L,x.length≤140737488355328 from fun x h=>Nat.le_trans (cutH_mem_len h) (by omega));obtain⟨X,hX⟩:∃ X,cutH L=X:=⟨_,rfl⟩;rw [hX] at HSp HXl hX3 HLb;obtain⟨m,hm⟩:∃ m,X.length=m:=⟨_,rfl⟩;have HMn:=hid hm;rw [hm] at HSp hX3;obtain⟨S,hS⟩:∃ S,str s=S:=⟨_,rfl⟩;have hSn:S.size=n:=by rw [←hS,str_size,hn]
   obtain⟨SL,hSL⟩:∃ S,str L=S:=⟨_,rfl⟩;rw [hS] at HLo ⊢;rw [hSL] at HLo HSp;have h253':¬(253:Int)<(n:Int):=by omega
   have hm2:m≤254:=by omega
   clear hS hn hL hLn hX hm hSL hX3 hmx hs;go_enter Tryz.func107,Tryz.ntmps107;go_wp2_with (first|(go_at_call 100;(with_reducible refine(HLo.out _).mono ?_);rintro e w1 ⟨rfl,hb1⟩;have HB1:=hid hb1;clear hb1 HLo)|(go_at_call 133;(with_reducible refine(HSp.out _ (HM.out.next HB1.out)).mono ?_);rintro e w2 ⟨p2,c2,rfl,ho,hb⟩;have HB2:=hid (below_out HB1.out hb);have HO:=hid (ho.base HB1.out.size);clear ho hb HSp HB1));have HT:=hid HO.out.lb;go_loopg [18] (m+1) (fun gk s18 wr=>∃ i:Nat,i≤m∧gk=m-i+1∧s18= .int .i64 (i:Int)∧(X.take i).all (okP wild)=true∧wr=w2)
   case atStart=>exact⟨0,by omega,rfl,rfl,rfl,rfl⟩
   case round=>
    obtain⟨i,hi,rfl,rfl,hal,rfl⟩:=hrel;have HA:=hid hal;clear hal;by_cases hin:i<m
    · have h1:i<X.length:=by rw [HMn.out];exact hin
      obtain⟨x,hx⟩:∃ x,X[i]?=some x:=⟨_,List.getElem?_eq_getElem h1⟩;obtain⟨g1,o1,rfl,q1⟩:=HT.out i x hx;have hxe:X[i]=x:=(List.getElem?_eq_some_iff.1 hx).2;have HG:=hid (show okP wild x=true→(X.take (i+1)).all (okP wild)=true from fun h=>by rw [List.take_succ_eq_append_getElem h1,List.all_append,HA.out,hxe];simp [h]);have HF:=hid (show okP wild x=false→labsH wild s=none from fun h=>by
       rw [HLb.out,if_neg];intro h9;have:=List.all_eq_true.1 h9 x (List.mem_of_getElem? hx);rw [h] at this;cases this)
      have HIs:=hid (fun W:World=>isLabel_any x W (HXl.out x (List.mem_of_getElem? hx)));obtain⟨Sx,hSx⟩:∃ S,str x=S:=⟨_,rfl⟩;have HStar:=hid (show Sx=(⟨#[42]⟩:ByteArray)→x=starL from fun h=>str_inj (by rw [hSx,h];rfl));have HStar2:=hid (show x=starL→Sx=(⟨#[42]⟩:ByteArray) from fun h=>by rw [←hSx,h];rfl);rw [hSx] at q1 HIs;clear h1 hx hxe hSx;cases hl:isLabB x with
      |true=>
       rw [hl] at HIs;go_wp2_with (go_at_call 139;(with_reducible refine(HIs.out _).mono ?_);rintro e w3 ⟨rfl,rfl⟩);go_roundg (m-(i+1)+1)
       case measure=>omega
       case rel=>exact⟨i+1,by omega,rfl,by push_cast;go_num,HG.out (by unfold okP;rw [hl];rfl),rfl⟩
      |false=>
       rw [hl] at HIs;cases wild with
       |false=>
        go_wp2_with (go_at_call 139;(with_reducible refine(HIs.out _).mono ?_);rintro e w3 ⟨rfl,rfl⟩);go_ret2;exact plab_no (HF.out (by unfold okP;rw [hl];rfl)) rfl HB2.out
       |true=>
        by_cases hst:x=starL
        · have hS:=HStar2.out hst;subst hS;go_wp2_with (go_at_call 139;(with_reducible refine(HIs.out _).mono ?_);rintro e w3 ⟨rfl,rfl⟩);go_roundg (m-(i+1)+1)
          case measure=>omega
          case rel=>exact⟨i+1,by omega,rfl,by push_cast;go_num,HG.out (by unfold okP;rw [hl,hst];rfl),rfl⟩
        · have hs1:¬Sx=(⟨#[42]⟩:ByteArray):=fun h=>hst (HStar.out h)
          have hs4:(Sx.toList== (⟨#[42]⟩:ByteArray).toList)=false:=ne_list hs1;have hs5:(Sx.toList== [42])=false:=by have h:=hs4;rw [ByteArray.toList_eq,ByteArray.toList_eq] at h;rw [ByteArray.toList_eq];exact h
          go_wp2_with (go_at_call 139;(with_reducible refine(HIs.out _).mono ?_);rintro e w3 ⟨rfl,rfl⟩);go_ret2;exact plab_no (HF.out (by unfold okP;rw [hl,decide_eq_false hst];rfl)) rfl HB2.out
    · obtain rfl:m=i:=by omega
      go_wp2;go_ret2;exact plab_yes (by rw [HLb.out,if_pos (by have:=HA.out;rw [List.take_of_length_le (by rw [HMn.out];exact Nat.le_refl _)] at this;exact this)]) HMn.out rfl HO.out HB2.out
theorem check_parts {p:B} (h:checkP p=true):∃ t,p=47::t∧(cutT t).length≤64∧p.length≤256∧restLast (cutT t)=true:=by
 obtain⟨t,h1,h2,h3,_,h5⟩:=check_some h;exact⟨t,h1,h2,h3,h5⟩
theorem seg_yes {p:B} (h:checkP p=true) (w:World) (hmx:MxAt w):Calls Tryz.prog 97 #[.string (str p)] w fun e w'=>Below w.heap.size w w'∧∃ q n c,e= .returned (.tuple #[.slice q n c,.nilIface])∧OwnG w' w.heap.size (.slice q n c) (cutT p.tail)∧(cutT p.tail).length=n:=by
 obtain⟨t,_,_,h3,_⟩:=check_parts h;refine(segments_any p (by omega) w hmx).mono ?_;rintro e w' ⟨hb,⟨_,h1⟩|⟨h1,_⟩⟩
 · exact⟨hb,h1⟩
 · rw [h] at h1;cases h1
theorem seg_no {p:B} (hp:p.length≤140737488355328) (h:checkP p=false) (w:World) (hmx:MxAt w):Calls Tryz.prog 97 #[.string (str p)] w fun e w'=>e= .returned (.tuple #[.slice none 0 0,err3])∧Below w.heap.size w w':=by
 refine(segments_any p hp w hmx).mono ?_;rintro e w' ⟨hb,⟨h1,_⟩|⟨_,h1⟩⟩
 · rw [h] at h1;cases h1
 · exact⟨h1,hb⟩
theorem check_any (p:B) (hp:p.length≤140737488355328) (w:World) (hmx:MxAt w):Calls Tryz.prog 57 #[.string (str p)] w fun e w'=>e= .returned (if checkP p then .nilIface else err3)∧Below w.heap.size w w':=by
 cases hc:checkP p with
 |true=>
  have H:=hid (seg_yes hc w hmx);rw [if_pos rfl];obtain⟨S,hS⟩:∃ S,str p=S:=⟨_,rfl⟩;rw [hS] at H ⊢;clear hS hc hp hmx;go_enter Tryz.func57,Tryz.ntmps57;go_wp2_with (go_at_call 97;(with_reducible refine H.out.mono ?_);rintro e w1 ⟨hb1,q1,n1,c1,rfl,_,_⟩);go_ret;exact⟨rfl,by assumption⟩
 |false=>
  have H:=hid (seg_no hp hc w hmx);rw [if_neg (by decide)];obtain⟨S,hS⟩:∃ S,str p=S:=⟨_,rfl⟩;rw [hS] at H ⊢;clear hS hc hp hmx;go_enter Tryz.func57,Tryz.ntmps57;go_wp2_with (go_at_call 97;(with_reducible refine H.out.mono ?_);rintro e w1 ⟨rfl,hb1⟩);go_ret;exact⟨rfl,by assumption⟩
def fitsO (a path:B):Option (Option (List (B×B))):=if checkP a && begB 47 path then some (fitsT (cutT a.tail) (cutT path.tail)) else none
theorem fitL_cut {p t:B} (h:checkP p=true):fitL (cutT p.tail) t true=fitsT (cutT p.tail) (cutT t):=by
 obtain⟨t',rfl,_,_,h5⟩:=check_parts h;have:=fitL_same (cutT t') t true h5
 rwa [if_pos rfl] at this
theorem fit_yes {p:B} (h:checkP p=true) {q:Option Addr}{n c:Nat} (hn:(cutT p.tail).length=n) (t:B) (ht:t.length≤140737488355328) (w:World) (hmx:MxAt w) (hG:SgAt w q (cutT p.tail)):
  Calls Tryz.prog 111 #[.slice q n c,.string (str (47::t))] w fun e w'=>FitP (fitsT (cutT p.tail) (cutT t)) w e w':=by
 rw [←fitL_cut h];obtain⟨t',e1,h2,h3,h5⟩:=check_parts h;refine fit_any _ q n c hn (by rw [←hn,e1];exact h2) (fun x hx=>?_) t ht w hmx hG;have:=cutT_mem_len hx;rw [e1] at this h3;simp at this h3;omega
def beatsO (a b path:B):Bool×Nat:=match fitsO a path,fitsO b path with
 |none,_=>(false,3)
 |some _,none=>(false,3)
 |some (some _),some (some _)=>(betterT (cutT a.tail) (cutT b.tail),0)
 |_,_=>(false,8)
end Go.Proofs.YtlmlljlappjjjaaGreatDoor
