/- The program: where a host and a path lead. -/
import Derived.Test.YtlmlljlappjjjaaGreatDoorQPNew
namespace Go.Proofs.YtlmlljlappjjjaaGreatDoor
set_option maxRecDepth 20000
set_option maxHeartbeats 16000000
open Go.RowKit Go.Maps
theorem trie_at (h:B):∀ (L:List RtC) (y:B×Int),y∈trieR L h→∃ (j:Nat) (r:RtC),y.2=(j:Int)∧L[j]?=some r∧lowH r.host=h∧r.path=y.1∧∀ (k:Nat) (u:RtC),k<j→L[k]?=some u→¬(lowH u.host=h∧u.path=y.1):=by
 refine snoc_ind (by simp [trieR]) fun L r ih y hy=>?_
 have old:y∈trieR L h→∃ (j:Nat) (x:RtC),y.2=(j:Int)∧(L++ [r])[j]?=some x∧lowH x.host=h∧x.path=y.1∧∀ (k:Nat) (u:RtC),k<j→(L++ [r])[k]?=some u→¬(lowH u.host=h∧u.path=y.1):=fun h1=>by
  obtain⟨j,x,h2,h3,h4,h5,h6⟩:=ih y h1;have hj:=(List.getElem?_eq_some_iff.1 h3).1;refine⟨j,x,h2,by rw [List.getElem?_append_left hj];exact h3,h4,h5,fun k u hk hu=>h6 k u hk ?_⟩
  rwa [List.getElem?_append_left (by omega)] at hu
 rw [trie_snoc] at hy;split at hy
 · rename_i hc
   rcases List.mem_append.1 hy with hy|hy
   · exact old hy
   · rw [List.mem_singleton] at hy;subst hy;refine⟨L.length,r,rfl,by simp,hc.1,rfl,fun k u hk hu hc2=>hc.2 ?_⟩;rw [List.getElem?_append_left hk] at hu;exact(mem_trie L h r.path).2 ⟨u,List.mem_of_getElem? hu,hc2.1,hc2.2⟩
 · exact old hy
def WayNo (L:List RtC) (host m:B) (k:Nat):Prop:=
 ((findN (idxP (grpsR L)) host).2≠0∧k=(findN (idxP (grpsR L)) host).2)∨
 ∃ (g:Nat) (h:B),findN (idxP (grpsR L)) host=((g:Int),0)∧(grpsR L)[g]?=some h∧((begB 47 m=false∧k=3)∨(begB 47 m=true∧(∀ p∈trieR L h,fitsT (cutT p.1.tail) (cutT m.tail)=none)∧k=8))
def WayYes (L:List RtC) (host m h:B) (p:B×Int) (F:List (B×B)):Prop:=
 ∃ g:Nat,findN (idxP (grpsR L)) host=((g:Int),0)∧(grpsR L)[g]?=some h∧begB 47 m=true∧p∈trieR L h∧fitsT (cutT p.1.tail) (cutT m.tail)=some F∧∀ r∈trieR L h,(fitsT (cutT r.1.tail) (cutT m.tail)).isSome=true→r=p∨betterT (cutT p.1.tail) (cutT r.1.tail)=true
def WayAns (L:List RtC) (host m:B) (w:World) (e:Ending) (w':World):Prop:=Below w.heap.size w w'∧
 ((∃ k,WayNo L host m k∧k≠0∧e= .returned (.tuple #[.slice none 0 0,.slice none 0 0,errOf k]))∨
  (∃ h p F q n c q2 d,WayYes L host m h p F∧e= .returned (.tuple #[.slice q n c,.slice q2 F.length d,.nilIface])∧OwnN w' 0 (.slice q n c) (numsR (waysR L h p.1))∧OwnF w' w.heap.size (.slice q2 F.length d) F))
theorem findN_at {gs:List B}{host:B} (h:(findN (idxP gs) host).2=0):∃ (g:Nat) (x:B),findN (idxP gs) host=((g:Int),0)∧gs[g]?=some x:=by
 unfold findN at h ⊢;cases hl:labsH false host with
 |none=>rw [hl] at h;cases h
 |some y=>
  rw [hl] at h;dsimp only at h ⊢;have hb:=best_spec y _ (idxP gs) rfl;cases hf:bestF y (idxP gs) with
  |none=>rw [hf] at h;cases h
  |some p=>
   rw [hf] at hb;obtain⟨i,h1,h2⟩:=idxP_of hb.1;exact⟨i,p.1,by dsimp only;rw [h2],h1⟩
structure RW7S (U:World) (t gr j m i:Nat) (SP:ByteArray) (vr V:Value):Prop where
 c2:U.cell? ⟨t,2,none⟩=some (.map (some m))
 c3:U.cell? ⟨t,3,none⟩=some vr
 x0:U.cell? ⟨gr,j*2,none⟩=some (.string SP)
 look:(Instr.lookup 78 (.map (some m)) (.agg #[.int .i64 (i:Int),.string SP]) false).run Tryz.prog U= .ok V U
theorem pway_any {b0:Nat}{w:World}{t gh m:Nat}{L:List RtC}{M:Nat} (h:TabQ b0 w t gh m (contQ L M)) (hs:b0≤w.heap.size) (hmx:MxAt w) (h64:L.length≤64) (hzp:∀ r∈L,r.path.length≤4398046511104) (host path:B) (hh:host.length≤9223372036854775807) (hp:path.length≤140737488355328):
  Calls Tryz.prog 31 #[.pointer (some ⟨t,0,none⟩),.string (str host),.string (str path)] w fun e w'=>WayAns L host path w e w':=by
 obtain⟨O,vp,vr,ts,wv,es,hI,hl⟩:=h;have HI:=hid hI;have HS:=hid hs;obtain⟨pp,np,cp,rfl⟩:=own_slice3 hI.pth;have hnp:np=ts.length:=row_lenH hI.pth;obtain⟨pr,nr,cr,rfl⟩:=own_slice3 hI.rts;have hnr:nr=es.length:=row_lenH hI.rts;have hel:es.length=L.length:=by
  have:=hI.esc;rw [show (contQ L M).es=L.map (fun r=>(r.path,r.ms)) from rfl] at this;have:=congrArg List.length this;simpa using this
 have hnr64:nr≤64:=by omega
 have HF:=hid (show Calls Tryz.prog 67 #[.pointer (some ⟨gh,0,none⟩),.string (str host)] w (fun e w'=>e= .returned (.tuple #[.int .i64 (findN (idxP (grpsR L)) host).1,errOf (findN (idxP (grpsR L)) host).2])∧Below w.heap.size w w') from by
  obtain⟨m1,v1,v2,L1,h1,_⟩:=hI.hst;exact find_num h1 hmx host hh)
 have HMx:=hid hmx;obtain⟨c0,c1,_,_,_⟩:=idx_cells hI.bx;have HB0:=hid (Below.refl w.heap.size w);by_cases hk:(findN (idxP (grpsR L)) host).2=0
 · obtain⟨g,hx,hfn,hgx⟩:=findN_at hk;rw [hfn] at HF;rw [show errOf 0= .nilIface from rfl] at HF;have hgl:g<ts.length:=by rw [hl];exact(List.getElem?_eq_some_iff.1 hgx).1
   obtain⟨tb,htb⟩:∃ tb,ts[g]?=some tb:=⟨_,List.getElem?_eq_getElem hgl⟩;obtain⟨gp,rfl,hpb⟩:=OwnA.cell hI.pth htb;obtain⟨Mi,_,G,es2,v2,hTr,_⟩:=hI.tri g tb htb;rw [show (contQ L M).tp g=trieR L hx from by unfold contQ;dsimp only;rw [hgx];rfl] at hTr;have HTf:=hid (fun (W:World) (hb:Below w.heap.size w W)=>find_any_r (hTr.next hb) (hmx.next hb) path hp);have hgnp:g<np:=by omega
   have HTb:=hid htb;have HFn:=hid hfn;have HGx:=hid hgx;have HPb:=hid hpb;have HEs:=hid (show es.map (fun x=>(x.path,x.ms))=L.map (fun r=>(r.path,r.ms)) from hI.esc);have HEl:=hid hel;have HNr:=hid hnr;obtain⟨SH,hSH⟩:∃ S,str host=S:=⟨_,rfl⟩;obtain⟨SM,hSM⟩:∃ S,str path=S:=⟨_,rfl⟩;rw [hSH] at HF;rw [hSM] at HTf;rw [hSH,hSM];clear hI hs hnp hnr hel hmx hk hfn hgx hgl htb hTr hSH hSM hpb c0 c1;have d0:=(idx_cells HI.out.bx).1;have HC1:=hid (fun (W:World) (hb:Below w.heap.size w W)=>cell_keep hb (idx_cells HI.out.bx).2.1);go_enter Tryz.func31,Tryz.ntmps31;go_upto_region 7 with (first|(go_at_call 67;(with_reducible refine HF.out.mono ?_);rintro e w1 ⟨rfl,hb1⟩;have HB1:=hid hb1;have d1:=HC1.out w1 hb1;have d2:=cell_keep hb1 HPb.out;clear hb1)|(go_at_call 68;(with_reducible refine(HTf.out _ HB1.out).mono ?_);rintro e w2 ⟨hb2,⟨hb,rfl⟩|⟨hb,hno,rfl⟩|⟨hb,p,F,q2,d2',hpm,hft,hbs,rfl,hof⟩⟩))
   · go_wp2;go_ret3;exact⟨below_out HB1.out hb2,.inl ⟨3,.inr ⟨g,hx,HFn.out,HGx.out,.inl ⟨hb,rfl⟩⟩,by decide,rfl⟩⟩
   · go_wp2;go_ret3;exact⟨below_out HB1.out hb2,.inl ⟨8,.inr ⟨g,hx,HFn.out,HGx.out,.inr ⟨hb,hno,rfl⟩⟩,by decide,rfl⟩⟩
   · obtain⟨j,r,hj,hr,hr1,hr2,_⟩:=trie_at hx L p hpm;have hjl:=(List.getElem?_eq_some_iff.1 hr).1;obtain⟨z,hz⟩:∃ z,es[j]?=some z:=⟨_,List.getElem?_eq_getElem (by rw [HEl.out];exact hjl)⟩;have hzp1:z.path=p.1:=by
      have h9:(es.map (fun x=>(x.path,x.ms)))[j]?=(L.map (fun r=>(r.path,r.ms)))[j]?:=by rw [HEs.out]
      rw [List.getElem?_map,List.getElem?_map,hz,hr] at h9;injection h9 with h9
      exact(congrArg Prod.fst h9).trans hr2
     have hb02:=below_out HB1.out hb2;have hI2:=HI.out.next HS.out hb02
     obtain⟨gr,rfl,z0,_⟩:=OwnE_q.cells hI2.rts hz;rw [hzp1] at z0;have hsh:shW g p.1:=⟨by have:=(List.getElem?_eq_some_iff.1 HGx.out).1;have:=grps_len L;omega,by rw [←hr2];exact hzp r (List.mem_of_getElem? hr)⟩;have hwy:=(hI2.way g p.1 hsh).1;obtain⟨q9,n9,c9,hv9⟩:=own_slice3 hwy;rw [hv9,show (contQ L M).wy g p.1=numsR (waysR L hx p.1) from by unfold contQ;dsimp only;rw [HGx.out];rfl] at hwy;have hlk:=(show WayM w2.drew m (contQ L M).M wv from hI2.map).look hsh;rw [hv9] at hlk;unfold wayV at hlk;have HW:=hid (show OwnN w2.drew 0 (.slice q9 n9 c9) (numsR (waysR L hx p.1)) from hwy);have HO:=hid (show OwnF w2.drew w.heap.size (.slice q2 F.length d2') F from hof.lowT HB1.out.size);have HYes:=hid (show WayYes L host path hx p F from⟨g,HFn.out,HGx.out,hb,hpm,hft,hbs⟩);have HB2:=hid (show Below w.heap.size w w2.drew from hb02.trans ((below_drewH w2 1).mono hb02.size));have hjn:j<nr:=by rw [HNr.out,HEl.out];exact hjl
     obtain⟨SP,hSP⟩:∃ S,str p.1=S:=⟨_,rfl⟩;rw [hSP] at z0 hlk;have hS0:RW7S w2.drew t gr j m g SP (.slice (some ⟨gr,0,none⟩) nr cr) (.slice q9 n9 c9):=⟨(idx_cells hI2.bx).2.2.1,(idx_cells hI2.bx).2.2.2.1,z0,hlk⟩;obtain⟨D,hD⟩:∃ D,w2.drew=D:=⟨_,rfl⟩;rw [hD] at HW HO HB2 hS0;rw [hj];clear hj hr hr1 hr2 hjl hz hzp1 hb02 hI2 z0 hsh hwy hv9 hlk hSP hb2 hpm hft hbs hof hb d0 d1 d2;refine wp_region_noPanic ?_;refine any_begin 19 (by kernel_rfl) (by kernel_rfl) ?_;rw [hD];refine late_begin (fun U=>RW7S U t gr j m g SP (.slice (some ⟨gr,0,none⟩) nr cr) (.slice q9 n9 c9)) (fun _=>false) hS0 (fun hS=>?_);refine ltk (i:=0) (some 41) rfl rfl (v:= ?v0a) ?hy0a hS ?rest0a
     case hy0a=>intro w0 hSw;obtain⟨a0,a1,a2,a3⟩:=hSw;go_simp;try with_reducible rfl
     simp only [Act.put,sA,sB,sC];refine ltk (i:=1) (some 42) rfl rfl (v:= ?v1a) ?hy1a hS ?rest1a
     case hy1a=>intro w0 hSw;obtain⟨a0,a1,a2,a3⟩:=hSw;go_simp;try with_reducible rfl
     simp only [Act.put,sA,sB,sC];refine ltk (i:=2) (some 43) rfl rfl (v:= ?v2a) ?hy2a hS ?rest2a
     case hy2a=>intro w0 hSw;obtain⟨a0,a1,a2,a3⟩:=hSw;go_simp;try with_reducible rfl
     simp only [Act.put,sA,sB,sC];refine ltk (i:=3) (some 44) rfl rfl (v:= ?v3a) ?hy3a hS ?rest3a
     case hy3a=>intro w0 hSw;obtain⟨a0,a1,a2,a3⟩:=hSw;go_simp;try with_reducible rfl
     simp only [Act.put,sA,sB,sC];refine ltk (i:=4) (some 45) rfl rfl (v:= ?v4a) ?hy4a hS ?rest4a
     case hy4a=>intro w0 hSw;obtain⟨a0,a1,a2,a3⟩:=hSw;go_simp;try with_reducible rfl
     simp only [Act.put,sA,sB,sC];refine ltk (i:=5) (some 46) rfl rfl (v:= ?v5a) ?hy5a hS ?rest5a
     case hy5a=>intro w0 hSw;obtain⟨a0,a1,a2,a3⟩:=hSw;go_simp;try with_reducible rfl
     simp only [Act.put,sA,sB,sC];refine ltk (i:=6) (some 47) rfl rfl (v:= ?v6a) ?hy6a hS ?rest6a
     case hy6a=>intro w0 hSw;obtain⟨a0,a1,a2,a3⟩:=hSw;go_simp;try with_reducible rfl
     simp only [Act.put,sA,sB,sC];refine ltk (i:=7) (some 48) rfl rfl (v:= ?v7a) ?hy7a hS ?rest7a
     case hy7a=>intro w0 hSw;obtain⟨a0,a1,a2,a3⟩:=hSw;go_simp;try with_reducible rfl
     simp only [Act.put,sA,sB,sC];refine ltk (i:=8) (some 49) rfl rfl (v:= ?v8a) ?hy8a hS ?rest8a
     case hy8a=>intro w0 hSw;obtain⟨a0,a1,a2,a3⟩:=hSw;go_simp;try with_reducible rfl
     simp only [Act.put,sA,sB,sC];refine ltk (i:=9) (some 50) rfl rfl (v:= ?v9a) ?hy9a hS ?rest9a
     case hy9a=>intro w0 hSw;obtain⟨a0,a1,a2,a3⟩:=hSw;go_simp;try with_reducible rfl
     simp only [Act.put,sA,sB,sC];refine ltk (i:=10) (some 51) rfl rfl (v:= ?v10a) ?hy10a hS ?rest10a
     case hy10a=>intro w0 hSw;obtain⟨a0,a1,a2,a3⟩:=hSw;go_simp;try with_reducible rfl
     simp only [Act.put,sA,sB,sC];refine ltk (i:=11) (some 52) rfl rfl (v:= ?v11a) ?hy11a hS ?rest11a
     case hy11a=>intro w0 hSw;obtain⟨a0,a1,a2,a3⟩:=hSw;go_simp;try with_reducible rfl
     simp only [Act.put,sA,sB,sC];refine ltk (i:=12) (some 53) rfl rfl (v:= ?v12a) ?hy12a hS ?rest12a
     case hy12a=>intro w0 hSw;obtain⟨a0,a1,a2,a3⟩:=hSw;go_simp;try with_reducible rfl
     simp only [Act.put,sA,sB,sC];refine ltk (i:=13) (some 54) rfl rfl (v:= ?v13a) ?hy13a hS ?rest13a
     case hy13a=>intro w0 hSw;obtain⟨a0,a1,a2,a3⟩:=hSw;go_simp;try with_reducible rfl
     simp only [Act.put,sA,sB,sC];refine late_take (i:=14) (some 55) rfl rfl (by kernel_rfl) (by kernel_rfl) (by kernel_rfl) (by kernel_rfl) (by kernel_rfl) (fun _ _ _ h=>h) (by rfl) (v:=.slice q9 n9 c9) ?hy14a hS ?rest14a
     case hy14a=>intro w0 hSw;exact exec_lookup rfl rfl rfl hSw.look
     simp only [Act.put,sA,sB,sC];refine ltk (i:=15) (some 56) rfl rfl (v:= ?v15a) ?hy15a hS ?rest15a
     case hy15a=>intro w0 hSw;obtain⟨a0,a1,a2,a3⟩:=hSw;go_simp;try with_reducible rfl
     simp only [Act.put,sA,sB,sC];refine ltk (i:=16) (some 6) rfl rfl (v:= ?v16a) ?hy16a hS ?rest16a
     case hy16a=>intro w0 hSw;obtain⟨a0,a1,a2,a3⟩:=hSw;go_simp;try with_reducible rfl
     simp only [Act.put,sA,sB,sC];refine ltk (i:=17) (some 7) rfl rfl (v:= ?v17a) ?hy17a hS ?rest17a
     case hy17a=>intro w0 hSw;obtain⟨a0,a1,a2,a3⟩:=hSw;go_simp;try with_reducible rfl
     simp only [Act.put,sA,sB,sC];refine ltk (i:=18) (some 8) rfl rfl (v:= ?v18a) ?hy18a hS ?rest18a
     case hy18a=>intro w0 hSw;obtain⟨a0,a1,a2,a3⟩:=hSw;go_simp;try with_reducible rfl
     simp only [Act.put,sA,sB,sC];refine late_done (by kernel_rfl) ?_ _;refine NoPanic.normal ?_;go_wp2;go_ret3;exact⟨HB2.out,.inr ⟨hx,p,F,q9,n9,c9,q2,d2',HYes.out,rfl,HW.out,HO.out⟩⟩
 · have HNo:=hid (show WayNo L host path (findN (idxP (grpsR L)) host).2 from .inl ⟨hk,rfl⟩);have HK:=hid hk;obtain⟨k,hkk⟩:∃ k,(findN (idxP (grpsR L)) host).2=k:=⟨_,rfl⟩;obtain⟨v,hvv⟩:∃ v,(findN (idxP (grpsR L)) host).1=v:=⟨_,rfl⟩;rw [hkk] at HF HNo HK;rw [hvv] at HF;rw [errOf_ne HK.out] at HF;have HEr:=hid (errOf_ne HK.out);obtain⟨SH,hSH⟩:∃ S,str host=S:=⟨_,rfl⟩;obtain⟨SM,hSM⟩:∃ S,str path=S:=⟨_,rfl⟩;rw [hSH] at HF;rw [hSH,hSM];clear hI hs hnp hnr hel hmx hk hkk hvv hSH hSM c1;go_enter Tryz.func31,Tryz.ntmps31;go_wp2_with (go_at_call 67;(with_reducible refine HF.out.mono ?_);rintro e w1 ⟨rfl,hb1⟩;have HB1:=hid hb1;clear hb1);go_ret3;exact⟨HB1.out,.inl ⟨k,HNo.out,HK.out,by rw [HEr.out];rfl⟩⟩
open Go.RowKit
def decE (r:Option B):Value:=match r with
 |some t=>.tuple #[.string (str t),.nilIface]
 |none=>.tuple #[.string (str []),.iface 74 (.int .i64 23)]
def meas (rest:B) (more:Bool):Nat:=if more then rest.length+2 else 1
def roomN (rest:B) (more:Bool):Nat:=if more then rest.length+1 else 0
theorem join_one (o:List B) (t:B):joinS (o++ [t])=joinS o++47::t:=by rw [join_app];simp [joinS]
theorem join_end (o:List B):joinS (o++ [[]])=joinS o++ [47]:=join_one o []
theorem whole_app {o:List B}{t:B} (h:Whole o) (ht:∀ y∈t,y≠(47:UInt8)):Whole (o++ [t]):=by
 intro s hs;rcases List.mem_append.1 hs with h1|h1
 · exact h s h1
 · rw [List.mem_singleton.1 h1];exact ht
theorem whole_less {o:List B}{t:B} (h:Whole (o++ [t])):Whole o∧∀ y∈t,y≠(47:UInt8):=⟨fun s hs=>h s (by simp [hs]),h t (by simp)⟩
theorem room_cut {rest t rest':B}{more':Bool} (h:cutF 47 rest=(t,rest',more')):t.length+1+roomN rest' more'=roomN rest true∧meas rest' more'<meas rest true∧(∀ y∈t,y≠(47:UInt8)):=by
 obtain⟨h1,h2,h3⟩:=cutF_spec 47 rest;rw [h] at h1 h2 h3;simp only at h1 h2 h3;have hl:=congrArg List.length h2;rw [List.length_append] at hl;unfold roomN meas;cases more' with
 |true=>simp at hl ⊢;exact⟨by omega,by omega,h1⟩
 |false=>simp at hl ⊢;exact⟨by omega,h1⟩
theorem wdots_any (c0:UInt8) (r:B) (hs:(c0::r).length≤4294967280) (w:World) (hE:Env w):Calls Tryz.prog 49 #[.string (str (c0::r))] w fun e w'=>e= .returned (decE ((dotsL (cutAt 47 r) []).map joinS))∧Below w.heap.size w w':=by
 obtain⟨i0,hi0,hz0,hz1,hz2⟩:=info_parts infoB;obtain⟨n,hn⟩:∃ n,(c0::r).length=n:=⟨_,rfl⟩;have hn2:r.length+1=n:=by rw [←hn];rfl
 have HN:=hid hn;obtain⟨S,hS⟩:∃ S,str (c0::r)=S:=⟨_,rfl⟩;have hSn:S.size=n:=by rw [←hS,str_size,hn]
 have hex:S.extract 1 n=str r:=by rw [←hS,ext_drop _ 1 n hn];rfl
 obtain⟨Dn,hDn⟩:∃ Dn,dotsL (cutAt 47 r) []=Dn:=⟨_,rfl⟩;have HD0:=hid (show dotsL (toCome r true) []=Dn from hDn);have HRo:=hid (show roomN r true=n from hn2);have HE:=hid hE;have h1n:1≤n:=by omega
 rw [hn] at hs;rw [hS,hDn];obtain⟨R0,hR0⟩:∃ R0,str r=R0:=⟨_,rfl⟩;have HR0:=hid hR0;rw [hR0] at hex;clear hn hS hDn hE hn2 hR0;obtain⟨W0,hmk,hown0,hbel0⟩:=mk_row w n (by omega);have HO0:=hid hown0;have HB0:=hid hbel0;clear hown0 hbel0;go_enter Tryz.func49,Tryz.ntmps49;go_wp2;clear hmk hex;go_loopg [4,5,6] (meas r true) (fun gk s4 s5 s6 wr=>∃ (rest:B) (more:Bool) (out:List B),gk=meas rest more∧s5= .string (str rest)∧s6= .bool more∧Own wr w.heap.size s4 (joinS out)∧Whole out∧dotsL (toCome rest more) out=Dn∧(joinS out).length+roomN rest more≤n∧Below w.heap.size w wr)
 case atStart=>exact⟨r,true,[],rfl,by rw [HR0.out],rfl,HO0.out,fun s hs=>by simp at hs,HD0.out,by rw [HRo.out];simp [joinS],HB0.out⟩
 case round=>
  obtain⟨rest,more,out,rfl,rfl,rfl,ho,hwh,hR,hro,hb⟩:=hrel;have HBr:=hid hb;have HR:=hid hR;have HWh:=hid hwh;obtain⟨ln,hln⟩:∃ ln,(joinS out).length=ln:=⟨_,rfl⟩;have HLe:=hid hln;obtain⟨p,c0,rfl⟩:=own_slice ho;have HOr:=hid ho;rw [hln] at HOr hro ⊢;have hcap:=HOr.out.cap;have HBo:=hid (show Below w.heap.size w wr from hb);clear ho hb hln hR hwh;cases more with
  |false=>
   have HV:=hid (show Dn=some out from by rw [←HR.out];rfl);have hcv:=conv_own HOr.out;go_wp2;go_ret2;rw [HV.out];exact⟨rfl,HBr.out⟩
  |true=>
   obtain⟨t,rest',more',hcut⟩:∃ t rest' more',cutF 47 rest=(t,rest',more'):=⟨_,_,_,rfl⟩;have HCt:=hid (pcut_any 47 rest (by unfold roomN at hro;simp at hro;omega));rw [hcut] at HCt;obtain⟨hrm,hms,htn⟩:=room_cut hcut;have HTn:=hid htn;have HMs:=hid hms;have HRi:=hid (show dotsL (t::toCome rest' more') out=Dn from by rw [←HR.out,come_cut,hcut]);have HNil:=hid (come_nil rest' more');clear htn hms hcut;obtain⟨rn,hrn⟩:∃ rn,roomN rest' more'=rn:=⟨_,rfl⟩;rw [hrn] at hrm;rw [←hrm] at hro;have HRn:=hid hrn;clear hrm hrn;obtain⟨T5,hT5⟩:∃ T5,str rest=T5:=⟨_,rfl⟩;rw [hT5] at HCt;have HT5:=hid hT5;rw [hT5];clear hT5;have H47:=hid (show Lib.byteCells [47]= [.int .u8 47] from rfl);by_cases h2:t= [46,46]
   · subst h2;rcases List.eq_nil_or_concat out with ha|⟨ac2,xl,ha⟩
     · subst ha;obtain rfl:ln=0:=by rw [←HLe.out];rfl
       have HF:=hid (show Dn=none from by rw [←HRi.out,dots_nil2]);go_wp2_with (go_at_call 80;(with_reducible refine(HCt.out _ (HE.out.below HBo.out)).mono ?_);rintro e w1 ⟨rfl,hb1⟩;have HO:=hid (HOr.out.keep hb1);have HB:=hid (HBr.out.trans (hb1.mono HBr.out.size));clear hb1);go_ret2;rw [HF.out];exact⟨rfl,HB.out⟩
     · rw [List.concat_eq_append] at ha;subst ha;obtain⟨hw1,hw2⟩:=whole_less HWh.out;have HW1:=hid hw1;obtain⟨k,hk⟩:∃ k,(joinS ac2).length=k:=⟨_,rfl⟩;have HLk:=hid hk;have hkl:k+1≤ln:=by rw [←HLe.out,join_one,List.length_append,hk];simp
       rw [join_one] at HOr HLe;have HLa:=hid (show ∀ (w1:World),Own w1 w.heap.size (.slice p ln c0) (joinS ac2++47::xl)→_ from fun w1 h1=>last_any w.heap.size (joinS ac2) xl hw2 ln HLe.out (by omega) p c0 w1 h1);rw [hk] at HLa;have HKc:=hid (show ∀ (w1:World),Own w1 w.heap.size (.slice p ln c0) (joinS ac2++47::xl)→Own w1 w.heap.size (.slice p k c0) (joinS ac2) from fun w1 h1=>by have h8:=h1.less;rw [hk] at h8;exact h8);have hl0:¬(ln:Int)=0:=by omega
       have hl1:((ln:Int)== 0)=false:=by simpa using hl0
       have hkc:(k:Int)≤(c0:Int):=by omega
       clear hk hw1 hw2;cases more' with
       |true=>
        have HNx:=hid (show dotsL (toCome rest' true) ac2=Dn from by rw [←HRi.out,dots_two,if_neg (by simp [toCome,cut_ne])]);go_wp2_with (first|(go_at_call 80;(with_reducible refine(HCt.out _ (HE.out.below HBo.out)).mono ?_);rintro e w1 ⟨rfl,hb1⟩;have HO:=hid (HOr.out.keep hb1);have HB:=hid (HBr.out.trans (hb1.mono HBr.out.size));clear hb1)|(go_at_call 91;(with_reducible refine(HLa.out _ HO.out).mono ?_);rintro e w2 ⟨rfl,rfl⟩));go_roundg (meas rest' true)
        case measure=>exact HMs.out
        case rel=>exact⟨rest',true,ac2,rfl,rfl,rfl,HKc.out _ HO.out,HW1.out,HNx.out,by rw [HLk.out,HRn.out];omega,HB.out⟩
       |false=>
        have HNx:=hid (show dotsL (toCome rest' false) (ac2++ [[]])=Dn from by rw [←HRi.out,dots_two,if_pos (by simp [toCome])]);go_wp2_with (first|(go_at_call 80;(with_reducible refine(HCt.out _ (HE.out.below HBo.out)).mono ?_);rintro e w1 ⟨rfl,hb1⟩;have HO:=hid (HOr.out.keep hb1);have HB:=hid (HBr.out.trans (hb1.mono HBr.out.size));clear hb1)|(go_at_call 91;(with_reducible refine(HLa.out _ HO.out).mono ?_);rintro e w2 ⟨rfl,rfl⟩;have HOk:=hid (HKc.out _ HO.out))|(at_builtin;refine wpList_append_own_at _ rfl (.tmp 35) (.tmp 36) 138 rfl w.heap.size 5 i0 _ 1 1 Tryz.underlying138 hi0 hz0 hz1 hz2 rfl (by decide) (.slice p k c0) k (Lib.byteCells (joinS ac2)) (by go_simp) (by have h8:=HOk.out.alloc (.cells #[.int .u8 47] 5 (0,0));unfold Own at h8;rw [HLk.out] at h8;exact h8) ⟨w2.heap.size,0,none⟩ 1 1 [.int .u8 47] (by go_simp) rfl (cells_new w2 _ _) (by simp [Value.oneCell']) (by unfold maxLen;omega) (by omega) (Nat.le_trans HB.out.size (below_new _ _).size) ?_;intro v' w9 hown hgr _ _;obtain⟨p7,L7,c7,rfl⟩:=own_slice3 hown;have HB2:=hid (HB.out.trans (((below_new w2 (.cells #[.int .u8 47] 5 (0,0))).mono HB.out.size).trans (Own.below (HOk.out.alloc (.cells #[.int .u8 47] 5 (0,0))) (Nat.le_trans HB.out.size (below_new _ _).size) hgr)));have HW:=hid (Own.put (acc:=(joinS ac2)) (bs:=[47]) (by rw [HLk.out];exact hown) H47.out rfl);clear hown hgr));go_roundg (meas rest' false)
        case measure=>exact HMs.out
        case rel=>exact⟨rest',false,ac2++ [[]],rfl,rfl,rfl,by rw [join_end];exact HW.out,whole_app HW1.out (by simp),HNx.out,by rw [join_end,List.length_append,HLk.out,HRn.out];simp;omega,HB2.out⟩
   · by_cases h1:t= [46]
     · subst h1;cases more' with
       |true=>
        have HNx:=hid (show dotsL (toCome rest' true) out=Dn from by rw [←HRi.out,dots_one,if_neg (by simp [toCome,cut_ne])]);go_wp2_with (go_at_call 80;(with_reducible refine(HCt.out _ (HE.out.below HBo.out)).mono ?_);rintro e w1 ⟨rfl,hb1⟩;have HO:=hid (HOr.out.keep hb1);have HB:=hid (HBr.out.trans (hb1.mono HBr.out.size));clear hb1);go_roundg (meas rest' true)
        case measure=>exact HMs.out
        case rel=>exact⟨rest',true,out,rfl,rfl,rfl,HO.out,HWh.out,HNx.out,by rw [HLe.out,HRn.out];omega,HB.out⟩
       |false=>
        have HNx:=hid (show dotsL (toCome rest' false) (out++ [[]])=Dn from by rw [←HRi.out,dots_one,if_pos (by simp [toCome])]);go_wp2_with (first|(go_at_call 80;(with_reducible refine(HCt.out _ (HE.out.below HBo.out)).mono ?_);rintro e w1 ⟨rfl,hb1⟩;have HO:=hid (HOr.out.keep hb1);have HB:=hid (HBr.out.trans (hb1.mono HBr.out.size));clear hb1)|(at_builtin;refine wpList_append_own_at _ rfl (.tmp 35) (.tmp 36) 138 rfl w.heap.size 5 i0 _ 1 1 Tryz.underlying138 hi0 hz0 hz1 hz2 rfl (by decide) (.slice p ln c0) ln (Lib.byteCells (joinS out)) (by go_simp) (by have h8:=HO.out.alloc (.cells #[.int .u8 47] 5 (0,0));unfold Own at h8;rw [HLe.out] at h8;exact h8) ⟨w1.heap.size,0,none⟩ 1 1 [.int .u8 47] (by go_simp) rfl (cells_new w1 _ _) (by simp [Value.oneCell']) (by unfold maxLen;omega) (by omega) (Nat.le_trans HB.out.size (below_new _ _).size) ?_;intro v' w' hown hgr _ _;obtain⟨p7,L7,c7,rfl⟩:=own_slice3 hown;have HB2:=hid (HB.out.trans (((below_new w1 (.cells #[.int .u8 47] 5 (0,0))).mono HB.out.size).trans (Own.below (HO.out.alloc (.cells #[.int .u8 47] 5 (0,0))) (Nat.le_trans HB.out.size (below_new _ _).size) hgr)));have HW:=hid (Own.put (acc:=(joinS out)) (bs:=[47]) (by rw [HLe.out];exact hown) H47.out rfl);clear hown hgr));go_roundg (meas rest' false)
        case measure=>exact HMs.out
        case rel=>exact⟨rest',false,out++ [[]],rfl,rfl,rfl,by rw [join_end];exact HW.out,whole_app HWh.out (by simp),HNx.out,by rw [join_end,List.length_append,HLe.out,HRn.out];simp;omega,HB2.out⟩
     · have HNx:=hid (show dotsL (toCome rest' more') (out++ [t])=Dn from by rw [←HRi.out,dots_else h1 h2]);have q1:((str t).toList== (⟨#[46]⟩:ByteArray).toList)=false:=ne_list (str_ne h1);have q2:((str t).toList== (⟨#[46,46]⟩:ByteArray).toList)=false:=ne_list (str_ne h2);have q3:(t== [46])=false:=by simpa using h1
       have q4:(t== [46,46])=false:=by simpa using h2
       obtain⟨lt,hlt⟩:∃ lt,t.length=lt:=⟨_,rfl⟩;rw [hlt] at hro;have HTs:=hid (show (str t).size=lt from by rw [str_size,hlt]);have HLt:=hid hlt;have HL1:=hid (show (joinS out++ [47]).length=ln+1 from by rw [List.length_append,HLe.out];rfl);clear hlt;go_wp2_with (first|(go_at_call 80;(with_reducible refine(HCt.out _ (HE.out.below HBo.out)).mono ?_);rintro e w1 ⟨rfl,hb1⟩;have HO:=hid (HOr.out.keep hb1);have HB:=hid (HBr.out.trans (hb1.mono HBr.out.size));clear hb1)|(at_builtin;refine wpList_append_own_at _ rfl (.tmp 38) (.tmp 39) 138 rfl w.heap.size 5 i0 _ 1 1 Tryz.underlying138 hi0 hz0 hz1 hz2 rfl (by decide) (.slice p ln c0) ln (Lib.byteCells (joinS out)) (by go_simp) (by have h8:=HO.out.alloc (.cells #[.int .u8 47] 5 (0,0));unfold Own at h8;rw [HLe.out] at h8;exact h8) ⟨w1.heap.size,0,none⟩ 1 1 [.int .u8 47] (by go_simp) rfl (cells_new w1 _ _) (by simp [Value.oneCell']) (by unfold maxLen;omega) (by omega) (Nat.le_trans HB.out.size (below_new _ _).size) ?_;intro v' w7 hown hgr _ _;obtain⟨p7,L7,c7,rfl⟩:=own_slice3 hown;have HB7:=hid (HB.out.trans (((below_new w1 (.cells #[.int .u8 47] 5 (0,0))).mono HB.out.size).trans (Own.below (HO.out.alloc (.cells #[.int .u8 47] 5 (0,0))) (Nat.le_trans HB.out.size (below_new _ _).size) hgr)));have HW7:=hid (Own.put (acc:=(joinS out)) (bs:=[47]) (by rw [HLe.out];exact hown) H47.out rfl);clear hown hgr)|(at_builtin;refine Lib.wpList_append_own_string _ rfl (.tmp 40) (.tmp 41) 138 9 rfl w.heap.size 5 i0 Tryz.underlying138 Tryz.underlying9 hi0 hz0 hz1 hz2 (.slice p7 L7 c7) (ln+1) (Lib.byteCells (joinS out++ [47])) (by go_simp) (by have h8:=HW7.out;unfold Own at h8;rw [HL1.out] at h8;exact h8) (str t) (by go_simp) (by rw [HTs.out];unfold maxLen;omega) (by rw [HTs.out];omega) HB7.out.size ?_;intro v' w8 hown hgr _;obtain⟨p8,L8,c8,rfl⟩:=own_slice3 hown;have HB8:=hid (HB7.out.trans (Own.below HW7.out HB7.out.size hgr));have HW8:=hid (Own.put (acc:=joinS out++ [47]) (bs:=t) (by rw [HL1.out];exact hown) (by rw [strCells_str]) (by rw [HTs.out,HLt.out]));clear hown hgr));go_roundg (meas rest' more')
       case measure=>exact HMs.out
       case rel=>exact⟨rest',more',out++ [t],rfl,rfl,rfl,by rw [join_one,show (joinS out++47::t)=joinS out++ [47]++t from by simp];exact HW8.out,whole_app HWh.out HTn.out,HNx.out,by rw [join_one,List.length_append,HLe.out,HRn.out,List.length_cons,HLt.out];omega,HB8.out⟩
theorem ppath_any (s:B) (hs:s.length≤35184372088832) (w:World):Calls Tryz.prog 48 #[.string (str s)] w fun e w'=>e= .returned (.bool (isPath s))∧w'=w:=by
 have HP:=hid (pprefix_any s);have HM:=hid (made_path s hs);rw [path_made] at HM;have e0:isPath s=(decide (s.head? =some 47) && made [47] true s):=rfl;rw [e0];obtain⟨a,ha⟩:∃ a,decide (s.head? =some 47)=a:=⟨_,rfl⟩;obtain⟨b,hb⟩:∃ b,made [47] true s=b:=⟨_,rfl⟩;obtain⟨S,hS⟩:∃ S,str s=S:=⟨_,rfl⟩;rw [ha,hS] at HP;rw [hb,hS] at HM;rw [ha,hb,hS];clear ha hb hS e0;cases a with
 |true=>
  go_enter Tryz.func48,Tryz.ntmps48;go_wp2_with (first|(go_at_call 87;(with_reducible refine(HP.out _).mono ?_);rintro e w1 ⟨rfl,rfl⟩)|(go_at_call 88;(with_reducible refine(HM.out _).mono ?_);rintro e w1 ⟨rfl,rfl⟩));go_ret;exact⟨rfl,rfl⟩
 |false=>
  go_enter Tryz.func48,Tryz.ntmps48;go_wp2_with (go_at_call 87;(with_reducible refine(HP.out _).mono ?_);rintro e w1 ⟨rfl,rfl⟩);go_ret;exact⟨rfl,rfl⟩
theorem pnormal_any (s:B) (hs:s.length≤4294967280) (w:World) (hE:Env w):Calls Tryz.prog 20 #[.string (str s)] w fun e w'=>e= .returned (decE (normalB s))∧Below w.heap.size w w':=by
 have HP:=hid (ppath_any s (by omega));have HO:=hid (oneway_any s (by omega));have HE:=hid hE;clear hE;cases hp:isPath s with
 |false=>
  have HV:=hid (show normalB s=none from by unfold normalB;rw [hp];rfl);rw [hp] at HP;rw [HV.out];clear HO hp;obtain⟨S,hS⟩:∃ S,str s=S:=⟨_,rfl⟩;rw [hS] at HP ⊢;clear hS;go_enter Tryz.func20,Tryz.ntmps20;go_wp2_with (go_at_call 48;(with_reducible refine(HP.out _).mono ?_);rintro e w1 ⟨rfl,rfl⟩);go_ret2;exact⟨rfl,Below.refl _ _⟩
 |true=>
  obtain⟨l,rfl⟩:∃ l,s=47::l:=by
   cases s with
   |nil=>exact absurd hp (by decide)
   |cons c l=>
    unfold isPath at hp;simp only [List.head?_cons,Option.some.injEq,Bool.and_eq_true,decide_eq_true_eq] at hp;exact⟨l,by rw [hp.1]⟩
  have hm:=meant_cons (c:=47) (by decide) l;have HV:=hid (show normalB (47::l)=(dotsL (cutAt 47 (meantB l)) []).map joinS from by unfold normalB;rw [hp,hm];show Option.map joinS (dotsL (segs (47::meantB l)) [])=_;unfold segs;rw [cutAt,if_pos rfl];rfl);have hml:=meant_len (47::l);rw [hm] at hml HO;have HW:=hid (wdots_any 47 (meantB l) (Nat.le_trans hml hs));rw [hp] at HP;rw [HV.out];clear hp hml hm;obtain⟨V,hV⟩:∃ V,decE ((dotsL (cutAt 47 (meantB l)) []).map joinS)=V:=⟨_,rfl⟩;have HTu:=hid (show ∃ a b,V= .tuple #[a,b] from by rw [←hV];unfold decE;split <;> exact⟨_,_,rfl⟩);rw [hV] at HW ⊢;obtain⟨va,vb,rfl⟩:=HTu.out;obtain⟨S,hS⟩:∃ S,str (47::l)=S:=⟨_,rfl⟩;obtain⟨M,hM⟩:∃ M,str (47::meantB l)=M:=⟨_,rfl⟩;rw [hS] at HP HO ⊢;rw [hM] at HO HW;clear hS hM hV;go_enter Tryz.func20,Tryz.ntmps20;go_wp2_with (first|(go_at_call 48;(with_reducible refine(HP.out _).mono ?_);rintro e w1 ⟨rfl,rfl⟩)|(go_at_call 50;(with_reducible refine(HO.out _).mono ?_);rintro e w2 ⟨rfl,hb⟩;have HB2:=hid hb;clear hb)|(go_at_call 49;(with_reducible refine(HW.out _ (HE.out.below HB2.out)).mono ?_);rintro e w3 ⟨rfl,hb⟩;have HB3:=hid (below_out HB2.out hb);clear hb));go_ret2;exact⟨rfl,HB3.out⟩
end Go.Proofs.YtlmlljlappjjjaaGreatDoor
