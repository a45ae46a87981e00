/- JSON, plain: how much a value that is read holds. -/
import Derived.Test.YtlmefgjhbohjlaaGreatDoorWSz
namespace Go.Proofs.YtlmefgjhbohjlaaGreatDoor
set_option maxRecDepth 20000
set_option maxHeartbeats 64000000
theorem encode_leW (r:Nat):(Lib.encodeRune (r:Int)).length≤4∧(r<128→(Lib.encodeRune (r:Int)).length=1):=by
 refine⟨encode_len _,fun h=>?_⟩;unfold Lib.encodeRune;rw [Lib.encodeRuneZ_one (by omega) (by omega)];rfl
theorem escape_lenW {l u:B}{n:Nat} (h:escape l= .ok n u):(Lib.encodeRune (n:Int)).length+u.length≤l.length+1:=by
 cases l with
 |nil=>simp [escape] at h
 |cons c t=>
  have small:∀ k:Nat,k<128→Res.ok k t=Res.ok n u→(Lib.encodeRune (n:Int)).length+u.length≤(c::t).length+1:=by
   intro k hk e;simp only [Res.ok.injEq] at e;obtain⟨rfl,rfl⟩:=e;have:=(encode_leW k).2 hk;simp only [List.length_cons];omega
  simp only [escape] at h;split at h
  · rename_i hc
    refine small c.toNat ?_ h;rcases hc with rfl|rfl|rfl <;> decide
  split at h
  · exact small 8 (by decide) h
  split at h
  · exact small 12 (by decide) h
  split at h
  · exact small 10 (by decide) h
  split at h
  · exact small 13 (by decide) h
  split at h
  · exact small 9 (by decide) h
  split at h
  · unfold code at h;split at h
    · cases h
    · rename_i m v hm
      obtain⟨-,rfl,b3, -⟩:=four_bound _ _ _ _ _ hm;have hle:=(encode_leW n).1;obtain⟨q,hq⟩:∃ q,(Lib.encodeRune (n:Int)).length=q:=⟨_,rfl⟩;rw [hq] at hle ⊢;clear hq small;split at h
      · cases h
      · rename_i hlow
        split at h
        · rename_i hhigh
          split at h
          · cases h
          · rename_i m2 v2 hm2
            unfold lowHalf at hm2;split at hm2
            · cases hm2
            · obtain⟨-,rfl,c3, -⟩:=four_bound _ _ _ _ _ hm2;simp only [Res.ok.injEq] at h;obtain⟨rfl,rfl⟩:=h;clear hlow hhigh;simp only [List.length_drop,List.length_cons] at c3 ⊢;omega
        · simp only [Res.ok.injEq] at h;obtain⟨rfl,rfl⟩:=h;clear hlow;simp only [List.length_drop,List.length_cons] at b3 ⊢;omega
  · cases h
theorem char_lenW {l u bs:B} (h:char l= .ok bs u):bs.length+u.length≤l.length:=by
 cases l with
 |nil=>simp [char] at h
 |cons c t=>
  simp only [char] at h;split at h
  · cases h
  split at h
  · split at h
    · cases h
    · rename_i n v hv
      have h3:=escape_lenW hv;simp only [Res.ok.injEq] at h;obtain⟨rfl,rfl⟩:=h;simp only [List.length_cons];omega
  split at h
  · cases h
  · rename_i h0
    obtain⟨c',t',e,hle,happ,_⟩:=uni_app (c::t) h0;simp only [Res.ok.injEq] at h;obtain⟨rfl,rfl⟩:=h;rw [List.length_take,List.length_drop];omega
theorem chars_lenW:∀ (f:Nat) (l bs u:B),chars f l= .ok bs u→bs.length+u.length+1≤l.length
 |0,l,bs,u,h=>by simp [chars] at h
 |f+1,l,bs,u,h=>by
  simp only [chars] at h;split at h
  · rename_i h34
    obtain⟨l1,rfl⟩:=name_head h34;simp only [List.drop_succ_cons,List.drop_zero,Res.ok.injEq] at h;obtain⟨rfl,rfl⟩:=h;simp
  · split at h
    · cases h
    · rename_i bs1 u1 hc
      have h2:=char_lenW hc;split at h
      · cases h
      · rename_i cs v hcs
        have h4:=chars_lenW f u1 cs v hcs;simp only [Res.ok.injEq] at h;obtain⟨rfl,rfl⟩:=h;simp only [List.length_append];omega
theorem text_lenW {l bs u:B} (hl:nx l=34) (h:text l= .ok bs u):bs.length+u.length+2≤l.length:=by
 obtain⟨l1,rfl⟩:=name_head hl;have h2:=chars_lenW _ _ _ _ h;simp only [List.drop_succ_cons,List.drop_zero,List.length_cons] at h2 ⊢;omega
mutual
def sizeV:JV→Nat
 | .mk _ _ t _ _ ls ns=>t.length+sizeL_v ls+sizeN ns
def sizeL_v:List JV→Nat
 | []=>0
 |x::xs=>sizeV x+1+sizeL_v xs
def sizeN:List B→Nat
 | []=>0
 |x::xs=>x.length+1+sizeN xs
end
theorem sizeL_snoc (x:JV):∀ xs:List JV,sizeL_v (xs++ [x])=sizeL_v xs+sizeV x+1
 | []=>by simp [sizeL_v]
 |y::ys=>by simp only [List.cons_append,sizeL_v,sizeL_snoc x ys];omega
theorem sizeN_snoc (x:B):∀ xs:List B,sizeN (xs++ [x])=sizeN xs+x.length+1
 | []=>by simp [sizeN]
 |y::ys=>by simp only [List.cons_append,sizeN,sizeN_snoc x ys];omega
theorem sizeL_len:∀ xs:List JV,xs.length≤sizeL_v xs
 | []=>Nat.le_refl _
 |x::xs=>by have:=sizeL_len xs;simp only [sizeL_v,List.length_cons];omega
theorem sizeN_len:∀ xs:List B,xs.length≤sizeN xs∧∀ z∈xs,z.length≤sizeN xs
 | []=>by simp
 |x::xs=>by
  have h:=sizeN_len xs;refine⟨by simp only [sizeN,List.length_cons];omega,fun z hz=>?_⟩;simp only [sizeN];rcases List.mem_cons.1 hz with rfl|hz
  · omega
  · have:=h.2 z hz;omega
mutual
theorem sizeV_fits:∀ t:JV,sizeV t≤1048576→Fits_k t
 | .mk _ _ t _ _ ls ns,h=>by
  simp only [sizeV] at h;have h1:=sizeL_len ls;have h2:=sizeN_len ns;refine⟨by unfold maxI_k;omega,by unfold maxI_k;omega,by unfold maxI_k;omega,fun z hz=>by have:=h2.2 z hz;unfold maxI_k;omega,sizeL_fits ls (by omega)⟩
theorem sizeL_fits:∀ ls:List JV,sizeL_v ls≤1048576→FitsL_k ls
 | [],_=>trivial
 |x::xs,h=>by
  simp only [sizeL_v] at h;exact⟨sizeV_fits x (by omega),sizeL_fits xs (by omega)⟩
end
def SzV (f:B→Res JV):Prop:=∀ l v u,f l= .ok v u→sizeV v+u.length≤l.length∧Nums v
def SzA (acc:List B×List JV):Nat:=sizeL_v acc.2+sizeN acc.1
def NmA (acc:List B×List JV):Prop:=∀ x∈acc.2,Nums x
theorem blanksW (l:B):(blanks l).length≤l.length:=skips_le blanksL l
theorem skip_blanksW {S l t:B} (h:skip S (blanks l)=some t):t.length+1≤l.length:=by
 have h1:(skips blanksL l).length=t.length+1:=skip_length h;have h2:=skips_le blanksL l;omega
theorem nm_snoc {acc:List JV}{v:JV} (h:∀ x∈acc,Nums x) (hv:Nums v):∀ x∈acc++ [v],Nums x:=fun x hx=>by
 rcases List.mem_append.1 hx with hx|hx
 · exact h x hx
 · rw [List.mem_singleton.1 hx];exact hv
theorem listStepW {f:B→Res JV} (h:SzV f) {acc y:List B×List JV}{l u:B} (ha:NmA acc) (e:listStep f acc l= .ok y u):NmA y∧SzA y+u.length≤SzA acc+l.length+1:=by
 unfold listStep at e;split at e
 · cases e
 · rename_i v t ht
   obtain⟨h1,h2⟩:=h _ _ _ ht;simp only [Res.ok.injEq] at e;obtain⟨rfl,rfl⟩:=e;refine⟨nm_snoc ha h2,?_⟩;unfold SzA;simp only [sizeL_snoc];omega
theorem objStepW {f:B→Res JV} (h:SzV f) {acc y:List B×List JV}{l u:B} (ha:NmA acc) (e:objStep f acc l= .ok y u):NmA y∧SzA y+u.length≤SzA acc+l.length+1:=by
 unfold objStep at e;split at e
 · cases e
 · rename_i nm t ht
   split at e
   · cases e
   · rename_i v t2 ht2
     obtain⟨h1,h2⟩:=h _ _ _ ht2;simp only [Res.ok.injEq] at e;obtain⟨rfl,rfl⟩:=e;unfold nameS at ht;split at ht
     · cases ht
     · rename_i h34
       split at ht
       · cases ht
       · rename_i bs v2 hv2
         have g2:=text_lenW (by simpa using h34) hv2;split at ht
         · cases ht
         · split at ht
           · cases ht
           · rename_i t3 ht3
             have g4:=skip_blanksW ht3;simp only [Res.ok.injEq] at ht;obtain⟨rfl,rfl⟩:=ht;have g5:=blanksW t3;refine⟨nm_snoc ha h2,?_⟩;unfold SzA;simp only [sizeL_snoc,sizeN_snoc];omega
theorem partsW {step:List B×List JV→B→Res (List B×List JV)} (hs:∀ {acc y:List B×List JV}{l u:B},NmA acc→step acc l= .ok y u→NmA y∧SzA y+u.length≤SzA acc+l.length+1) (ends:B):
  ∀ (f:Nat) (acc y:List B×List JV) (l u:B),NmA acc→partsF step ends f acc l= .ok y u→NmA y∧SzA y+u.length≤SzA acc+l.length
 |0,acc,y,l,u,_,h=>by simp [partsF] at h
 |f+1,acc,y,l,u,ha,h=>by
  simp only [partsF] at h;split at h
  · cases h
  · rename_i y1 u1 h1
    obtain⟨b1,b2⟩:=hs ha h1;split at h
    · rename_i t ht
      have b3:=skip_blanksW ht;simp only [Res.ok.injEq] at h;obtain⟨rfl,rfl⟩:=h;exact⟨b1,by omega⟩
    · split at h
      · cases h
      · rename_i t ht
        have b3:=skip_blanksW ht;have b4:=blanksW t;obtain⟨c1,c2⟩:=partsW hs ends f _ _ _ _ b1 h;exact⟨c1,by omega⟩
theorem nestedW {step:List B×List JV→B→Res (List B×List JV)} (hs:∀ {acc y:List B×List JV}{l u:B},NmA acc→step acc l= .ok y u→NmA y∧SzA y+u.length≤SzA acc+l.length+1) (ends:B) {y:List B×List JV}{l u:B}
  (h:nestedS step ends ([],[]) l= .ok y u):NmA y∧SzA y+u.length≤l.length:=by
 unfold nestedS at h;split at h
 · rename_i t ht
   have b3:=skip_blanksW ht;simp only [Res.ok.injEq] at h;obtain⟨rfl,rfl⟩:=h;exact⟨by intro x hx;simp at hx,by simp only [SzA,sizeL_v,sizeN];omega⟩
 · obtain⟨c1,c2⟩:=partsW hs ends _ _ _ _ _ (by intro x hx;simp at hx) h;have:=blanksW l;simp only [SzA,sizeL_v,sizeN] at c2 ⊢;exact⟨c1,by omega⟩
theorem wordW {x:Unit}:∀ (w l u:B),word w l= .ok x u→u.length≤l.length
 | [],l,u,h=>by simp only [word,Res.ok.injEq] at h;rw [h.2];exact Nat.le_refl _
 |c::w,[],u,h=>by simp [word] at h
 |c::w,t::r,u,h=>by
  simp only [word] at h;split at h
  · have:=wordW w r u h;simp only [List.length_cons];omega
  · cases h
theorem wordSW {w:B}{v x:JV}{l u:B} (h:wordS w v l= .ok x u) (hv:sizeV v=0∧Nums v):sizeV x+u.length≤l.length∧Nums x:=by
 unfold wordS at h;split at h
 · cases h
 · rename_i y t ht
   simp only [Res.ok.injEq] at h;obtain⟨rfl,rfl⟩:=h;have:=wordW _ _ _ ht;exact⟨by omega,hv.2⟩
theorem nums_flat {k:Int}{b:Bool}{t:B}{n:Int}{h:Bool}{ns:List B} (hn:In64 n):Nums (.mk k b t n h [] ns):=⟨hn,trivial⟩
theorem in64_zero:In64 0:=by unfold In64;omega
theorem numV_sz (t:B):sizeV (numV t)=t.length∧Nums (numV t):=by
 unfold numV;split
 · rename_i v h
   exact⟨by simp [sizeV,sizeL_v,sizeN],nums_flat (Lib.atoiAll_bounds h)⟩
 · exact⟨by simp [sizeV,sizeL_v,sizeN],nums_flat in64_zero⟩
theorem valWithW {inner:Option (B→Res JV)} (hi:∀ f,inner=some f→SzV f):SzV (valWith inner):=by
 intro l v u h;unfold valWith at h;split at h
 · exact wordSW h ⟨rfl,nums_flat in64_zero⟩
 split at h
 · exact wordSW h ⟨rfl,nums_flat in64_zero⟩
 split at h
 · exact wordSW h ⟨rfl,nums_flat in64_zero⟩
 split at h
 · rename_i h34
   split at h
   · cases h
   · rename_i bs t ht
     have g2:=text_lenW h34 ht;simp only [Res.ok.injEq] at h;obtain⟨rfl,rfl⟩:=h;exact⟨by simp only [sizeV,sizeL_v,sizeN];omega,nums_flat in64_zero⟩
 split at h
 · split at h
   · cases h
   · rename_i f
     have hf:=hi f rfl;split at h
     · cases h
     · rename_i x t ht
       obtain⟨c1,c2⟩:=nestedW (fun a b=>listStepW hf a b) _ ht;simp only [Res.ok.injEq] at h;obtain⟨rfl,rfl⟩:=h;simp only [SzA,List.length_drop] at c2;exact⟨by simp only [sizeV,List.length_nil];omega,in64_zero,(numsL_iff _).2 c1⟩
 split at h
 · split at h
   · cases h
   · rename_i f
     have hf:=hi f rfl;split at h
     · cases h
     · rename_i x t ht
       obtain⟨c1,c2⟩:=nestedW (fun a b=>objStepW hf a b) _ ht;simp only [Res.ok.injEq] at h;obtain⟨rfl,rfl⟩:=h;simp only [SzA,List.length_drop] at c2;exact⟨by simp only [sizeV,List.length_nil];omega,in64_zero,(numsL_iff _).2 c1⟩
 split at h
 · cases h
 · rename_i y t ht
   simp only [Res.ok.injEq] at h;obtain⟨rfl,rfl⟩:=h;have hs:=number_short ht;have:=numV_sz (l.take (l.length-t.length));refine⟨?_,this.2⟩;rw [this.1,List.length_take];omega
theorem valW:∀ n,SzV (val n)
 |0=>valWithW (fun f h=>by cases h)
 |n+1=>valWithW (fun f h=>by cases h;exact valW n)
theorem parse_fits (l:B):Fits_k (parse l).1∧Nums (parse l).1:=by
 have hz:Fits_k JV.zero∧Nums JV.zero:=⟨fits_zero,nums_flat in64_zero⟩;unfold parse;split
 · exact hz
 · rename_i hl
   unfold whole;cases hv:val 32 (blanks l) with
   |err k u=>exact hz
   |ok v u=>
    obtain⟨h1,h2⟩:=valW 32 _ _ _ hv;have h3:=blanksW l;dsimp only;split
    · rename_i x y e
      split at e
      · cases e;exact⟨sizeV_fits v (by omega),h2⟩
      · cases e
    · exact hz
open Go.RowKit
mutual
theorem toK {w:World}{F:Nat→Prop}:∀ (t:JV) (cs:List Value),ValIs w F t cs→ValIs_k w F t cs
 | .mk k b t n h ls ns,cs,hv=>by
  unfold ValIs at hv;unfold ValIs_k;obtain⟨lv,nv,e,h1,h2⟩:=hv;exact⟨lv,nv,e,h1.imp (fun g o hx=>⟨hx.1,toKs ls g o hx.2⟩),h2⟩
theorem toKs {w:World}{F:Nat→Prop}:∀ (ls:List JV) (g o:Nat),ValsIs w F ls g o→ValsIs_k w F ls g o
 | [],_,_,_=>trivial
 |x::xs,g,o,hv=>by
  unfold ValsIs at hv;unfold ValsIs_k;obtain⟨⟨cs,h1,h2⟩,h3⟩:=hv;exact⟨⟨cs,toK x cs h1,h2⟩,toKs xs g (o+7) h3⟩
end
theorem results_cfg3 {fn:Func}{p u v:Tmp} (h:fn.results= #[.cell p 26,.tmp u,.tmp v]) (tmps:Array Value) (w:World) (g:Nat) (t:TypeId) (cs:Array Value) (fr:Nat×Nat)
  (hp:tmps.getD p undef= .pointer (some ⟨g,0,none⟩)) (hg:w.heap[g]?=some (.cells cs t fr)) (hs:(Tryz.prog.info? 26).map (·.size)=some cs.size):(results fn tmps).run Tryz.prog w= .ok (.tuple #[.agg cs,tmps.getD u undef,tmps.getD v undef]) w:=by
 have hl:=run_loadVar_row (P:=Tryz.prog) w g t 26 cs fr _ hg Tryz.underlying26 rfl hs;have hp2:tmps[p]?.getD undef= .pointer (some ⟨g,0,none⟩):=by simpa using hp
 simp [results,h,hp2,asAddr,Result.andThen,hl]
def ToldP_v (l:B) (w:World) (e:Ending) (w':World):Prop:=
 ∃ (kq:Option Addr) (kn kk:Nat) (pq:Option Addr) (pn pk:Nat) (rq:Option Addr) (rn rk:Nat) (ks:List KeyC) (ps:List PoolX) (rs:List RouteX) (m1 m2 m3 m4 m5:Int),e= .returned (.tuple #[.agg #[.slice kq kn kk,.slice pq pn pk,.slice rq rn rk,.int .i64 m1,.int .i64 m2,.int .i64 m3,.int .i64 m4,.int .i64 m5],.string (str (parseC askT askB l).2.1),errOf (parseC askT askB l).2.2])∧
  CfgRows w' w.heap.size kq kn kk pq pn pk rq rn rk ks ps rs∧(parseC askT askB l).1=⟨ks,ps.map PoolX.c,rs.map RouteX.c,m1,m2,m3,m4,m5⟩∧Below w.heap.size w w'
theorem rd_open {w w1:World}{t:JV}{c0 c1 c2 c3 c4 c5 c6:Value}{m:Nat} (hE:EnvC w) (hb:Below w.heap.size w w1) (hv:ValIs_k w1 (fun k=>m≤k∧k<w1.heap.size) t [c0,c1,c2,c3,c4,c5,c6]) (hf:Fits_k t) (hn:Nums t) (o:Obj):RdS_v ((w1.alloc o).alloc (.cells #[c0,c1,c2,c3,c4,c5,c6,.bool false,.string ⟨#[]⟩] 61 (0,0))) (w1.heap.size+1) t [c0,c1,c2,c3,c4,c5,c6] none∧True:=by
 have hsz:(w1.alloc o).heap.size=w1.heap.size+1:=by simp
 have hb2:Below w1.heap.size w1 ((w1.alloc o).alloc (.cells #[c0,c1,c2,c3,c4,c5,c6,.bool false,.string ⟨#[]⟩] 61 (0,0))):=below_out (below_new w1 o) (below_new _ _);refine⟨⟨by have h9:=heap_alloc_new (w1.alloc o) (.cells #[c0,c1,c2,c3,c4,c5,c6,.bool false,.string ⟨#[]⟩] 61 (0,0));rw [hsz] at h9;exact h9,⟨fun k=>m≤k∧k<w1.heap.size,fun k hk=>by have:=hk.2;omega,ValIs_k.keep (fun k hk=>hb2.block k hk.2) (fun _ h=>h) _ _ hv⟩,hf,hn,fun W hW=>?_⟩,trivial⟩;have h1:=hb.size;exact hE.next ((hb.trans (hb2.mono h1)).trans (hW.mono (by omega)))
theorem cfg_below {w w1 w2:World}{o o2:Obj} (hs:w.heap.size<w1.heap.size) (hb:Below w.heap.size w w1) (ht:Tg (w1.heap.size+1) ((w1.alloc o).alloc o2) w2):Below w.heap.size w w2:=by
 have hsz:(w1.alloc o).heap.size=w1.heap.size+1:=by simp
 have hb2:Below w.heap.size w ((w1.alloc o).alloc o2):=below_out (below_out hb (below_new w1 o)) (below_new _ _);exact hb2.trans (ht.under (by simp;omega) (by omega))
theorem cfg_zero {w w1 w2:World}{o o2 oz:Obj} (hz:w1.heap[w.heap.size]?=some oz) (ht:Tg (w1.heap.size+1) ((w1.alloc o).alloc o2) w2):w2.heap[w.heap.size]?=some oz:=by
 have hs:=lt_of_heap hz;have hsz:(w1.alloc o).heap.size=w1.heap.size+1:=by simp
 exact(ht.block _ (by simp;omega) (by omega)).trans (((below_out (below_new w1 o) (below_new _ _)).block _ hs).trans hz)
theorem parse_last {l:B}{t:JV}{n:Nat} (h:parse l=(t,n,0)):parseC askT askB l=match (cfgM askB t).2 with
 |some p=>(.zero,p,70)
 |none=>if validC askT (cfgM askB t).1= [] then ((cfgM askB t).1,[],0) else (.zero,validC askT (cfgM askB t).1,70):=by
 unfold parseC;rw [h];exact if_neg (by simp)
theorem size_two (w:World) (o o2:Obj):w.heap.size≤((w.alloc o).alloc o2).heap.size:=by simp;omega
theorem CfgRows.tg {W W':World}{m g:Nat}{kq:Option Addr}{kn kk:Nat}{pq:Option Addr}{pn pk:Nat}{rq:Option Addr}{rn rk:Nat}{ks:List KeyC}{ps:List PoolX}{rs:List RouteX} (h:CfgRows W m kq kn kk pq pn pk rq rn rk ks ps rs) (hg:g<m) (ht:Tg g W W'):CfgRows W' m kq kn kk pq pn pk rq rn rk ks ps rs:=
 ⟨h.nk,h.np,h.nr,h.ok.tg hg ht,h.op.tg hg ht,h.or.tg hg ht,fun x hx=>(h.mp x hx).tg hg ht,fun x hx=>(h.mr x hx).tg hg ht⟩
theorem pparse_wrong (l:B) (hl:l.length≤9223372036854775807) (w:World) (hE0:EnvC w) {t:JV}{n k:Nat} (hKey:KeyTold t) (hp:parse l=(t,n,k)) (hk:k=0) {q:B} (hz:(cfgM askB t).2=some q):Calls Tryz.prog 8 #[.string (str l)] w fun e w'=>ToldP_v l w e w':=by
 have HPj:=hid (parse_any_j (w:=w.alloc (.cells #[.slice none 0 0,.slice none 0 0,.slice none 0 0,.int .i64 0,.int .i64 0,.int .i64 0,.int .i64 0,.int .i64 0] 26 (0,0))) (str l) (by rw [str_size];exact hl) (hE0.next (below_new w _)).j);rw [show (str l).data.toList=l from by simp,hp] at HPj;have HE:=hid hE0;have HFt:=hid (show Fits_k t from by have:=(parse_fits l).1;rw [hp] at this;exact this);have HNm:=hid (show Nums t from by have:=(parse_fits l).2;rw [hp] at this;exact this);subst hk;have HEr:=hid (show errOf_j 0= .nilIface from rfl);have HZz:=hid hz;have HSp:=hid (show parseC askT askB l=(.zero,q,70) from by rw [parse_last hp,hz]);clear hz;clear hE0 hp hl;go_enter Tryz.func8,Tryz.ntmps8;go_wp2_with (first
  |(go_at_call 23;(with_reducible refine HPj.out.mono ?_);rintro e w1 ⟨cs,rfl,hv,hb⟩;have hv2:=toK _ _ hv;obtain⟨k1,k2,k3,k4,k5,k6,k7,k8,k9,k10,k11,rfl⟩:=hv2.form;have HVk:=hid hv2;have HB1:=hid (below_out (below_new w (.cells #[.slice none 0 0,.slice none 0 0,.slice none 0 0,.int .i64 0,.int .i64 0,.int .i64 0,.int .i64 0,.int .i64 0] 26 (0,0))) hb);have HZ1:=hid ((hb.block w.heap.size (by simp)).trans (heap_alloc_new w (.cells #[.slice none 0 0,.slice none 0 0,.slice none 0 0,.int .i64 0,.int .i64 0,.int .i64 0,.int .i64 0,.int .i64 0] 26 (0,0))));have HS1:=hid (show w.heap.size<w1.heap.size from lt_of_heap HZ1.out);have hlt:=HS1.out;rw [HEr.out];clear hb hv hv2)
  |(go_at_call 24;have hro:=rd_open HE.out HB1.out HVk.out HFt.out HNm.out (.cells #[.int .i64 k1,.bool k2,.string (str k3),.int .i64 k4,.bool k5,.slice k6 k7 k8,.slice k9 k10 k11] 57 (0,0));(with_reducible refine(pconfig_of _ _ _ _ hKey hro.1).mono ?_);rintro e w2 ⟨kq,kn,kk,pq,pn,pk,rq,rn,rk,ks,ps,rs,m1,m2,m3,m4,m5,rfl,hrows,hcf,hrd,htg⟩;have HB2:=hid (cfg_below HS1.out HB1.out htg);have HZ2:=hid (cfg_zero HZ1.out htg);have HS2:=hid (lt_of_heap HZ2.out);have hlt2:=HS2.out;have HRw:=hid (hrows.low (Nat.succ_le_of_lt (Nat.lt_of_lt_of_le HS1.out (size_two w1 _ _))));have HCf:=hid hcf;have HRd:=hid hrd;have hlt3:=hrd.lt;rw [HZz.out] at hrd;obtain⟨q0,q1,q2,q3,q4,q5,q6,q7,q8⟩:=cells9 (show w2.heap[w1.heap.size+1]?=some (.cells #[.int .i64 k1,.bool k2,.string (str k3),.int .i64 k4,.bool k5,.slice k6 k7 k8,.slice k9 k10 k11,.bool true,.string (str q)] 61 (0,0)) from hrd.obj);clear hro hrows hcf hrd htg;have hz:=HZ2.out;obtain⟨x0,x1,x2,x3,x4,x5,x6,x7⟩:=cells8 hz;have xf0:=frozen_of_row w2 w.heap.size 0 _ _ hz;have xf1:=frozen_of_row w2 w.heap.size 1 _ _ hz;have xf2:=frozen_of_row w2 w.heap.size 2 _ _ hz;have xf3:=frozen_of_row w2 w.heap.size 3 _ _ hz;have xf4:=frozen_of_row w2 w.heap.size 4 _ _ hz;have xf5:=frozen_of_row w2 w.heap.size 5 _ _ hz;have xf6:=frozen_of_row w2 w.heap.size 6 _ _ hz;have xf7:=frozen_of_row w2 w.heap.size 7 _ _ hz;clear hz))
 have HF:=((below_new (putL w2 w.heap.size 0 [.slice none 0 0,.slice none 0 0,.slice none 0 0,.int .i64 0,.int .i64 0,.int .i64 0,.int .i64 0,.int .i64 0]) (.cells #[.slice kq kn kk,.slice pq pn pk,.slice rq rn rk,.int .i64 m1,.int .i64 m2,.int .i64 m3,.int .i64 m4,.int .i64 m5] 26 (0,0))).block _ (by rw [putL_size];exact HS2.out)).trans (putL_same [.slice none 0 0,.slice none 0 0,.slice none 0 0,.int .i64 0,.int .i64 0,.int .i64 0,.int .i64 0,.int .i64 0] 0 _ _ HZ2.out);have HG:=(below_out ((Tg.put (tg_of HB2.out:Tg w.heap.size w w2) (Nat.le_refl _) 0 [.slice none 0 0,.slice none 0 0,.slice none 0 0,.int .i64 0,.int .i64 0,.int .i64 0,.int .i64 0,.int .i64 0]).under (Nat.le_refl _) (Nat.le_refl _)) (below_new (putL w2 w.heap.size 0 [.slice none 0 0,.slice none 0 0,.slice none 0 0,.int .i64 0,.int .i64 0,.int .i64 0,.int .i64 0,.int .i64 0]) (.cells #[.slice kq kn kk,.slice pq pn pk,.slice rq rn rk,.int .i64 m1,.int .i64 m2,.int .i64 m3,.int .i64 m4,.int .i64 m5] 26 (0,0)))).drew;simp only [putL,setFrom,Nat.reduceAdd,sA,sB,sC] at HF HG;replace HF:=hid HF;replace HG:=hid HG;go_region;go_wp2;refine bodyPost_ret (results_cfg3 rfl _ _ w.heap.size 26 _ (0,0) rfl (show (World.drew _).heap[_]?=_ from HF.out) rfl) rfl ?_;refine⟨none,0,0,none,0,0,none,0,0,[],[],[],0,0,0,0,0,?_,CfgRows.nil _ _,by rw [HSp.out];rfl,HG.out⟩;rw [HSp.out];rfl
theorem pparse_not (l:B) (hl:l.length≤9223372036854775807) (w:World) (hE0:EnvC w) {t:JV}{n k:Nat} (hKey:KeyTold t) (hp:parse l=(t,n,k)) (hk:k=0) (hz:(cfgM askB t).2=none) (hv:validC askT (cfgM askB t).1≠ []):Calls Tryz.prog 8 #[.string (str l)] w fun e w'=>ToldP_v l w e w':=by
 have HPj:=hid (parse_any_j (w:=w.alloc (.cells #[.slice none 0 0,.slice none 0 0,.slice none 0 0,.int .i64 0,.int .i64 0,.int .i64 0,.int .i64 0,.int .i64 0] 26 (0,0))) (str l) (by rw [str_size];exact hl) (hE0.next (below_new w _)).j);rw [show (str l).data.toList=l from by simp,hp] at HPj;have HE:=hid hE0;have HFt:=hid (show Fits_k t from by have:=(parse_fits l).1;rw [hp] at this;exact this);have HNm:=hid (show Nums t from by have:=(parse_fits l).2;rw [hp] at this;exact this);subst hk;have HEr:=hid (show errOf_j 0= .nilIface from rfl);have HZz:=hid hz;have HCz:=hid (show CfgZ (cfgM askB t).1 from cfg_short HFt.out);have HSp:=hid (show parseC askT askB l=(.zero,validC askT (cfgM askB t).1,70) from by rw [parse_last hp,hz];exact if_neg hv);have HVe:=hid (show validE (cfgM askB t).1= .tuple #[.string (str (validC askT (cfgM askB t).1)),.iface 63 (.int .i64 70)] from if_neg hv);obtain⟨V,hV⟩:∃ V,validC askT (cfgM askB t).1=V:=⟨_,rfl⟩;rw [hV] at HSp HVe;clear hz hv hV;clear hE0 hp hl;go_enter Tryz.func8,Tryz.ntmps8;go_wp2_with (first
  |(go_at_call 23;(with_reducible refine HPj.out.mono ?_);rintro e w1 ⟨cs,rfl,hv,hb⟩;have hv2:=toK _ _ hv;obtain⟨k1,k2,k3,k4,k5,k6,k7,k8,k9,k10,k11,rfl⟩:=hv2.form;have HVk:=hid hv2;have HB1:=hid (below_out (below_new w (.cells #[.slice none 0 0,.slice none 0 0,.slice none 0 0,.int .i64 0,.int .i64 0,.int .i64 0,.int .i64 0,.int .i64 0] 26 (0,0))) hb);have HZ1:=hid ((hb.block w.heap.size (by simp)).trans (heap_alloc_new w (.cells #[.slice none 0 0,.slice none 0 0,.slice none 0 0,.int .i64 0,.int .i64 0,.int .i64 0,.int .i64 0,.int .i64 0] 26 (0,0))));have HS1:=hid (show w.heap.size<w1.heap.size from lt_of_heap HZ1.out);have hlt:=HS1.out;rw [HEr.out];clear hb hv hv2)
  |(go_at_call 24;have hro:=rd_open HE.out HB1.out HVk.out HFt.out HNm.out (.cells #[.int .i64 k1,.bool k2,.string (str k3),.int .i64 k4,.bool k5,.slice k6 k7 k8,.slice k9 k10 k11] 57 (0,0));(with_reducible refine(pconfig_of _ _ _ _ hKey hro.1).mono ?_);rintro e w2 ⟨kq,kn,kk,pq,pn,pk,rq,rn,rk,ks,ps,rs,m1,m2,m3,m4,m5,rfl,hrows,hcf,hrd,htg⟩;have HB2:=hid (cfg_below HS1.out HB1.out htg);have HZ2:=hid (cfg_zero HZ1.out htg);have HS2:=hid (lt_of_heap HZ2.out);have hlt2:=HS2.out;have HRw:=hid (hrows.low (Nat.succ_le_of_lt (Nat.lt_of_lt_of_le HS1.out (size_two w1 _ _))));have HCf:=hid hcf;have HRd:=hid hrd;have hlt3:=hrd.lt;rw [HZz.out] at hrd;obtain⟨q0,q1,q2,q3,q4,q5,q6,q7,q8⟩:=cells9 (show w2.heap[w1.heap.size+1]?=some (.cells #[.int .i64 k1,.bool k2,.string (str k3),.int .i64 k4,.bool k5,.slice k6 k7 k8,.slice k9 k10 k11,.bool false,.string (str [])] 61 (0,0)) from hrd.obj);clear hro hrows hcf hrd htg)
  |(go_at_call 14;have hcf:=HCf.out HZz.out;have hcl:=pvalid_any ⟨ks,ps.map PoolX.c,rs.map RouteX.c,m1,m2,m3,m4,m5⟩ kq kk pq pk rq rk (hcf ▸ HCz.out) (w2.alloc (.cells #[.slice kq kn kk,.slice pq pn pk,.slice rq rn rk,.int .i64 m1,.int .i64 m2,.int .i64 m3,.int .i64 m4,.int .i64 m5] 26 (0,0))) (HRd.out.next (below_new w2 _)).e ((HRw.out.next (below_new w2 _)).at m1 m2 m3 m4 m5);have hve:=HVe.out;rw [hcf] at hve;rw [hve] at hcl;simp only [cfgT,cfgV,List.length_map,HRw.out.nk,HRw.out.np,HRw.out.nr] at hcl;(with_reducible refine hcl.mono ?_);rintro e w3 ⟨rfl,hb3⟩;have HB3:=hid (below_out (below_out HB2.out (below_new w2 _)) hb3);have HZ3:=hid ((hb3.block w.heap.size (by simp;omega)).trans (((below_new w2 _).block _ HS2.out).trans HZ2.out));have HS3:=hid (lt_of_heap HZ3.out);have HRw3:=hid ((HRw.out.next (below_new w2 _)).next hb3);obtain⟨y0,y1,y2,y3,y4,y5,y6,y7⟩:=cells8 ((hb3.block w2.heap.size (by simp)).trans (heap_alloc_new w2 (.cells #[.slice kq kn kk,.slice pq pn pk,.slice rq rn rk,.int .i64 m1,.int .i64 m2,.int .i64 m3,.int .i64 m4,.int .i64 m5] 26 (0,0))));clear hcl hve hcf hb3;have hz:=HZ3.out;obtain⟨x0,x1,x2,x3,x4,x5,x6,x7⟩:=cells8 hz;have xf0:=frozen_of_row w3 w.heap.size 0 _ _ hz;have xf1:=frozen_of_row w3 w.heap.size 1 _ _ hz;have xf2:=frozen_of_row w3 w.heap.size 2 _ _ hz;have xf3:=frozen_of_row w3 w.heap.size 3 _ _ hz;have xf4:=frozen_of_row w3 w.heap.size 4 _ _ hz;have xf5:=frozen_of_row w3 w.heap.size 5 _ _ hz;have xf6:=frozen_of_row w3 w.heap.size 6 _ _ hz;have xf7:=frozen_of_row w3 w.heap.size 7 _ _ hz;clear hz))
 have HF:=putL_same [.slice none 0 0,.slice none 0 0,.slice none 0 0,.int .i64 0,.int .i64 0,.int .i64 0,.int .i64 0,.int .i64 0] 0 _ _ HZ3.out;have HG:=(Tg.put (tg_of HB3.out:Tg w.heap.size w w3) (Nat.le_refl _) 0 [.slice none 0 0,.slice none 0 0,.slice none 0 0,.int .i64 0,.int .i64 0,.int .i64 0,.int .i64 0,.int .i64 0]).under (Nat.le_refl _) (Nat.le_refl _);simp only [putL,setFrom,Nat.reduceAdd,sA,sB,sC] at HF HG;refine bodyPost_ret (results_cfg3 rfl _ _ w.heap.size 26 _ (0,0) rfl HF rfl) rfl ?_;refine⟨none,0,0,none,0,0,none,0,0,[],[],[],0,0,0,0,0,?_,CfgRows.nil _ _,by rw [HSp.out];rfl,HG⟩;rw [HSp.out];rfl
theorem pparse_yes (l:B) (hl:l.length≤9223372036854775807) (w:World) (hE0:EnvC w) {t:JV}{n k:Nat} (hKey:KeyTold t) (hp:parse l=(t,n,k)) (hk:k=0) (hz:(cfgM askB t).2=none) (hv:validC askT (cfgM askB t).1= []):Calls Tryz.prog 8 #[.string (str l)] w fun e w'=>ToldP_v l w e w':=by
 have HPj:=hid (parse_any_j (w:=w.alloc (.cells #[.slice none 0 0,.slice none 0 0,.slice none 0 0,.int .i64 0,.int .i64 0,.int .i64 0,.int .i64 0,.int .i64 0] 26 (0,0))) (str l) (by rw [str_size];exact hl) (hE0.next (below_new w _)).j);rw [show (str l).data.toList=l from by simp,hp] at HPj;have HE:=hid hE0;have HFt:=hid (show Fits_k t from by have:=(parse_fits l).1;rw [hp] at this;exact this);have HNm:=hid (show Nums t from by have:=(parse_fits l).2;rw [hp] at this;exact this);subst hk;have HEr:=hid (show errOf_j 0= .nilIface from rfl);have HZz:=hid hz;have HCz:=hid (show CfgZ (cfgM askB t).1 from cfg_short HFt.out);have HSp:=hid (show parseC askT askB l=((cfgM askB t).1,[],0) from by rw [parse_last hp,hz];exact if_pos hv);have HVe:=hid (show validE (cfgM askB t).1= .tuple #[.string ⟨#[]⟩,.nilIface] from if_pos hv);clear hz hv;clear hE0 hp hl;go_enter Tryz.func8,Tryz.ntmps8;go_wp2_with (first
  |(go_at_call 23;(with_reducible refine HPj.out.mono ?_);rintro e w1 ⟨cs,rfl,hv,hb⟩;have hv2:=toK _ _ hv;obtain⟨k1,k2,k3,k4,k5,k6,k7,k8,k9,k10,k11,rfl⟩:=hv2.form;have HVk:=hid hv2;have HB1:=hid (below_out (below_new w (.cells #[.slice none 0 0,.slice none 0 0,.slice none 0 0,.int .i64 0,.int .i64 0,.int .i64 0,.int .i64 0,.int .i64 0] 26 (0,0))) hb);have HZ1:=hid ((hb.block w.heap.size (by simp)).trans (heap_alloc_new w (.cells #[.slice none 0 0,.slice none 0 0,.slice none 0 0,.int .i64 0,.int .i64 0,.int .i64 0,.int .i64 0,.int .i64 0] 26 (0,0))));have HS1:=hid (show w.heap.size<w1.heap.size from lt_of_heap HZ1.out);have hlt:=HS1.out;rw [HEr.out];clear hb hv hv2)
  |(go_at_call 24;have hro:=rd_open HE.out HB1.out HVk.out HFt.out HNm.out (.cells #[.int .i64 k1,.bool k2,.string (str k3),.int .i64 k4,.bool k5,.slice k6 k7 k8,.slice k9 k10 k11] 57 (0,0));(with_reducible refine(pconfig_of _ _ _ _ hKey hro.1).mono ?_);rintro e w2 ⟨kq,kn,kk,pq,pn,pk,rq,rn,rk,ks,ps,rs,m1,m2,m3,m4,m5,rfl,hrows,hcf,hrd,htg⟩;have HB2:=hid (cfg_below HS1.out HB1.out htg);have HZ2:=hid (cfg_zero HZ1.out htg);have HS2:=hid (lt_of_heap HZ2.out);have hlt2:=HS2.out;have HRw:=hid (hrows.low (Nat.succ_le_of_lt (Nat.lt_of_lt_of_le HS1.out (size_two w1 _ _))));have HCf:=hid hcf;have HRd:=hid hrd;have hlt3:=hrd.lt;rw [HZz.out] at hrd;obtain⟨q0,q1,q2,q3,q4,q5,q6,q7,q8⟩:=cells9 (show w2.heap[w1.heap.size+1]?=some (.cells #[.int .i64 k1,.bool k2,.string (str k3),.int .i64 k4,.bool k5,.slice k6 k7 k8,.slice k9 k10 k11,.bool false,.string (str [])] 61 (0,0)) from hrd.obj);clear hro hrows hcf hrd htg)
  |(go_at_call 14;have hcf:=HCf.out HZz.out;have hcl:=pvalid_any ⟨ks,ps.map PoolX.c,rs.map RouteX.c,m1,m2,m3,m4,m5⟩ kq kk pq pk rq rk (hcf ▸ HCz.out) (w2.alloc (.cells #[.slice kq kn kk,.slice pq pn pk,.slice rq rn rk,.int .i64 m1,.int .i64 m2,.int .i64 m3,.int .i64 m4,.int .i64 m5] 26 (0,0))) (HRd.out.next (below_new w2 _)).e ((HRw.out.next (below_new w2 _)).at m1 m2 m3 m4 m5);have hve:=HVe.out;rw [hcf] at hve;rw [hve] at hcl;simp only [cfgT,cfgV,List.length_map,HRw.out.nk,HRw.out.np,HRw.out.nr] at hcl;(with_reducible refine hcl.mono ?_);rintro e w3 ⟨rfl,hb3⟩;have HB3:=hid (below_out (below_out HB2.out (below_new w2 _)) hb3);have HZ3:=hid ((hb3.block w.heap.size (by simp;omega)).trans (((below_new w2 _).block _ HS2.out).trans HZ2.out));have HS3:=hid (lt_of_heap HZ3.out);have HRw3:=hid ((HRw.out.next (below_new w2 _)).next hb3);obtain⟨y0,y1,y2,y3,y4,y5,y6,y7⟩:=cells8 ((hb3.block w2.heap.size (by simp)).trans (heap_alloc_new w2 (.cells #[.slice kq kn kk,.slice pq pn pk,.slice rq rn rk,.int .i64 m1,.int .i64 m2,.int .i64 m3,.int .i64 m4,.int .i64 m5] 26 (0,0))));clear hcl hve hcf hb3;have hz:=HZ3.out;obtain⟨x0,x1,x2,x3,x4,x5,x6,x7⟩:=cells8 hz;have xf0:=frozen_of_row w3 w.heap.size 0 _ _ hz;have xf1:=frozen_of_row w3 w.heap.size 1 _ _ hz;have xf2:=frozen_of_row w3 w.heap.size 2 _ _ hz;have xf3:=frozen_of_row w3 w.heap.size 3 _ _ hz;have xf4:=frozen_of_row w3 w.heap.size 4 _ _ hz;have xf5:=frozen_of_row w3 w.heap.size 5 _ _ hz;have xf6:=frozen_of_row w3 w.heap.size 6 _ _ hz;have xf7:=frozen_of_row w3 w.heap.size 7 _ _ hz;clear hz))
 have HF:=putL_same [.slice kq kn kk,.slice pq pn pk,.slice rq rn rk,.int .i64 m1,.int .i64 m2,.int .i64 m3,.int .i64 m4,.int .i64 m5] 0 _ _ HZ3.out;have HTg:=putL_tg (b:=w.heap.size) [.slice kq kn kk,.slice pq pn pk,.slice rq rn rk,.int .i64 m1,.int .i64 m2,.int .i64 m3,.int .i64 m4,.int .i64 m5] 0 w3;have HG:=(Tg.put (tg_of HB3.out:Tg w.heap.size w w3) (Nat.le_refl _) 0 [.slice kq kn kk,.slice pq pn pk,.slice rq rn rk,.int .i64 m1,.int .i64 m2,.int .i64 m3,.int .i64 m4,.int .i64 m5]).under (Nat.le_refl _) (Nat.le_refl _);have HR:=(HRw3.out.tg (Nat.lt_succ_self _) HTg).low (Nat.le_succ _);simp only [putL,setFrom,Nat.reduceAdd,sA,sB,sC] at HF HG HR;refine bodyPost_ret (results_cfg3 rfl _ _ w.heap.size 26 _ (0,0) rfl HF rfl) rfl ?_;refine⟨kq,kn,kk,pq,pn,pk,rq,rn,rk,ks,ps,rs,m1,m2,m3,m4,m5,?_,HR,by rw [HSp.out];exact HCf.out HZz.out,HG⟩;rw [HSp.out];rfl
def sureC (s:B):CfgC:=⟨[],[⟨[112],[⟨[97,58,56,48],1⟩],1,0,30,0,0,⟨[],0,0,0,0⟩⟩],[⟨[42],[47],[],s,⟨false,[],[],[],0⟩,⟨0,0,0,0⟩⟩],8192,65536,64,60,10⟩
def sureT (s:B):B:=printV (cfgJ askB (sureC s))
theorem sure_back:∀ s:B,BackOk (sureC s):=fun s=>⟨fun x hx=>by simp only [sureC,List.mem_singleton] at hx;subst hx;exact⟨.inl rfl,by simp⟩,fun x hx=>by simp only [sureC,List.mem_singleton] at hx;subst hx;exact⟨fun _=>rfl,.inl rfl⟩,by simp [sureC]⟩
theorem chr_small (d:Int):0≤chr d∧chr d<256:=by
 unfold chr;rw [List.getD_eq_getElem?_getD];by_cases h:d.toNat<chrL.length
 · rw [List.getElem?_eq_getElem h];exact(by decide:∀ x∈chrL,0≤x∧x<256) _ (List.getElem_mem h)
 · rw [List.getElem?_eq_none (by omega)];decide
theorem enc_back (s:B):askB.dec (askB.enc s)=some s:=by
 have ho:Oct (numsB s):=fun x hx=>by
  obtain⟨c,_,rfl⟩:=List.mem_map.1 hx;have:=c.toNat_lt;omega
 have h1:numsB (bytesB (textL (numsB s)))=textL (numsB s):=by
  unfold numsB bytesB;rw [List.map_map];conv=>rhs;rw [←List.map_id (textL (List.map (fun b:UInt8=>(b.toNat:Int)) s))]
  refine List.map_congr_left fun x hx=>?_
  obtain⟨d,hd,rfl⟩:=List.mem_map.1 hx;have h2:=chr_small d;simp only [Function.comp,id,UInt8.toNat_ofNat'];omega
 show (bytesL (numsB (bytesB (textL (numsB s))))).map bytesB=some s;rw [h1,back _ ho];show some ((s.map fun b:UInt8=>(b.toNat:Int)).map fun n=>UInt8.ofNat n.toNat)=some s;rw [List.map_map];refine congrArg some ((List.map_congr_left (g:=id) fun c _=>?_).trans (List.map_id s));simp
theorem sure_parse (s:B) (hv:validN (cfgJ askB (sureC s))=0) (hl:(sureT s).length≤1048576):parseC askT askB (sureT s)=if validC askT (sureC s)= [] then (sureC s,[],0) else (.zero,validC askT (sureC s),70):=by
 have h1:=parse_print hv hl;have h2:=cfg_back askB enc_back (sure_back s);have h3:=parse_last (l:=sureT s) h1;rw [h2] at h3;exact h3
theorem num_zero:Lib.itoa ((0:Nat):Int)= [48]:=by rw [Lib.itoa_nonneg,Lib.decDigits_one (by omega)];rfl
theorem sure_text1:sureT [113]= [123,34,112,111,111,108,115,34,58,91,123,34,110,97,109,101,34,58,34,112,34,44,34,98,97,99,107,101,110,100,115,34,58,91,123,34,97,100,100,114,34,58,34,97,58,56,48,34,125,93,125,93,44,34,114,111,117,116,101,115,34,58,91,123,34,104,111,115,116,34,58,34,42,34,44,34,112,97,116,104,34,58,34,47,34,44,34,112,111,111,108,34,58,34,113,34,125,93,125]:=by decide+kernel
theorem sure_text2:sureT [112]= [123,34,112,111,111,108,115,34,58,91,123,34,110,97,109,101,34,58,34,112,34,44,34,98,97,99,107,101,110,100,115,34,58,91,123,34,97,100,100,114,34,58,34,97,58,56,48,34,125,93,125,93,44,34,114,111,117,116,101,115,34,58,91,123,34,104,111,115,116,34,58,34,42,34,44,34,112,97,116,104,34,58,34,47,34,44,34,112,111,111,108,34,58,34,112,34,125,93,125]:=by decide+kernel
theorem sure_val1:validN (cfgJ askB (sureC [113]))=0:=by decide+kernel
theorem sure_val2:validN (cfgJ askB (sureC [112]))=0:=by decide+kernel
theorem sure_not:validC askT (sureC [113])=behindC (behindC n_routes (Lib.itoa ((0:Nat):Int))) n_pool:=by kernel_rfl
theorem sure_yes:validC askT (sureC [112])= []:=by kernel_rfl
theorem sure_one:parseC askT askB (sureT [113])=(.zero,[114,111,117,116,101,115,46,48,46,112,111,111,108],70):=by
 rw [sure_parse [113] sure_val1 (by rw [sure_text1];decide),sure_not,num_zero];rfl
theorem sure_two:parseC askT askB (sureT [112])=(sureC [112],[],0):=by
 rw [sure_parse [112] sure_val2 (by rw [sure_text2];decide),sure_yes];rfl
end Go.Proofs.YtlmefgjhbohjlaaGreatDoor
