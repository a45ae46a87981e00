/- Configurations, plain: what is printed of one that may be is read as it. -/
import Derived.Test.YtlmefgjhbohjlaaGreatDoorNVal
namespace Go.Proofs.YtlmefgjhbohjlaaGreatDoor
set_option maxRecDepth 20000
set_option maxHeartbeats 16000000
theorem dec_step (u:Nat):∀ x∈Lib.decDigits u,48≤x.toNat∧x.toNat≤57:=by
 induction u using Nat.strongRecOn with
 |_ u ih=>
  intro x hx;rw [Lib.decDigits] at hx;by_cases h:u<10
  · rw [dif_pos h] at hx;simp only [List.mem_cons,List.not_mem_nil,or_false] at hx;subst hx;rw [show (UInt8.ofNat (48+u)).toNat=(48+u) % 256 from by simp];omega
  · rw [dif_neg h] at hx;rcases List.mem_append.1 hx with hx|hx
    · exact ih (u / 10) (by omega) x hx
    · simp only [List.mem_cons,List.not_mem_nil,or_false] at hx;subst hx;rw [show (UInt8.ofNat (48+u % 10)).toNat=(48+u % 10) % 256 from by simp];omega
theorem dec_ne (u:Nat):Lib.decDigits u≠ []:=by
 rw [Lib.decDigits];split <;> simp
theorem numC_dec (i:Nat):numC i=Lib.decDigits i:=by
 unfold numC Lib.itoa;rw [if_neg (by omega)];simp
theorem step_num (i:Nat):Step (numC i):=by
 rw [numC_dec];refine⟨dec_ne i,fun x hx e=>?_⟩;have:=dec_step i x hx;rw [e] at this;simp at this
section
variable {v : JV} {p : B}
theorem at_obj {l:Ms} (h:atV v p=some (objJ l)) {s:B} (hs:stepB s=true):atV v (behindC p s)=getM l s:=by
 rw [at_behind v p (step_of hs),h];exact child_obj l (step_of hs).1
theorem at_list {l:List JV} (h:atV v p=some (listJ l)) (hl:l.length≤1099511627776) {i:Nat} (hi:i<l.length):atV v (behindC p (numC i))=some l[i]:=by
 rw [at_behind v p (step_num i),h];exact child_list l i hi hl (step_num i).1
theorem objM_at {l:Ms}{ns:List B} (h:atV v p=some (objJ l)) (hn:namesIn l ns=true) (z:Option B):objM v p ns z=z:=by
 unfold objM;rw [h,only_obj,hn];rfl
theorem textM_at {s:B} (h:atV v p=some (textJ s)) (z:Option B):textM v p z=(s,z):=by
 unfold textM textE;rw [h];rfl
theorem textD_at {s d:B} (h:atV v p=if s=d then none else some (textJ s)) (z:Option B):textD v p d z=(s,z):=by
 unfold textD;by_cases e:s=d
 · rw [if_pos e] at h;rw [if_pos h,e]
 · rw [if_neg e] at h;rw [if_neg (by rw [h];simp),textM_at h]
theorem intM_at {n:Int} (h:atV v p=some (numJ n)) (z:Option B):intM v p z=(n,z):=by
 unfold intM intE;rw [h];rfl
theorem intD_at {n d:Int} (h:atV v p=if n=d then none else some (numJ n)) (z:Option B):intD v p d z=(n,z):=by
 unfold intD;by_cases e:n=d
 · rw [if_pos e] at h;rw [if_pos h,e]
 · rw [if_neg e] at h;rw [if_neg (by rw [h];simp),intM_at h]
theorem odd_texts (l:List B):oddN (l.map textJ)=none:=by
 unfold oddN;rw [List.findIdx?_eq_none_iff];intro x hx;obtain⟨s,_,rfl⟩:=List.mem_map.1 hx;rfl
theorem textsM_at {l:List B} (h:atV v p=if l= [] then none else some (listJ (l.map textJ))) (z:Option B):textsM v p z=(l,z):=by
 unfold textsM;by_cases e:l= []
 · rw [if_pos e] at h;rw [h,e]
 · rw [if_neg e] at h;rw [h];simp only [listJ,JV.kind,JV.parts,ne_eq,not_true_eq_false,if_false,odd_texts,List.map_map];rw [show (JV.text ∘ textJ)=id from rfl,List.map_id]
variable {α : Type}
theorem loopM_at {f:B→Option B→α×Option B} (xs:List α) (hf:∀ i x,xs[i]?=some x→f (behindC p (numC i)) none=(x,none)):∀ (k i:Nat),k+i=xs.length→loopM f p k i (xs.take i) none=(xs,none)
 |0,i,h=>by
  unfold loopM;rw [List.take_of_length_le (by omega)]
 |k+1,i,h=>by
  have hi:i<xs.length:=by omega
  have hx:=hf i xs[i] (List.getElem?_eq_getElem hi);unfold loopM;rw [if_pos rfl,hx];have:=loopM_at xs hf k (i+1) (by omega);rw [List.take_succ_eq_append_getElem hi] at this;exact this
theorem listM_at {f:B→Option B→α×Option B}{g:α→JV}{xs:List α} (h:atV v p=some (listJ (xs.map g))) (hl:xs.length≤1099511627776) (hf:∀ i x,xs[i]?=some x→atV v (behindC p (numC i))=some (g x)→f (behindC p (numC i)) none=(x,none)):listM f v p none=(xs,none):=by
 have hm:manyM v p none=(xs.length,none):=by
  unfold manyM;rw [h];simp [listJ,JV.kind,JV.parts]
 unfold listM;rw [hm];refine loopM_at xs (fun i x hx=>hf i x hx ?_) xs.length 0 rfl;obtain⟨h1,h2⟩:=List.getElem?_eq_some_iff.1 hx;rw [at_list h (by simpa using hl) (i:=i) (by simpa using h1)];simp [h2]
theorem listD_at {f:B→Option B→α×Option B}{g:α→JV}{xs:List α} (h:atV v p=if xs= [] then none else some (listJ (xs.map g))) (hl:xs.length≤1099511627776) (hf:∀ i x,xs[i]?=some x→atV v (behindC p (numC i))=some (g x)→f (behindC p (numC i)) none=(x,none)):listD f v p none=(xs,none):=by
 unfold listD;by_cases e:xs= []
 · rw [if_pos e] at h;rw [if_pos h,e]
 · rw [if_neg e] at h;rw [if_neg (by rw [h];simp)];exact listM_at h hl hf
end
theorem key_back (k:AskB) (hk:∀ s,k.dec (k.enc s)=some s) {v:JV}{p:B}{x:KeyC} (h:atV v p=some (keyJ k x)):keyM k v p none=(x,none):=by
 unfold keyM;simp only [];rw [objM_at h rfl,textM_at (s:=x.id) ((at_obj h rfl).trans rfl),textM_at (s:=k.enc x.sec) ((at_obj h rfl).trans rfl),hk];rfl
theorem back_back {v:JV}{p:B}{x:BackC} (h:atV v p=some (backJ x)):backM v p none=(x,none):=by
 unfold backM;simp only [];rw [objM_at h (by rw [in_cons,in_optN (by decide)];rfl),textM_at (s:=x.addr) ((at_obj h rfl).trans rfl),intD_at (n:=x.wt) ((at_obj h rfl).trans (by rw [getM_cons,optN_get];rfl))]
theorem break_back {v:JV}{p:B}{a b:Int} (h:atV v p=if a=0∧b=0 then none else some (breakJ a b)):breakM v p none=((a,b),none):=by
 unfold breakM;by_cases e:a=0∧b=0
 · rw [if_pos e] at h;rw [if_pos h,e.1,e.2]
 · rw [if_neg e] at h;rw [if_neg (by rw [h];simp)];simp only [];rw [objM_at h rfl,intM_at (n:=a) ((at_obj h rfl).trans rfl),intM_at (n:=b) ((at_obj h rfl).trans rfl)]
theorem probe_back {v:JV}{p:B}{x:ProbeC} (h:atV v p=if x=⟨[],0,0,0,0⟩ then none else some (probeJ x)):probeM v p none=(x,none):=by
 unfold probeM;by_cases e:x=⟨[],0,0,0,0⟩
 · rw [if_pos e] at h;rw [if_pos h,e]
 · rw [if_neg e] at h;rw [if_neg (by rw [h];simp)];simp only [];rw [objM_at h rfl,textM_at (s:=x.path) ((at_obj h rfl).trans rfl),intM_at (n:=x.every) ((at_obj h rfl).trans rfl),intM_at (n:=x.timeout) ((at_obj h rfl).trans rfl),intM_at (n:=x.rise) ((at_obj h rfl).trans rfl),intM_at (n:=x.fall) ((at_obj h rfl).trans rfl)]
theorem auth_back {v:JV}{p:B}{x:AuthC} (h:atV v p=if x.on then some (authJ x) else none) (hz:x.on=false→x=⟨false,[],[],[],0⟩):authM v p none=(x,none):=by
  unfold authM
  by_cases e:x.on=true
  · rw [if_pos e] at h
    rw [if_neg (by rw [h];simp)]
    simp only []
    have hn:namesIn (optT n_issuer x.iss []++(optT n_audience x.aud []++(optL n_scopes x.scopes++optN n_leeway x.leeway 0))) [n_issuer,n_audience,n_scopes,n_leeway]=true:=by
      rw [in_app,in_app,in_app,in_optT (by decide),in_optT (by decide),in_optL (by decide),in_optN (by decide)];rfl
    rw [objM_at h hn,textD_at (s:=x.iss) ((at_obj h rfl).trans (by simp [getM_app,optT_get,optL_get,optN_get,Option.or_none])),
      textD_at (s:=x.aud) ((at_obj h rfl).trans (by simp [getM_app,optT_get,optL_get,optN_get,Option.or_none])),
      textsM_at (l:=x.scopes) ((at_obj h rfl).trans (by simp [getM_app,optT_get,optL_get,optN_get,Option.or_none])),
      intD_at (n:=x.leeway) ((at_obj h rfl).trans (by simp [getM_app,optT_get,optL_get,optN_get])),←e]
  · rw [if_neg e] at h
    rw [if_pos h,hz (by simpa using e)]
theorem lim_back {v:JV}{p:B}{x:LimC} (h:atV v p=if x=⟨0,0,0,0⟩ then none else some (limJ x)) (hb:x=⟨0,0,0,0⟩∨x.by_=1∨x.by_=2):limM v p none=(x,none):=by
 unfold limM;by_cases e:x=⟨0,0,0,0⟩
 · rw [if_pos e] at h;rw [if_pos h,e]
 · rw [if_neg e] at h;rw [if_neg (by rw [h];simp)];simp only [];obtain⟨by_,r,q,u⟩:=x;rw [objM_at h rfl,textM_at (s:=byW by_) ((at_obj h rfl).trans rfl)];have hw:wordM [(n_client,1),(n_subject,2)] (byW by_,none) (behindC p n_by)=(by_,none):=by
    rcases hb with hb|hb|hb
    · exact absurd hb e
    · simp only at hb;subst hb;rfl
    · simp only at hb;subst hb;rfl
   rw [hw,intM_at (n:=r) ((at_obj h rfl).trans rfl),intM_at (n:=q) ((at_obj h rfl).trans rfl),intM_at (n:=u) ((at_obj h rfl).trans rfl)]
theorem pool_names (x:PoolC):namesIn (poolMs x) [n_name,n_backends,n_policy,n_retries,n_timeout,n_breaker,n_probe]=true:=by
 unfold poolMs;rw [in_app,in_app,in_app,in_app,in_app,in_optT (by decide),in_optN (by decide),in_optN (by decide),in_ite (by decide),in_ite (by decide)];rfl
theorem route_names (x:RouteC):namesIn (routeMs x) [n_host,n_path,n_methods,n_pool,n_auth,n_limit]=true:=by
 unfold routeMs;rw [in_app,in_app,in_cons (n_pool,_),in_app,in_optL (by decide),in_ite2 (by decide),in_ite (by decide)];rfl
theorem cfg_names (k:AskB) (c:CfgC):namesIn (cfgMs k c) [n_keys,n_pools,n_routes,n_maxhead,n_maxbody,n_maxconns,n_idle,n_header]=true:=by
 unfold cfgMs;rw [in_app,in_cons,in_cons,in_app,in_app,in_app,in_app,in_ite (by decide),in_optN (by decide),in_optN (by decide),in_optN (by decide),in_optN (by decide),in_optN (by decide)];rfl
theorem pool_back {v:JV}{p:B}{x:PoolC} (h:atV v p=some (poolJ x)) (hp:x.policy=1∨x.policy=2) (hl:x.backs.length≤1099511627776):poolM v p none=(x,none):=by
 unfold poolM;simp only [];have g1:atV v (behindC p n_policy)=if polW x.policy=n_turns then none else some (textJ (polW x.policy)):=(at_obj h rfl).trans (by simp [poolMs,getM_cons,getM_app,optT_get,optN_get,ite_get])
 have g2:atV v (behindC p n_retries)=if x.retries=0 then none else some (numJ x.retries):=(at_obj h rfl).trans (by simp [poolMs,getM_cons,getM_app,optT_get,optN_get,ite_get])
 have g3:atV v (behindC p n_timeout)=if x.timeout=30 then none else some (numJ x.timeout):=(at_obj h rfl).trans (by simp [poolMs,getM_cons,getM_app,optT_get,optN_get,ite_get])
 have g4:atV v (behindC p n_breaker)=if x.fails=0∧x.opn=0 then none else some (breakJ x.fails x.opn):=(at_obj h rfl).trans (by simp [poolMs,getM_cons,getM_app,optT_get,optN_get,ite_get])
 have g5:atV v (behindC p n_probe)=if x.probe=⟨[],0,0,0,0⟩ then none else some (probeJ x.probe):=(at_obj h rfl).trans (by simp [poolMs,getM_cons,getM_app,optT_get,optN_get,ite_get])
 rw [objM_at h (pool_names x),textM_at (s:=x.name) ((at_obj h rfl).trans rfl),listM_at (g:=backJ) (xs:=x.backs) ((at_obj h rfl).trans rfl) hl (fun _ _ _ h=>back_back h),textD_at g1];have hw:wordM [(n_turns,1),(n_hash,2)] (polW x.policy,none) (behindC p n_policy)=(x.policy,none):=by
  rcases hp with hp|hp <;> rw [hp] <;> rfl
 rw [hw,intD_at g2,intD_at g3,break_back g4,probe_back g5]
theorem route_back {v:JV}{p:B}{x:RouteC} (h:atV v p=some (routeJ x)) (ha:x.auth.on=false→x.auth=⟨false,[],[],[],0⟩) (hb:x.lim=⟨0,0,0,0⟩∨x.lim.by_=1∨x.lim.by_=2):routeM v p none=(x,none):=by
 unfold routeM;simp only [];have g1:atV v (behindC p n_methods)=if x.methods= [] then none else some (listJ (x.methods.map textJ)):=(at_obj h rfl).trans (by simp [routeMs,getM_cons,getM_app,optL_get,ite_get,ite_get2])
 have g2:atV v (behindC p n_pool)=some (textJ x.pool):=(at_obj h rfl).trans (by simp [routeMs,getM_cons,getM_app,optL_get]);have g3:atV v (behindC p n_auth)=if x.auth.on then some (authJ x.auth) else none:=(at_obj h rfl).trans (by simp [routeMs,getM_cons,getM_app,optL_get,ite_get,ite_get2])
 have g4:atV v (behindC p n_limit)=if x.lim=⟨0,0,0,0⟩ then none else some (limJ x.lim):=(at_obj h rfl).trans (by simp [routeMs,getM_cons,getM_app,optL_get,ite_get,ite_get2])
 rw [objM_at h (route_names x),textM_at (s:=x.host) ((at_obj h rfl).trans rfl),textM_at (s:=x.path) ((at_obj h rfl).trans rfl),textsM_at g1,textM_at g2,auth_back g3 ha,lim_back g4 hb]
def BackOk (c:CfgC):Prop:=(∀ x∈c.pools,(x.policy=1∨x.policy=2)∧x.backs.length≤1099511627776)∧(∀ x∈c.routes,(x.auth.on=false→x.auth=⟨false,[],[],[],0⟩)∧(x.lim=⟨0,0,0,0⟩∨x.lim.by_=1∨x.lim.by_=2))∧
 c.keys.length≤1099511627776∧c.pools.length≤1099511627776∧c.routes.length≤1099511627776
theorem cfg_back (k:AskB) (hk:∀ s,k.dec (k.enc s)=some s) {c:CfgC} (h:BackOk c):cfgM k (cfgJ k c)=(c,none):=by
 obtain⟨h1,h2,h3,h4,h5⟩:=h;have h0:atV (cfgJ k c) []=some (cfgJ k c):=rfl;have at0:∀ s:B,stepB s=true→atV (cfgJ k c) s=getM (cfgMs k c) s:=fun s hs=>at_obj (p:=[]) h0 hs
 unfold cfgM;simp only [];have g0:atV (cfgJ k c) n_keys=if c.keys= [] then none else some (listJ (c.keys.map (keyJ k))):=(at0 _ rfl).trans (by simp [cfgMs,getM_cons,getM_app,optN_get,ite_get])
 have g1:atV (cfgJ k c) n_pools=some (listJ (c.pools.map poolJ)):=(at0 _ rfl).trans (by simp [cfgMs,getM_cons,getM_app,ite_get]);have g2:atV (cfgJ k c) n_routes=some (listJ (c.routes.map routeJ)):=(at0 _ rfl).trans (by simp [cfgMs,getM_cons,getM_app,ite_get]);have g3:atV (cfgJ k c) n_maxhead=if c.maxhead=8192 then none else some (numJ c.maxhead):=(at0 _ rfl).trans (by simp [cfgMs,getM_cons,getM_app,optN_get,ite_get])
 have g4:atV (cfgJ k c) n_maxbody=if c.maxbody=65536 then none else some (numJ c.maxbody):=(at0 _ rfl).trans (by simp [cfgMs,getM_cons,getM_app,optN_get,ite_get])
 have g5:atV (cfgJ k c) n_maxconns=if c.maxconns=64 then none else some (numJ c.maxconns):=(at0 _ rfl).trans (by simp [cfgMs,getM_cons,getM_app,optN_get,ite_get])
 have g6:atV (cfgJ k c) n_idle=if c.idle=60 then none else some (numJ c.idle):=(at0 _ rfl).trans (by simp [cfgMs,getM_cons,getM_app,optN_get,ite_get])
 have g7:atV (cfgJ k c) n_header=if c.header=10 then none else some (numJ c.header):=(at0 _ rfl).trans (by simp [cfgMs,getM_cons,getM_app,optN_get,ite_get])
 rw [objM_at (l:=cfgMs k c) h0 (cfg_names k c),listD_at g0 h3 (fun _ _ _ h=>key_back k hk h),listM_at g1 h4 (fun i x hx h=>pool_back h (h1 x (List.mem_of_getElem? hx)).1 (h1 x (List.mem_of_getElem? hx)).2),
  listM_at g2 h5 (fun i x hx h=>route_back h (h2 x (List.mem_of_getElem? hx)).1 (h2 x (List.mem_of_getElem? hx)).2),intD_at g3,intD_at g4,intD_at g5,intD_at g6,intD_at g7]
theorem behind_ne {p s:B} (h:s≠ []):behindC p s≠ []:=by
 unfold behindC;split
 · exact h
 · simp
open Go.RowKit
structure Cells7w (w:World) (g:Nat) (a b c d e f h:Value):Prop where
 c0:w.cell? ⟨g,0,none⟩=some a
 c1:w.cell? ⟨g,1,none⟩=some b
 c2:w.cell? ⟨g,2,none⟩=some c
 c3:w.cell? ⟨g,3,none⟩=some d
 c4:w.cell? ⟨g,4,none⟩=some e
 c5:w.cell? ⟨g,5,none⟩=some f
 c6:w.cell? ⟨g,6,none⟩=some h
theorem cells7w {w:World}{g:Nat}{a b c d e f h:Value}{T:TypeId} (H:w.heap[g]?=some (.cells #[a,b,c,d,e,f,h] T (0,0))):Cells7w w g a b c d e f h:=by
 refine⟨?_,?_,?_,?_,?_,?_,?_⟩ <;> simp [World.cell?,H]
theorem OwnR.tg {α:Type}{T:TypeId}{sz:Nat}{f:α→List Value}{w w':World}{b g:Nat}{v:Value}{l:List α} (h:OwnR T sz f w b v l) (hb:g<b) (ht:Tg g w w'):OwnR T sz f w' b v l:=
 h.keepB fun k e=>ht.block k (h.lt e) (fun e2=>by have:=own_ge h e;omega)
theorem RdS_v.un {W W':World}{g n:Nat}{t:JV}{cs:List Value}{z:Option B} (h:RdS_v W g t cs z) (hb:Below n W W') (hn:g<n):RdS_v W' g t cs z:=
 ⟨(hb.block g hn).trans h.obj,h.val.below (hb.mono (Nat.le_of_lt hn)),h.fits,h.nums,fun V hV=>h.env V ((hb.mono (Nat.le_of_lt hn)).trans hV)⟩
theorem Tg.un {w W W':World}{g:Nat} (h:Tg g w W) (hb:Below w.heap.size W W'):Tg g w W':=
 ⟨hb.os.trans h.os,hb.tape.trans h.tape,hb.output.trans h.output,Nat.le_trans h.size hb.size,fun k hk hf=>(hb.block k hk).trans (h.block k hk hf)⟩
def ToldE {E α:Type} (V:E→Value) (M:World→E→Prop) (prj:E→α) (g:Nat) (t:JV) (cs:List Value) (r:α×Option B) (w:World) (e:Ending) (w':World):Prop:=
 ∃ x,e= .returned (V x)∧M w' x∧(r.2=none→prj x=r.1)∧RdS_v w' g t cs r.2∧Tg g w w'
def ToldL {E α:Type} (T:TypeId) (sz:Nat) (f:E→List Value) (M:World→E→Prop) (prj:E→α) (g:Nat) (t:JV) (cs:List Value) (r:List α×Option B) (w:World) (e:Ending) (w':World):Prop:=
 ∃ (q:Option Addr) (n c:Nat) (acc:List E),e= .returned (.slice q n c)∧acc.length=n∧OwnR T sz f w' w.heap.size (.slice q n c) acc∧(∀ x∈acc,M w' x)∧(r.2=none→acc.map prj=r.1)∧RdS_v w' g t cs r.2∧Tg g w w'
theorem loop_step {α:Type} (F:B→Option B→α×Option B) (p:B) (k i:Nat) (l:List α):loopM F p (k+1) i l none=loopM F p k (i+1) (l++ [(F (behindC p (numC i)) none).1]) (F (behindC p (numC i)) none).2:=by
 show (if (none:Option B)=none then _ else _)=_;rw [if_pos rfl]
theorem path_num {p:B}{S:ByteArray} (i:Nat) (h:p≠ []) (hS:str p=S):S++(⟨#[46]⟩:ByteArray)++str (numT i)=str (behindC p (numC i)):=by
 subst hS;have e:behindC p (numC i)=p++46::numT i:=by unfold behindC;rw [if_neg h];rfl
 rw [e];apply arr_inj;simp
theorem many_none {t:JV}{p:B}{z:Option B} (h:goto t (steps p)=none):manyM t p z=(0,failM z p):=by unfold manyM atV;rw [h]
theorem many_bad {t x:JV}{p:B}{z:Option B} (h:goto t (steps p)=some x) (hk:¬x.kind=5):manyM t p z=(0,failM z p):=by unfold manyM atV;rw [h];exact if_neg hk
theorem many_good {t x:JV}{p:B}{z:Option B} (h:goto t (steps p)=some x) (hk:x.kind=5):manyM t p z=(x.parts.length,z):=by unfold manyM atV;rw [h];exact if_pos hk
theorem on_parts {W:World}{k:Int}{b:Bool}{tx:B}{n:Int}{hh:Bool}{ls:List JV}{ns:List B}{cs:List Value} (h:ValOn_k W (.mk k b tx n hh ls ns) cs):∃ p1 c1 p2 n2 c2,cs= [.int .i64 k,.bool b,.string (str tx),.int .i64 n,.bool hh,.slice p1 ls.length c1,.slice p2 n2 c2]:=by
 obtain⟨F,_,h⟩:=h;unfold ValIs_k at h;obtain⟨lv,nv,rfl,h1,h2⟩:=h;obtain⟨p1,c1,rfl,_⟩:=h1;obtain⟨p2,c2,rfl,_⟩:=h2;exact⟨p1,c1,p2,_,c2,rfl⟩
theorem info_text:(Tryz.prog.info? 9).map (fun i=>(i.zero,i.size,i.bytes))=some (some (.string ⟨#[]⟩),1,16):=by kernel_rfl
theorem plist_text (g:Nat) (t:JV) (cs:List Value) (z:Option B) (p:B) (X:ByteArray) (hX:X=str p) (hp0:p≠ []) (hp:p.length≤500) (w:World) (hOne:∀ (q:B) (Y:ByteArray) (W:World),w.heap.size≤W.heap.size→Y=str q→q≠ []→q.length≤1000→RdS_v W g t cs none→Calls Tryz.prog 126 #[.pointer (some ⟨g,0,none⟩),.string Y] W fun e w'=>ToldE (fun x:B=>.string (str x)) (fun _ _=>True) (id) g t cs (textM t q none) W e w') (h:RdS_v w g t cs z):Calls Tryz.prog 208 #[.pointer (some ⟨g,0,none⟩),.string X,.func (.func 126) #[.pointer (some ⟨g,0,none⟩)] #[]] w fun e w'=>ToldL 9 1 (fun x:B=>[.string (str x)]) (fun _ _=>True) (id) g t cs (listM (textM t) t p z) w e w':=by
 obtain⟨i0,hi0,hz0,hz1,hz2⟩:=info_parts info_text;have HR:=hid h;have HLg:=hid h.lt;have HAt:=hid (at_any t p (by omega) w cs h.fits h.e.k h.on);rw [←hX] at HAt;have HFl:=hid (fun (W:World) (hr:RdS_v W g t cs z)=>pfail_any g t cs z p W hr);rw [←hX] at HFl;obtain⟨k1,k2,k3,k4,k5,k6,k7,k8,k9,k10,k11,hcs⟩:=h.val.form;have HC9:=hid (fun (W:World) (z':Option B) (hr:RdS_v W g t cs z')=>cells9 (show W.heap[g]?=some (.cells #[.int .i64 k1,.bool k2,.string (str k3),.int .i64 k4,.bool k5,.slice k6 k7 k8,.slice k9 k10 k11,.bool z'.isSome,.string (str (z'.getD []))] 61 (0,0)) from by have:=hr.obj;rw [hcs] at this;exact this));obtain⟨q0,q1,q2,q3,q4,q5,q6,q7,q8⟩:=HC9.out w z h;rw [hcs] at HAt;have hfits:=h.fits;have g1:X.size≤512:=by rw [hX,str_size];omega
 have HPt:=hid (fun i:Nat=>path_num (S:=X) i hp0 hX.symm);have HPl:=hid (fun (i:Nat) (hi:i≤9223372036854775807)=>(show (behindC p (numC i)).length≤1000 from by have:=path_len (numC i) hp0 500 hp (by have:=numT_len i hi;have e:numC i=numT i:=rfl;rw [e];omega);omega));have HPn:=hid (fun i:Nat=>(behind_ne (p:=p) (show numC i≠ [] from(step_num i).1)));have HOne:=hid hOne;obtain⟨r,hr⟩:∃ r,goto t (steps p)=r:=⟨_,rfl⟩;have HGo:=hid hr;rw [hr] at HAt;clear h hX hp hp0 hOne hr hcs;have bad:∀ (v0:JV) (c0:Nat) (w1:World) (cs1:List Value),True:=fun _ _ _ _=>trivial
 clear bad;cases r with
 |none=>
  have HSp:=hid (show listM (textM t) t p z=([],failM z p) from by unfold listM;rw [many_none HGo.out];rfl);rw [HSp.out];have HE:=hid (show errOf (codeN none)= .iface 63 (.int .i64 8) from rfl);clear HOne HPt HPl HPn hfits HGo HSp;go_enter Tryz.func208,Tryz.ntmps208;go_wp2_with (first
   |(go_at_call 124;(with_reducible refine HAt.out.mono ?_);rintro e w1 ⟨cs1,rfl,hv1,hb⟩;rw [HE.out];have HB1:=hid hb;obtain⟨u1,c1,u2,n2,c2,rfl⟩:=on_parts (show ValOn_k w1 (.mk 0 false [] 0 false [] []) cs1 from hv1);clear hb hv1)
   |(go_at_call 123;(with_reducible refine(HFl.out _ ((HR.out.next HB1.out).next (below_new w1 _))).mono ?_);rintro e w2 ⟨rfl,hr2,ht2⟩;have HR2:=hid hr2;have HT2:=hid (((tg_of HB1.out).new _).on ht2);have hblk:=(ht2.block w1.heap.size (by simp) (by have:=HLg.out;have:=HB1.out.size;omega)).trans (heap_alloc_new w1 _);obtain⟨y0,y1,y2,y3,y4,y5,y6⟩:=cells7w hblk;clear hr2 ht2 hblk))
  go_loopg [9,33] 1 (fun gk s9 s33 wr=>gk=1∧s9= .slice none 0 0∧s33= .int .i64 0∧wr=w2)
  case atStart=>exact⟨rfl,rfl,rfl,rfl⟩
  case round=>
   obtain⟨rfl,rfl,rfl,rfl⟩:=hrel;go_wp2;go_ret;exact⟨none,0,0,[],rfl,rfl,OwnR.nil _ _,(by simp),(fun _=>rfl),HR2.out,HT2.out⟩
 |some x=>
 obtain⟨xk,xb,xt,xn,xh,xl,xs⟩:=x;have hxf:=fits_goto _ _ _ hfits HGo.out;have hn20:xl.length≤1048576:=by unfold Fits_k at hxf;exact hxf.2.1
 have HE:=hid (show errOf (codeN (some (.mk xk xb xt xn xh xl xs)))= .nilIface from rfl);clear hfits hxf;by_cases hk5:xk=5
 case neg=>
  have HSp:=hid (show listM (textM t) t p z=([],failM z p) from by unfold listM;rw [many_bad HGo.out (show ¬(JV.mk xk xb xt xn xh xl xs).kind=5 from hk5)];rfl);rw [HSp.out];have hk5b:(xk== 5)=false:=by simpa using hk5
  have hk5c:(xk != 5)=true:=by simpa using hk5
  obtain⟨n,hn⟩:∃ n,xl.length=n:=⟨_,rfl⟩;have HN:=hid hn;clear HOne HPt HPl HPn HGo HSp hn;go_enter Tryz.func208,Tryz.ntmps208;go_wp2_with (first
   |(go_at_call 124;(with_reducible refine HAt.out.mono ?_);rintro e w1 ⟨cs1,rfl,hv1,hb⟩;rw [HE.out];have HB1:=hid hb;obtain⟨u1,c1,u2,n2,c2,rfl⟩:=on_parts (show ValOn_k w1 (.mk xk xb xt xn xh xl xs) cs1 from hv1);rw [HN.out];clear hb hv1)
   |(go_at_call 123;(with_reducible refine(HFl.out _ ((HR.out.next HB1.out).next (below_new w1 _))).mono ?_);rintro e w2 ⟨rfl,hr2,ht2⟩;have HR2:=hid hr2;have HT2:=hid (((tg_of HB1.out).new _).on ht2);have hblk:=(ht2.block w1.heap.size (by simp) (by have:=HLg.out;have:=HB1.out.size;omega)).trans (heap_alloc_new w1 _);obtain⟨y0,y1,y2,y3,y4,y5,y6⟩:=cells7w hblk;clear hr2 ht2 hblk))
  go_loopg [9,33] 1 (fun gk s9 s33 wr=>gk=1∧s9= .slice none 0 0∧s33= .int .i64 0∧wr=w2)
  case atStart=>exact⟨rfl,rfl,rfl,rfl⟩
  case round=>
   obtain⟨rfl,rfl,rfl,rfl⟩:=hrel;by_cases hn0:n=0
   · subst hn0;go_wp2;go_ret;exact⟨none,0,0,[],rfl,rfl,OwnR.nil _ _,(by simp),(fun _=>rfl),HR2.out,HT2.out⟩
   · have hn1:0<n:=by omega
     obtain⟨_,_,_,_,_,_,_,q7b,_⟩:=HC9.out _ _ HR2.out;rw [show (failM z p).isSome=true from rfl] at q7b;go_wp2;go_ret;exact⟨none,0,0,[],rfl,rfl,OwnR.nil _ _,(by simp),(fun _=>rfl),HR2.out,HT2.out⟩
 subst hk5;have HSp:=hid (show listM (textM t) t p z=loopM (textM t) p xl.length 0 [] z from by unfold listM;rw [many_good HGo.out (by rfl)];rfl);rw [HSp.out];obtain⟨n,hn⟩:∃ n,xl.length=n:=⟨_,rfl⟩;have HN:=hid hn;rw [hn] at hn20 ⊢;obtain⟨R,hR⟩:∃ R,loopM (textM t) p n 0 [] z=R:=⟨_,rfl⟩;have HLp:=hid hR;rw [hR];have HTx:=hid (fun (i:Nat) (hi:i≤9223372036854775807) (W:World) (hE:EnvC W)=>ptext_any i hi W hE);clear HFl HGo HSp hn hR;go_enter Tryz.func208,Tryz.ntmps208;go_wp2_with (go_at_call 124;(with_reducible refine HAt.out.mono ?_);rintro e w1 ⟨cs1,rfl,hv1,hb⟩;rw [HE.out];have HB1:=hid hb;obtain⟨u1,c1,u2,n2,c2,rfl⟩:=on_parts (show ValOn_k w1 (.mk 5 xb xt xn xh xl xs) cs1 from hv1);rw [HN.out];clear hb hv1);go_loopg [9,33] (n+1) (fun gk s9 s33 wr=>∃ (i d:Nat) (q:Option Addr) (acc:List (B)) (A:List (B)) (zi:Option B),i≤n∧gk=n-i+1∧s33= .int .i64 (i:Int)∧s9= .slice q i d∧Hid (acc.length=i)∧Hid (loopM (textM t) p (n-i) i A zi=R)∧Hid (zi=none→acc.map (id)=A)∧Hid (OwnR 9 1 (fun x:B=>[.string (str x)]) wr w.heap.size (.slice q i d) acc)∧Hid (∀ y∈acc,(fun _ _=>True) wr y)∧Hid (RdS_v wr g t cs zi)∧Hid (Tg g w wr))
 case atStart=>exact⟨0,0,none,[],[],z,Nat.zero_le _,rfl,rfl,rfl,rfl,HLp.out,(fun _=>rfl),OwnR.nil _ _,(by intro y hy;simp at hy),(HR.out.next HB1.out).next (below_new w1 _),(tg_of HB1.out).new _⟩
 case round=>
  clear HLp q0 q1 q2 q3 q4 q5 q6 q7 q8;obtain⟨i,d,q,acc,A,zi,hi,rfl,rfl,rfl,HK,HL,HA,HO,HMm,HRi,HT⟩:=hrel;by_cases hin:i<n
  case neg=>
   obtain rfl:n=i:=by omega
   have HV:=hid (show R=(A,zi) from by rw [←HL.out,Nat.sub_self];rfl);go_wp2;go_ret;rw [HV.out];exact⟨q,n,d,acc,rfl,HK.out,HO.out,HMm.out,HA.out,HRi.out,HT.out⟩
  obtain⟨_,_,_,_,_,_,_,q7b,_⟩:=HC9.out _ _ HRi.out;cases zi with
  |some zq=>
   have HV:=hid (show R=(A,some zq) from by rw [←HL.out];exact loopM_some _ _ _ _ _ _);go_wp2;go_ret;rw [HV.out];exact⟨q,i,d,acc,rfl,HK.out,HO.out,HMm.out,HA.out,HRi.out,HT.out⟩
  |none=>
   have HAe:=hid (HA.out rfl);have HLs:=hid (show loopM (textM t) p (n-(i+1)) (i+1) (A++ [(textM t (behindC p (numC i)) none).1]) (textM t (behindC p (numC i)) none).2=R from by rw [←HL.out,show n-i=(n-(i+1))+1 from by omega];exact(loop_step _ _ _ _ _).symm);have HPi:=hid (HPt.out i);have HOi:=hid (fun (Y:ByteArray) (W:World) (hY:Y=str (behindC p (numC i))) (hwW:w.heap.size≤W.heap.size) (hr:RdS_v W g t cs none)=>HOne.out (behindC p (numC i)) Y W hwW hY (HPn.out i) (HPl.out i (by omega)) hr);have HTi:=hid (fun (W:World) (hE:EnvC W)=>HTx.out i (by omega) W hE);have hnl:=numT_len i (by omega);have hz2s:=str_size (numT i);obtain⟨S2,hS2⟩:∃ S,str (numT i)=S:=⟨_,rfl⟩;rw [hS2] at hz2s HTi HPi;obtain⟨rr,hrr⟩:∃ r,textM t (behindC p (numC i)) none=r:=⟨_,rfl⟩;rw [hrr] at HLs HOi;clear HL HA hS2 hrr;have g2:S2.size≤21:=by omega
   clear hnl hz2s;go_wp2_with (first
    |(go_at_call 125;(with_reducible refine(HTi.out _ HRi.out.e).mono ?_);rintro e wa ⟨rfl,hba⟩;have HRa:=hid (HRi.out.next hba);have HTa:=hid (HT.out.below hba);have HOa:=hid (HO.out.keep hba);skip;clear hba)
    |(go_at_call 126;(with_reducible refine(HOi.out _ _ HPi.out HTa.out.size HRa.out).mono ?_);rintro e wb ⟨x,rfl,hm,hpr,hr,ht⟩;have HRb:=hid hr;have HTb:=hid (HTa.out.on ht);have HOb:=hid (HOa.out.tg HLg.out ht);skip;have HPr:=hid hpr;clear hr ht hpr hm)
    |(at_builtin;refine wpList_append_own_at _ rfl (.tmp 40) (.tmp 48) 52 rfl w.heap.size 9 i0 _ 1 16 Tryz.underlying52 hi0 hz0 hz1 hz2 rfl (by decide) (.slice q i d) i (acc.flatMap (fun x:B=>[.string (str x)])) (by go_simp) (by have h8:=HOb.out.alloc (.cells #[.string (str x)] 9 (0,0));unfold OwnR at h8;rw [HK.out] at h8;exact h8) ⟨wb.heap.size,0,none⟩ 1 1 [.string (str x)] (by go_simp) rfl (cells_new wb _ _) (by simp [Value.oneCell']) (by unfold maxLen;omega) (by omega) (by have h1:=HTb.out.size;simp;omega) ?_;intro v6 w5 hown hgr _ _;obtain⟨p7,L7,c7,rfl⟩:=own_slice3 hown;have HO5:=hid (show OwnR 9 1 (fun x:B=>[.string (str x)]) w5 w.heap.size (.slice p7 L7 c7) (acc++ [x]) from OwnR.put HK.out hown);have HB5:=hid ((HOb.out.alloc (.cells #[.string (str x)] 9 (0,0))).below (by have h1:=HTb.out.size;simp;omega) hgr);obtain⟨hL7,_⟩:L7=i+1∧True:=⟨row_len hown,trivial⟩;subst hL7;skip;clear hown hgr))
   go_roundg (n-(i+1)+1)
   case measure=>omega
   case rel=>exact⟨i+1,c7,p7,acc++ [x],A++ [rr.1],rr.2,by omega,rfl,by push_cast;go_num,rfl,(by show _=_;rw [List.length_append,HK.out];rfl),HLs.out,(fun h0=>by rw [List.map_append,HAe.out];show _++ [(id) x]=_;rw [HPr.out h0]),HO5.out,(fun _ _=>trivial),(HRb.out.next (below_new wb _)).un HB5.out HLg.out,(HTb.out.new _).un HB5.out⟩
theorem idx_words (a b s:B) (ha:a≠ []) (hb:b≠ []) (hab:a≠b):Lib.idxOfS [(⟨#[]⟩:ByteArray),str a,str b] (str s)=if s= [] then 0 else if s=a then 1 else if s=b then 2 else -1:=by
 have e0:((⟨#[]⟩:ByteArray)=str s)↔s= []:=⟨fun h=>(str_inj (a:=[]) h).symm,fun h=>by rw [h]⟩;have ea:(str a=str s)↔s=a:=⟨fun h=>(str_inj h).symm,fun h=>by rw [h]⟩;have eb:(str b=str s)↔s=b:=⟨fun h=>(str_inj h).symm,fun h=>by rw [h]⟩;unfold Lib.idxOfS;simp only [Lib.idxFromS];by_cases h0:s= []
 · subst h0;simp
 · have n0:¬(⟨#[]⟩:ByteArray)=str s:=fun e=>h0 (e0.1 e)
   rw [if_neg h0];by_cases h1:s=a
   · subst h1;simp [n0]
   · have n1:¬str a=str s:=fun e=>h1 (ea.1 e)
     rw [if_neg h1];by_cases h2:s=b
     · subst h2;simp [n0,n1]
     · have n2:¬str b=str s:=fun e=>h2 (eb.1 e)
       rw [if_neg h2];simp [n0,n1,n2]
theorem word_ans (a b s p:B) (z:Option B) (hab:a≠b):(s=a∧wordM [(a,1),(b,2)] (s,z) p=(1,z))∨(s=b∧s≠a∧wordM [(a,1),(b,2)] (s,z) p=(2,z))∨(s≠a∧s≠b∧wordM [(a,1),(b,2)] (s,z) p=(0,failM z p)):=by
 by_cases h1:s=a
 · left;refine⟨h1,?_⟩;unfold wordM;simp [List.lookup,h1]
 · by_cases h2:s=b
   · right;left;refine⟨h2,h1,?_⟩;unfold wordM;simp [List.lookup,h2];have:¬b=a:=fun e=>hab e.symm
     simp [beq_eq_false_iff_ne.2 this]
   · right;right;refine⟨h1,h2,?_⟩;unfold wordM;simp [List.lookup,beq_eq_false_iff_ne.2 h1,beq_eq_false_iff_ne.2 h2]
structure WsAt (w:World) (b:Nat) (x y:B):Prop where
 row:w.heap[b]?=some (.cells #[.string ⟨#[]⟩,.string (str x),.string (str y)] 9 (0,0))
theorem WsAt.at {w:World}{b:Nat}{x y:B} (h:WsAt w b x y):∀ j,j< [(⟨#[]⟩:ByteArray),str x,str y].length→w.cell? ⟨b,0+j,none⟩=some (.string ([(⟨#[]⟩:ByteArray),str x,str y].getD j ByteArray.empty)):=by
 intro j hj;have hj3:j<3:=hj
 match j,hj3 with
 |0,_=>simp [World.cell?,h.row]
 |1,_=>simp [World.cell?,h.row]
 |2,_=>simp [World.cell?,h.row]
theorem pword_of (g:Nat) (t:JV) (cs:List Value) (z:Option B) (p:B) (X:ByteArray) (hX:X=str p) (hp:p.length≤4096) (a b:B) (ha:a≠ []) (hb:b≠ []) (hab:a≠b) (ws c:Nat) (w:World) (h:RdS_v w g t cs z) (hw:WsAt w ws a b) (hg:ws≠g):Calls Tryz.prog 130 #[.pointer (some ⟨g,0,none⟩),.string X,.slice (some ⟨ws,0,none⟩) 3 c] w fun e w'=>ToldE (fun n:Int=>.int .i64 n) (fun _ _=>True) id g t cs (wordM [(a,1),(b,2)] (textM t p z) p) w e w':=by
 have HT:=hid (ptext_of g t cs z p X hX hp w h);have HIx:=hid (fun (s:B) (W:World) (hh:WsAt W ws a b)=>(show Calls Tryz.prog 207 #[.slice (some ⟨ws,0,none⟩) 3 c,.string (str s)] W fun e w'=>e= .returned (.int .i64 (if s= [] then 0 else if s=a then 1 else if s=b then 2 else -1))∧w'=W from by
  have h1:=Tryz.slices_Index_string ws 0 3 c [(⟨#[]⟩:ByteArray),str a,str b] (str s) W (by simp) (by omega) hh.at;rw [show List.take 3 [(⟨#[]⟩:ByteArray),str a,str b]= [(⟨#[]⟩:ByteArray),str a,str b] from rfl,idx_words a b s ha hb hab] at h1;exact h1))
 obtain⟨⟨s,z1⟩,e1⟩:∃ r,textM t p z=r:=⟨_,rfl⟩;rw [e1] at HT ⊢;have HF:=hid (fun (W:World) (hr:RdS_v W g t cs z1)=>pfail_any g t cs z1 p W hr);rw [←hX] at HF;dsimp only at HT;have HW:=hid hw;have HG:=hid hg;have HIs:=hid (HIx.out s);obtain⟨S,hS⟩:∃ S,str s=S:=⟨_,rfl⟩;rw [hS] at HT HIs;rcases word_ans a b s p z1 hab with ⟨h1,e2⟩|⟨h1,h2,e2⟩|⟨h1,h2,e2⟩
 · rw [e2];rw [show (if s= [] then (0:Int) else if s=a then 1 else if s=b then 2 else -1)=1 from by rw [if_neg (by rw [h1];exact ha),if_pos h1]] at HIs;clear h hX hp hS h1 hg hw e1 e2 HIx;go_enter Tryz.func130,Tryz.ntmps130;go_wp2_with (first
    |(go_at_call 126;(with_reducible refine HT.out.mono ?_);rintro e w1 ⟨rfl,hr,ht⟩;have HR1:=hid hr;have HT1:=hid ht;have HW1:=hid (WsAt.mk ((ht.block ws (lt_of_heap HW.out.row) HG.out).trans HW.out.row));clear hr ht)
    |(go_at_call 207;(with_reducible refine(HIs.out _ HW1.out).mono ?_);rintro e w2 ⟨rfl,hw2⟩;subst w2))
   go_ret;exact⟨1,rfl,trivial,fun _=>rfl,HR1.out,HT1.out⟩
 · rw [e2];rw [show (if s= [] then (0:Int) else if s=a then 1 else if s=b then 2 else -1)=2 from by rw [if_neg (by rw [h1];exact hb),if_neg h2,if_pos h1]] at HIs;clear h hX hp hS h1 h2 hg hw e1 e2 HIx;go_enter Tryz.func130,Tryz.ntmps130;go_wp2_with (first
    |(go_at_call 126;(with_reducible refine HT.out.mono ?_);rintro e w1 ⟨rfl,hr,ht⟩;have HR1:=hid hr;have HT1:=hid ht;have HW1:=hid (WsAt.mk ((ht.block ws (lt_of_heap HW.out.row) HG.out).trans HW.out.row));clear hr ht)
    |(go_at_call 207;(with_reducible refine(HIs.out _ HW1.out).mono ?_);rintro e w2 ⟨rfl,hw2⟩;subst w2))
   go_ret;exact⟨2,rfl,trivial,fun _=>rfl,HR1.out,HT1.out⟩
 · rw [e2];obtain⟨m,hm⟩:∃ m:Int,(if s= [] then (0:Int) else if s=a then 1 else if s=b then 2 else -1)=m:=⟨_,rfl⟩;have hm2:m≤0:=by rw [←hm,if_neg h1,if_neg h2];split <;> omega
   have hm3:decide (m≤0)=true:=decide_eq_true hm2;rw [hm] at HIs;clear h hX hp hS h1 h2 hg hw e1 e2 HIx hm;go_enter Tryz.func130,Tryz.ntmps130;go_wp2_with (first
    |(go_at_call 126;(with_reducible refine HT.out.mono ?_);rintro e w1 ⟨rfl,hr,ht⟩;have HR1:=hid hr;have HT1:=hid ht;have HW1:=hid (WsAt.mk ((ht.block ws (lt_of_heap HW.out.row) HG.out).trans HW.out.row));clear hr ht)
    |(go_at_call 207;(with_reducible refine(HIs.out _ HW1.out).mono ?_);rintro e w2 ⟨rfl,hw2⟩;subst w2)
    |(go_at_call 123;(with_reducible refine(HF.out _ HR1.out).mono ?_);rintro e w3 ⟨rfl,hr3,ht3⟩;have HR3:=hid hr3;have HT3:=hid (HT1.out.on ht3);clear hr3 ht3))
   go_ret;exact⟨m,rfl,trivial,fun h0=>by simp [failM] at h0,HR3.out,HT3.out⟩
theorem ptexts_of (g:Nat) (t:JV) (cs:List Value) (z:Option B) (p:B) (X:ByteArray) (hX:X=str p) (hp0:p≠ []) (hp:p.length≤500) (w:World) (h:RdS_v w g t cs z):Calls Tryz.prog 134 #[.pointer (some ⟨g,0,none⟩),.string X] w fun e w'=>ToldL 9 1 (fun x:B=>[.string (str x)]) (fun _ _=>True) id g t cs (listD (textM t) t p z) w e w':=by
 have HR:=hid h;have HA:=hid (phas_any g t cs z p X hX (by omega) w h);have HT:=hid (fun (W:World) (hb:Below w.heap.size w W)=>plist_text g t cs z p X hX hp0 hp W (fun q Y V _ hY _ hql hr=>(ptext_of g t cs none q Y hY (by omega) V hr).mono (by rintro e w' ⟨rfl,hr2,ht2⟩;exact⟨(textM t q none).1,rfl,trivial,fun _=>rfl,hr2,ht2⟩)) (h.next hb));unfold listD;clear h hX;by_cases h0:atV t p=none
 · rw [h0] at HA;rw [if_pos h0];clear h0 HT;go_enter Tryz.func134,Tryz.ntmps134;go_wp2_with (go_at_call 61;(with_reducible refine HA.out.mono ?_);rintro e w1 ⟨rfl,hb⟩;have HB1:=hid hb;clear hb);go_ret;exact⟨none,0,0,[],rfl,rfl,OwnR.nil _ _,(by simp),(fun _=>rfl),HR.out.next HB1.out,tg_of HB1.out⟩
 · rw [if_neg h0];rw [show (atV t p).isSome=true from Option.isSome_iff_ne_none.2 h0] at HA;clear h0;go_enter Tryz.func134,Tryz.ntmps134;go_wp2_with (first
    |(go_at_call 61;(with_reducible refine HA.out.mono ?_);rintro e w1 ⟨rfl,hb⟩;have HB1:=hid hb;clear hb)
    |(go_at_call 208;(with_reducible refine(HT.out _ HB1.out).mono ?_);rintro e w2 ⟨q,n,c,acc,rfl,hn,ho,hm,ha,hr2,ht2⟩;have HN:=hid hn;have HO:=hid (ho.lower HB1.out.size);have HA2:=hid ha;have HR2:=hid hr2;have HT2:=hid ((tg_of HB1.out).on ht2);clear hn ho hm ha hr2 ht2))
   go_ret;exact⟨q,n,c,acc,rfl,HN.out,HO.out,fun _ _=>trivial,HA2.out,HR2.out,HT2.out⟩
end Go.Proofs.YtlmefgjhbohjlaaGreatDoor
