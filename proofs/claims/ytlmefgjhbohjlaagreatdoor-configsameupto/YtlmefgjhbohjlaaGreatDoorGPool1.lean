/- Configurations, plain: their parts, and the first place at which one is wrong, by the document. What the other layers are asked (is it an address, a path, a pattern ..) is a letter. -/
import Derived.Test.YtlmefgjhbohjlaaGreatDoorCBytes
namespace Go.Proofs.YtlmefgjhbohjlaaGreatDoor
open Go.RowKit
abbrev n_id:B:=[105,100]
abbrev n_secret:B:=[115,101,99,114,101,116]
abbrev n_name:B:=[110,97,109,101]
abbrev n_backends:B:=[98,97,99,107,101,110,100,115]
abbrev n_addr:B:=[97,100,100,114]
abbrev n_weight:B:=[119,101,105,103,104,116]
abbrev n_policy:B:=[112,111,108,105,99,121]
abbrev n_retries:B:=[114,101,116,114,105,101,115]
abbrev n_timeout:B:=[116,105,109,101,111,117,116]
abbrev n_breaker:B:=[98,114,101,97,107,101,114]
abbrev n_fails:B:=[102,97,105,108,115]
abbrev n_open:B:=[111,112,101,110]
abbrev n_probe:B:=[112,114,111,98,101]
abbrev n_path:B:=[112,97,116,104]
abbrev n_every:B:=[101,118,101,114,121]
abbrev n_rise:B:=[114,105,115,101]
abbrev n_fall:B:=[102,97,108,108]
abbrev n_host:B:=[104,111,115,116]
abbrev n_methods:B:=[109,101,116,104,111,100,115]
abbrev n_pool:B:=[112,111,111,108]
abbrev n_auth:B:=[97,117,116,104]
abbrev n_issuer:B:=[105,115,115,117,101,114]
abbrev n_audience:B:=[97,117,100,105,101,110,99,101]
abbrev n_scopes:B:=[115,99,111,112,101,115]
abbrev n_leeway:B:=[108,101,101,119,97,121]
abbrev n_limit:B:=[108,105,109,105,116]
abbrev n_by:B:=[98,121]
abbrev n_rate:B:=[114,97,116,101]
abbrev n_per:B:=[112,101,114]
abbrev n_burst:B:=[98,117,114,115,116]
abbrev n_keys:B:=[107,101,121,115]
abbrev n_pools:B:=[112,111,111,108,115]
abbrev n_routes:B:=[114,111,117,116,101,115]
abbrev n_maxhead:B:=[109,97,120,104,101,97,100]
abbrev n_maxbody:B:=[109,97,120,98,111,100,121]
abbrev n_maxconns:B:=[109,97,120,99,111,110,110,115]
abbrev n_idle:B:=[105,100,108,101]
abbrev n_header:B:=[104,101,97,100,101,114]
abbrev n_turns:B:=[116,117,114,110,115]
abbrev n_hash:B:=[104,97,115,104]
abbrev n_client:B:=[99,108,105,101,110,116]
abbrev n_subject:B:=[115,117,98,106,101,99,116]
structure KeyC where
 id:B
 sec:B
 deriving DecidableEq
structure BackC where
 addr:B
 wt:Int
 deriving DecidableEq
structure ProbeC where
 path:B
 every:Int
 timeout:Int
 rise:Int
 fall:Int
 deriving DecidableEq
structure PoolC where
 name:B
 backs:List BackC
 policy:Int
 retries:Int
 timeout:Int
 fails:Int
 opn:Int
 probe:ProbeC
 deriving DecidableEq
structure AuthC where
 on:Bool
 iss:B
 aud:B
 scopes:List B
 leeway:Int
 deriving DecidableEq
structure LimC where
 by_:Int
 rate:Int
 per:Int
 burst:Int
 deriving DecidableEq
structure RouteC where
 host:B
 path:B
 methods:List B
 pool:B
 auth:AuthC
 lim:LimC
 deriving DecidableEq
structure CfgC where
 keys:List KeyC
 pools:List PoolC
 routes:List RouteC
 maxhead:Int
 maxbody:Int
 maxconns:Int
 idle:Int
 header:Int
 deriving DecidableEq
structure AskC where
 addr:B→Bool
 norm:B→Bool
 host:B→Bool
 path:B→Bool
 utf:B→Bool
 /-- the text of a number -/
 num:Nat→B
def inC (n lo hi:Int):Bool:=decide (lo≤n) && decide (n≤hi)
def tokC (s:B) (most:Int):Bool:=isTok (str s) && decide ((s.length:Int)≤most)
def toksC (l:List B) (most:Int):Bool:=decide (l.length≤16) && l.all (tokC · most) && decide l.Nodup
def behindC (p s:B):B:=if p= [] then s else p++46::s
def probeC (k:AskC) (p:ProbeC):B:=
 if inC p.every 0 1048576=false then n_every
 else if p.every=0 then
  if p.path≠ [] then n_path else if p.timeout≠0 then n_timeout else if p.rise≠0 then n_rise else if p.fall≠0 then n_fall else []
 else if (k.norm p.path && decide (p.path.length≤256) && decide (p.path.head? =some 47) && p.path.all (fun c=>visB (c.toNat:Int)))=false then n_path
 else if inC p.timeout 1 p.every=false then n_timeout
 else if inC p.rise 1 100=false then n_rise
 else if inC p.fall 1 100=false then n_fall
 else []
def backsFrom (k:AskC) (i:Nat) (ahead:List BackC):List BackC→B
 | []=>[]
 |b::l=>
  if (k.addr b.addr && ahead.all (fun a=>decide (a.addr≠b.addr)))=false then behindC (behindC n_backends (k.num i)) n_addr
  else if inC b.wt 1 256=false then behindC (behindC n_backends (k.num i)) n_weight
  else backsFrom k (i+1) (ahead++ [b]) l
def backsC (k:AskC) (l:List BackC):B:=if inC l.length 1 32=false then n_backends else backsFrom k 0 [] l
def poolC (k:AskC) (p:PoolC):B:=
 if backsC k p.backs≠ [] then backsC k p.backs
 else if p.policy≠1∧p.policy≠2 then n_policy
 else if inC p.retries 0 8=false then n_retries
 else if inC p.timeout 1 1048576=false then n_timeout
 else if inC p.fails 0 1000=false then n_breaker++46::n_fails
 else if (p.fails=0∧p.opn≠0)∨(0<p.fails∧inC p.opn 1 1048576=false) then n_breaker++46::n_open
 else if probeC k p.probe≠ [] then n_probe++46::probeC k p.probe
 else []
def keysFrom (k:AskC) (i:Nat) (ahead:List KeyC):List KeyC→B
 | []=>[]
 |x::l=>
  if (tokC x.id 64 && ahead.all (fun a=>decide (a.id≠x.id)))=false then behindC (behindC n_keys (k.num i)) n_id
  else if inC x.sec.length 1 256=false then behindC (behindC n_keys (k.num i)) n_secret
  else keysFrom k (i+1) (ahead++ [x]) l
def keysC (k:AskC) (l:List KeyC):B:=if 16<l.length then n_keys else keysFrom k 0 [] l
def poolsFrom (k:AskC) (i:Nat) (ahead:List PoolC):List PoolC→B
 | []=>[]
 |p::l=>
  if (tokC p.name 64 && ahead.all (fun a=>decide (a.name≠p.name)))=false then behindC (behindC n_pools (k.num i)) n_name
  else if poolC k p≠ [] then behindC (behindC n_pools (k.num i)) (poolC k p)
  else poolsFrom k (i+1) (ahead++ [p]) l
def poolsC (k:AskC) (l:List PoolC):B:=if inC l.length 1 32=false then n_pools else poolsFrom k 0 [] l
def authC (k:AskC) (a:AuthC):B:=
 if (decide (256<a.iss.length) || !k.utf a.iss || (!a.on && decide (a.iss≠ [])))=true then n_issuer
 else if (decide (256<a.aud.length) || !k.utf a.aud || (!a.on && decide (a.aud≠ [])))=true then n_audience
 else if (!toksC a.scopes 64 || (!a.on && decide (0<a.scopes.length)))=true then n_scopes
 else if (!inC a.leeway 0 1048576 || (!a.on && decide (a.leeway≠0)))=true then n_leeway
 else []
def limC (l:LimC) (on:Bool):B:=
 if (decide (l.by_<0) || decide (2<l.by_) || (decide (l.by_=2) && !on))=true then n_by
 else if inC l.rate (if l.by_=0 then 0 else 1) (if l.by_=0 then 0 else 1048576)=false then n_rate
 else if inC l.per (if l.by_=0 then 0 else 1) (if l.by_=0 then 0 else 1048576)=false then n_per
 else if inC l.burst (if l.by_=0 then 0 else 1) (if l.by_=0 then 0 else 1048576)=false then n_burst
 else []
def poolAt (l:List PoolC) (s:B):Option Nat:=l.findIdx? (fun p=>decide (p.name=s))
def routesFrom (k:AskC) (ps:List PoolC) (i:Nat):List RouteC→B
 | []=>[]
 |x::l=>
  if k.host x.host=false then behindC (behindC n_routes (k.num i)) n_host
  else if k.path x.path=false then behindC (behindC n_routes (k.num i)) n_path
  else if toksC x.methods 32=false then behindC (behindC n_routes (k.num i)) n_methods
  else if poolAt ps x.pool=none then behindC (behindC n_routes (k.num i)) n_pool
  else if authC k x.auth≠ [] then behindC (behindC n_routes (k.num i)) (n_auth++46::authC k x.auth)
  else if limC x.lim x.auth.on≠ [] then behindC (behindC n_routes (k.num i)) (n_limit++46::limC x.lim x.auth.on)
  else routesFrom k ps (i+1) l
def routesC (k:AskC) (ps:List PoolC) (l:List RouteC):B:=if inC l.length 1 64=false then n_routes else routesFrom k ps 0 l
def validC (k:AskC) (c:CfgC):B:=
 if keysC k c.keys≠ [] then keysC k c.keys
 else if poolsC k c.pools≠ [] then poolsC k c.pools
 else if routesC k c.pools c.routes≠ [] then routesC k c.pools c.routes
 else if inC c.maxhead 64 65536=false then n_maxhead
 else if inC c.maxbody 0 1048576=false then n_maxbody
 else if inC c.maxconns 1 64=false then n_maxconns
 else if inC c.idle 1 1048576=false then n_idle
 else if inC c.header 1 1048576=false then n_header
 else []
theorem toks_snoc (l:List B) (i:Nat) (x:B) (h:l[i]?=some x):l.take (i+1)=l.take i++ [x]:=by
 obtain⟨h1,h2⟩:=List.getElem?_eq_some_iff.1 h;rw [List.take_add_one,h];rfl
def toksTo (l:List B) (most:Int) (i:Nat):Prop:=(∀ x∈l.take i,tokC x most=true)∧(l.take i).Nodup
theorem toksTo.zero (l:List B) (most:Int):toksTo l most 0:=⟨by simp,by simp⟩
theorem toksTo.next {l:List B}{most:Int}{i:Nat}{x:B} (h:toksTo l most i) (hx:l[i]?=some x) (ht:tokC x most=true) (hn:x∉l.take i):toksTo l most (i+1):=by
 unfold toksTo;rw [toks_snoc l i x hx];refine⟨fun y hy=>?_,?_⟩
 · rcases List.mem_append.1 hy with h1|h1
   · exact h.1 y h1
   · rw [List.mem_singleton.1 h1];exact ht
 · rw [List.nodup_append];refine⟨h.2,by simp,fun a ha b hb=>?_⟩;rw [List.mem_singleton.1 hb];intro e;exact hn (e ▸ ha)
theorem toksC_bad {l:List B}{most:Int}{i:Nat}{x:B} (hx:l[i]?=some x) (h:tokC x most=false):toksC l most=false:=by
 unfold toksC;have h2:l.all (tokC · most)=false:=by
  rw [List.all_eq_false];exact⟨x,List.mem_of_getElem? hx,by rw [h];simp⟩
 rw [h2,Bool.and_false,Bool.false_and]
theorem toksC_twice {l:List B}{most:Int}{i j:Nat}{x:B} (hij:j<i) (hi:l[i]?=some x) (hj:l[j]?=some x):toksC l most=false:=by
 unfold toksC;have h2:¬l.Nodup:=by
  intro hn;obtain⟨h3,h4⟩:=List.getElem?_eq_some_iff.1 hi;obtain⟨h5,h6⟩:=List.getElem?_eq_some_iff.1 hj;exact(List.pairwise_iff_getElem.1 hn) j i h5 h3 hij (h6.trans h4.symm)
 rw [decide_eq_false h2,Bool.and_false]
def TsAt (w:World) (p:Option Addr) (l:List B):Prop:=∀ (j:Nat) (t:B),l[j]?=some t→∃ g o,p=some ⟨g,o,none⟩∧w.cell? ⟨g,o+j,none⟩=some (.string (str t))
theorem TsAt.next {w w':World}{p:Option Addr}{l:List B} (h:TsAt w p l) (hb:Below w.heap.size w w'):TsAt w' p l:=by
 intro j t hj;obtain⟨g,o,e,hc⟩:=h j t hj;exact⟨g,o,e,cell_keep hb hc⟩
abbrev limV (l:LimC):Value:=.agg #[.int .i64 l.by_,.int .i64 l.rate,.int .i64 l.per,.int .i64 l.burst]
theorem ret_str {a b:B} (h:a=b):Ending.returned (.string (str a))= .returned (.string (str b)):=by rw [h]
theorem str_app3 (p s:B):str p++⟨#[46]⟩++str s=str (p++46::s):=by
 apply arr_inj;simp
structure Cells5 (w:World) (g:Nat) (a b c d e:Value):Prop where
 a0:w.cell? ⟨g,0,none⟩=some a
 a1:w.cell? ⟨g,1,none⟩=some b
 a2:w.cell? ⟨g,2,none⟩=some c
 a3:w.cell? ⟨g,3,none⟩=some d
 a4:w.cell? ⟨g,4,none⟩=some e
theorem cells5 {w:World}{g:Nat}{a b c d e:Value}{T:TypeId} (h:w.heap[g]?=some (.cells #[a,b,c,d,e] T (0,0))):Cells5 w g a b c d e:=by
 refine⟨?_,?_,?_,?_,?_⟩ <;> simp [World.cell?,h]
abbrev authV (a:AuthC) (p:Option Addr) (n c:Nat):Value:=.agg #[.bool a.on,.string (str a.iss),.string (str a.aud),.slice p n c,.int .i64 a.leeway]
theorem ne_facts {s:B} (h:s≠ []):¬str s=(⟨#[]⟩:ByteArray):=fun e=>h (str_inj e)
abbrev probeV (a:ProbeC):Value:=.agg #[.string (str a.path),.int .i64 a.every,.int .i64 a.timeout,.int .i64 a.rise,.int .i64 a.fall]
def probeOK (k:AskC) (p:B):Bool:=k.norm p && decide (p.length≤256) && decide (p.head? =some 47) && p.all (fun c=>visB (c.toNat:Int))
def BkAt (w:World) (p:Option Addr) (l:List BackC):Prop:=∀ (j:Nat) (b:BackC),l[j]?=some b→∃ g o,p=some ⟨g,o,none⟩∧w.cell? ⟨g,o+j*2,none⟩=some (.string (str b.addr))∧w.cell? ⟨g,o+j*2+1,none⟩=some (.int .i64 b.wt)
theorem BkAt.next {w w':World}{p:Option Addr}{l:List BackC} (h:BkAt w p l) (hb:Below w.heap.size w w'):BkAt w' p l:=by
 intro j b hj;obtain⟨g,o,e,h1,h2⟩:=h j b hj;exact⟨g,o,e,cell_keep hb h1,cell_keep hb h2⟩
abbrev poolV (a:PoolC) (p:Option Addr) (n c:Nat):Value:=.agg #[.string (str a.name),.slice p n c,.int .i64 a.policy,.int .i64 a.retries,.int .i64 a.timeout,.int .i64 a.fails,.int .i64 a.opn,.string (str a.probe.path),.int .i64 a.probe.every,.int .i64 a.probe.timeout,.int .i64 a.probe.rise,.int .i64 a.probe.fall]
def okBk (k:AskC) (l:List BackC) (x:BackC) (j:Nat):Bool:=k.addr x.addr && (l.take j).all (fun a=>decide (a.addr≠x.addr))
theorem backs_step (k:AskC) (l:List BackC) (x:BackC) (i:Nat) (h:l[i]?=some x):backsFrom k i (l.take i) (l.drop i)=if okBk k l x i=false then behindC (behindC n_backends (k.num i)) n_addr else if inC x.wt 1 256=false then behindC (behindC n_backends (k.num i)) n_weight else backsFrom k (i+1) (l.take (i+1)) (l.drop (i+1)):=by
 obtain⟨h1,h2⟩:=List.getElem?_eq_some_iff.1 h;rw [List.drop_eq_getElem_cons h1,h2,List.take_add_one,h];rfl
theorem behind_len (p s:B):(behindC p s).length≤p.length+s.length+1:=by
 unfold behindC;split
 · omega
 · simp;omega
def KyAt (w:World) (p:Option Addr) (l:List KeyC):Prop:=∀ (j:Nat) (b:KeyC),l[j]?=some b→∃ g o,p=some ⟨g,o,none⟩∧w.cell? ⟨g,o+j*2,none⟩=some (.string (str b.id))∧w.cell? ⟨g,o+j*2+1,none⟩=some (.string (str b.sec))
theorem KyAt.next {w w':World}{p:Option Addr}{l:List KeyC} (h:KyAt w p l) (hb:Below w.heap.size w w'):KyAt w' p l:=by
 intro j b hj;obtain⟨g,o,e,h1,h2⟩:=h j b hj;exact⟨g,o,e,cell_keep hb h1,cell_keep hb h2⟩
abbrev cfgV (k p r:Value) (c:CfgC):Value:=.agg #[k,p,r,.int .i64 c.maxhead,.int .i64 c.maxbody,.int .i64 c.maxconns,.int .i64 c.idle,.int .i64 c.header]
def okKy (l:List KeyC) (x:KeyC) (j:Nat):Bool:=tokC x.id 64 && (l.take j).all (fun a=>decide (a.id≠x.id))
theorem keys_step (k:AskC) (l:List KeyC) (x:KeyC) (i:Nat) (h:l[i]?=some x):keysFrom k i (l.take i) (l.drop i)=if okKy l x i=false then behindC (behindC n_keys (k.num i)) n_id else if inC x.sec.length 1 256=false then behindC (behindC n_keys (k.num i)) n_secret else keysFrom k (i+1) (l.take (i+1)) (l.drop (i+1)):=by
 obtain⟨h1,h2⟩:=List.getElem?_eq_some_iff.1 h;rw [List.drop_eq_getElem_cons h1,h2,List.take_add_one,h];rfl
structure PoC (w:World) (g o:Nat) (a:PoolC) (pb:Option Addr) (cb:Nat):Prop where
 c0:w.cell? ⟨g,o,none⟩=some (.string (str a.name))
 c1:w.cell? ⟨g,o+1,none⟩=some (.slice pb a.backs.length cb)
 c2:w.cell? ⟨g,o+2,none⟩=some (.int .i64 a.policy)
 c3:w.cell? ⟨g,o+3,none⟩=some (.int .i64 a.retries)
 c4:w.cell? ⟨g,o+4,none⟩=some (.int .i64 a.timeout)
 c5:w.cell? ⟨g,o+5,none⟩=some (.int .i64 a.fails)
 c6:w.cell? ⟨g,o+6,none⟩=some (.int .i64 a.opn)
 c7:w.cell? ⟨g,o+7,none⟩=some (.string (str a.probe.path))
 c8:w.cell? ⟨g,o+8,none⟩=some (.int .i64 a.probe.every)
 c9:w.cell? ⟨g,o+9,none⟩=some (.int .i64 a.probe.timeout)
 c10:w.cell? ⟨g,o+10,none⟩=some (.int .i64 a.probe.rise)
 c11:w.cell? ⟨g,o+11,none⟩=some (.int .i64 a.probe.fall)
theorem PoC.next {w w':World}{g o:Nat}{a:PoolC}{pb:Option Addr}{cb:Nat} (h:PoC w g o a pb cb) (hb:Below w.heap.size w w'):PoC w' g o a pb cb:=
 ⟨cell_keep hb h.c0,cell_keep hb h.c1,cell_keep hb h.c2,cell_keep hb h.c3,cell_keep hb h.c4,cell_keep hb h.c5,cell_keep hb h.c6,cell_keep hb h.c7,cell_keep hb h.c8,cell_keep hb h.c9,cell_keep hb h.c10,cell_keep hb h.c11⟩
def PoAt (w:World) (p:Option Addr) (l:List PoolC):Prop:=∀ (j:Nat) (a:PoolC),l[j]?=some a→∃ g o pb cb,p=some ⟨g,o,none⟩∧PoC w g (o+j*12) a pb cb∧BkAt w pb a.backs
theorem PoAt.next {w w':World}{p:Option Addr}{l:List PoolC} (h:PoAt w p l) (hb:Below w.heap.size w w'):PoAt w' p l:=by
 intro j b hj;obtain⟨g,o,pb,cb,e,h1,h2⟩:=h j b hj;exact⟨g,o,pb,cb,e,h1.next hb,h2.next hb⟩
def poolI (l:List PoolC) (s:B):Value:=match poolAt l s with
 |some i=>.tuple #[.int .i64 (i:Int),.int .i64 0]
 |none=>.tuple #[.int .i64 0,.int .i64 8]
theorem poolAt_hit {l:List PoolC}{s:B}{i:Nat}{x:PoolC} (hno:∀ y∈l.take i,y.name≠s) (hx:l[i]?=some x) (h:x.name=s):poolAt l s=some i:=by
 obtain⟨h1,h2⟩:=List.getElem?_eq_some_iff.1 hx;unfold poolAt;rw [List.findIdx?_eq_some_iff_getElem];refine⟨h1,by rw [h2,h];simp,fun j hj=>?_⟩;have hjl:j<l.length:=by omega
 have hm:l[j]∈l.take i:=List.mem_take_iff_getElem.2 ⟨j,by omega,rfl⟩;simp [hno _ hm]
theorem poolAt_none {l:List PoolC}{s:B} (hno:∀ y∈l,y.name≠s):poolAt l s=none:=by
 unfold poolAt;rw [List.findIdx?_eq_none_iff];intro x hx;simp [hno x hx]
theorem no_next {l:List PoolC}{s:B}{i:Nat}{x:PoolC} (hno:∀ y∈l.take i,y.name≠s) (hx:l[i]?=some x) (h:¬x.name=s):∀ y∈l.take (i+1),y.name≠s:=by
 rw [List.take_add_one,hx];intro y hy;rcases List.mem_append.1 hy with h1|h1
 · exact hno y h1
 · simp at h1;rw [h1];exact h
set_option maxRecDepth 20000 in
set_option maxHeartbeats 8000000 in
theorem rpoolI_any (cf:CfgC) (kv rv:Value) (p:Option Addr) (n c:Nat) (hn:cf.pools.length=n) (hnn:n≤9223372036854775807) (s:B) (w:World) (hB:PoAt w p cf.pools):Calls Tryz.prog 21 #[cfgV kv (.slice p n c) rv cf,.string (str s)] w fun e w'=>e= .returned (poolI cf.pools s)∧Below w.heap.size w w':=by
 obtain⟨ck,l,cr,m1,m2,m3,m4,m5⟩:=cf;dsimp only at hn hB ⊢;dsimp only [cfgV];have HB0:=hid (below_new w (.cells #[kv,.slice p n c,rv,.int .i64 m1,.int .i64 m2,.int .i64 m3,.int .i64 m4,.int .i64 m5] 26 (0,0)));have HX0:=hid (heap_alloc_new w (.cells #[kv,.slice p n c,rv,.int .i64 m1,.int .i64 m2,.int .i64 m3,.int .i64 m4,.int .i64 m5] 26 (0,0)));have HN:=hid hn;have HBk:=hid hB;obtain⟨Ss,hSs⟩:∃ S,str s=S:=⟨_,rfl⟩;have HSs:=hid hSs;rw [hSs];clear hn hB hSs;go_enter Tryz.func21,Tryz.ntmps21;go_wp2;obtain⟨W0,hW0⟩:∃ W0,W0=w.alloc (.cells #[kv,.slice p n c,rv,.int .i64 m1,.int .i64 m2,.int .i64 m3,.int .i64 m4,.int .i64 m5] 26 (0,0)):=⟨_,rfl⟩;rw [←hW0] at HB0 HX0 ⊢;have HY:=hid (show W0.cell? ⟨w.heap.size,1,none⟩=some (.slice p n c) from by simp [World.cell?,HX0.out]);clear hW0 HX0;go_loopg [6] (n+1) (fun gk s6 wr=>∃ i:Nat,i≤n∧gk=n-i+1∧s6= .int .i64 (i:Int)∧(∀ y∈l.take i,y.name≠s)∧wr=W0)
 case atStart=>exact⟨0,by omega,rfl,rfl,by simp,rfl⟩
 case round=>
  obtain⟨i,hi,rfl,rfl,hE,rfl⟩:=hrel;have HE:=hid hE;have y1:=HY.out;clear hE;by_cases hin:i<n
  · have h1:i<l.length:=by rw [HN.out];exact hin
    obtain⟨x,hx⟩:∃ x,l[i]?=some x:=⟨_,List.getElem?_eq_getElem h1⟩;obtain⟨g1,o1,pb,cb,rfl,hP,_⟩:=(HBk.out.next HB0.out) i x hx;have q1:=hP.c0;have HX:=hid hx;obtain⟨Sx,hSx⟩:∃ S,str x.name=S:=⟨_,rfl⟩;have HIn:=hid (show Sx=Ss→x.name=s from fun h=>str_inj (by rw [hSx,HSs.out];exact h));have HIn2:=hid (show x.name=s→Sx=Ss from fun h=>by rw [←hSx,←HSs.out,h]);rw [hSx] at q1;clear h1 hx hP hSx;by_cases hxs:x.name=s
    · have hS:=HIn2.out hxs;subst hS;have HV:=hid (show poolI l s= .tuple #[.int .i64 (i:Int),.int .i64 0] from by unfold poolI;rw [poolAt_hit HE.out HX.out hxs]);clear hxs HIn HIn2;go_wp2;go_ret2;exact⟨congrArg Ending.returned HV.out.symm,HB0.out⟩
    · have hS:¬Sx=Ss:=fun e=>hxs (HIn.out e)
      have hS2:=ne_list hS;have HNx:=hid (no_next HE.out HX.out hxs);clear hxs HIn HIn2;go_wp2;go_roundg (n-(i+1)+1)
      case measure=>omega
      case rel=>exact⟨i+1,by omega,by omega,by go_num,HNx.out,rfl⟩
  · have hiN:i=n:=by omega
    subst hiN;have HV:=hid (show poolI l s= .tuple #[.int .i64 0,.int .i64 8] from by
     unfold poolI;rw [poolAt_none (fun y hy=>HE.out y (by rw [List.take_of_length_le (by rw [HN.out];exact Nat.le_refl _)];exact hy))])
    go_wp2;go_ret2;exact⟨congrArg Ending.returned HV.out.symm,HB0.out⟩
structure Cells12 (w:World) (g:Nat) (a b c d e f h i j k l m:Value):Prop where
 a0:w.cell? ⟨g,0,none⟩=some a
 a1:w.cell? ⟨g,1,none⟩=some b
 a2:w.cell? ⟨g,2,none⟩=some c
 a3:w.cell? ⟨g,3,none⟩=some d
 a4:w.cell? ⟨g,4,none⟩=some e
 a5:w.cell? ⟨g,5,none⟩=some f
 a6:w.cell? ⟨g,6,none⟩=some h
 a7:w.cell? ⟨g,7,none⟩=some i
 a8:w.cell? ⟨g,8,none⟩=some j
 a9:w.cell? ⟨g,9,none⟩=some k
 a10:w.cell? ⟨g,10,none⟩=some l
 a11:w.cell? ⟨g,11,none⟩=some m
theorem cells12 {w:World}{g:Nat}{a b c d e f h i j k l m:Value}{T:TypeId} (H:w.heap[g]?=some (.cells #[a,b,c,d,e,f,h,i,j,k,l,m] T (0,0))):Cells12 w g a b c d e f h i j k l m:=by
 refine⟨?_,?_,?_,?_,?_,?_,?_,?_,?_,?_,?_,?_⟩ <;> simp [World.cell?,H]
theorem probeC_len (k:AskC) (p:ProbeC):(probeC k p).length≤8:=by
 unfold probeC;repeat' split
 all_goals decide
end Go.Proofs.YtlmefgjhbohjlaaGreatDoor
