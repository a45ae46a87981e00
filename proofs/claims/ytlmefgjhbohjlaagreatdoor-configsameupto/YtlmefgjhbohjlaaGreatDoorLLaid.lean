/- A configuration that is handed in: opened. -/
import Derived.Test.YtlmefgjhbohjlaaGreatDoorRows
import Derived.Test.YtlmefgjhbohjlaaGreatDoorWSz
import Derived.OpenShut
import Derived.ShutString
import Derived.Lib.LaidU8T
import Derived.PinnedBridge
import Derived.LaidMore
import Derived.Stop.LaidErr
namespace Go.Proofs.YtlmefgjhbohjlaaGreatDoor
set_option maxRecDepth 100000
set_option maxHeartbeats 4000000
open Go.ChangeShapes Go.WideShapes Go.RowKit
theorem str_selfC (s:ByteArray):str s.data.toList=s:=by cases s;rfl
def wtG {α:Type} (b:α→Nat):List α→Nat
 | []=>0
 |x::l=>b x+wtG b l
theorem wtG_mem {α:Type} (b:α→Nat):∀ (l:List α) (x:α),x∈l→b x≤wtG b l
 |y::l,x,h=>by
  simp only [wtG];rcases List.mem_cons.1 h with h1|h1
  · rw [h1];omega
  · have:=wtG_mem b l x h1;omega
theorem wtG_len {α:Type} (b:α→Nat) (h:∀ x,1≤b x):∀ l:List α,l.length≤wtG b l
 | []=>Nat.le_refl _
 |x::l=>by
  have h1:=wtG_len b h l;have h2:=h x;simp only [wtG,List.length_cons];omega
section
variable {α : Type} {H : Type} {enc : TypeId × Value → H} {W : World} {sp : Nat → Bool} {held : Bool} {sz : Nat} {f : α → List Value} {Q : α → Prop} {b : α → Nat}
theorem open_eachG (hf:∀ x,(f x).length=sz) {a:Addr} (hs:a.spot=none):∀ (es:List (DataW H×List MemPlace)) (o:Nat),(∀ (i:Nat) (y:DataW H×List MemPlace),es[i]?=some y→∃ x:α,W.cells? 0 (a.add ((o+i)*sz)) sz=some (f x)∧Q x∧b x≤Rows.uptoBulk y.1)→
  ∃ l:List α,l.length=es.length∧(∀ (j:Nat) (x:α),l[j]?=some x→∀ (t:Nat) (u:Value),(f x)[t]?=some u→W.cell? ⟨a.block,a.off+(o+j)*sz+t,none⟩=some u)∧(∀ x∈l,Q x)∧wtG b l≤Rows.uptoBulkAll (es.map (·.1))
 | [],o,_=>⟨[],rfl,fun j x h=>by simp at h,(by simp),Nat.zero_le _⟩
 |y::ys,o,h=>by
  obtain⟨x,hc,hq,hw⟩:=h 0 y rfl;obtain⟨l,h1,h2,h3,h4⟩:=open_eachG hf hs ys (o+1) (fun i z hz=>by
   have:=h (i+1) z (by simpa using hz);rw [show o+(i+1)=o+1+i by omega] at this;exact this)
  obtain⟨_,hcl,hcell⟩:=World.cells?_some hc;refine⟨x::l,by simp [h1],fun j g hj t u hu=>?_,fun z hz=>?_,?_⟩
  · cases j with
    |zero=>
     simp at hj;subst hj;have ht:t<sz:=by rw [←hf x];exact(List.getElem?_eq_some_iff.1 hu).1
     have q0:=hcell t ht;rw [hu] at q0;obtain⟨g,off,spot⟩:=a;simp only at hs;subst hs;have ha:((⟨g,off,none⟩:Addr).add ((o+0)*sz)).add t=⟨g,off+(o+0)*sz+t,none⟩:=by rw [addr_add,addr_add]
     rw [ha] at q0;exact q0
    |succ j=>
     have:=h2 j g (by simpa using hj) t u hu;rw [show o+(j+1)=o+1+j by omega];exact this
  · rcases List.mem_cons.1 hz with h5|h5
    · rw [h5];exact hq
    · exact h3 z h5
  · simp only [wtG,List.map_cons,Rows.uptoBulkAll];omega
theorem open_rowG {T TS:TypeId} (hU:Tryz.prog.underlying TS=some (.slice T)) (hc:Tryz.prog.cellsOf T=sz) (hsz:0<sz) (hf:∀ x,(f x).length=sz) (one:∀ (fuel:Nat) (cs:List Value) (x:DataW H×List MemPlace),DataW.trod enc Tryz.prog W 0 sp held fuel T cs=some x→∃ a:α,cs=f a∧Q a∧b a≤Rows.uptoBulk x.1) (fuel:Nat) (d:Value) (x:DataW H×List MemPlace) (h:DataW.trod enc Tryz.prog W 0 sp held fuel TS [d]=some x):
  ∃ (l:List α) (p:Option Addr) (c:Nat),d= .slice p l.length c∧l.length≤c∧(p=none→c=0)∧RowG W sz f p l∧(∀ a∈l,Q a)∧wtG b l≤Rows.uptoBulk x.1:=by
 rcases DataW.trod_slice hU h with ⟨e,rfl⟩|⟨a,len,cap,elems,rest,n2,rfl,e,rfl,_,hcp,_,hlen,hel,_,_⟩
 · simp only [List.cons.injEq,and_true] at e;exact⟨[],none,0,e,Nat.le_refl _,fun _=>rfl,fun j f h=>by simp at h,(by simp),Nat.zero_le _⟩
 · simp only [List.cons.injEq,and_true] at e;rw [hc] at hel;have each:∀ (j:Nat) (y:DataW H×List MemPlace),elems[j]?=some y→∃ x:α,W.cells? 0 (a.add ((0+j)*sz)) sz=some (f x)∧Q x∧b x≤Rows.uptoBulk y.1:=by
    intro j y hy;have hj:j<len:=by
     have:=(List.getElem?_eq_some_iff.1 hy).1;omega
    have h2:=hel j hj;rw [hy] at h2;cases hc:W.cells? 0 (a.add (j*sz)) sz with
    |none=>rw [hc] at h2;cases h2
    |some cs=>
     rw [hc] at h2;simp only [Option.bind_some] at h2;obtain⟨v,rfl,hq,hw⟩:=one n2 cs y h2;exact⟨v,by rw [Nat.zero_add];exact hc,hq,hw⟩
   rcases Nat.eq_zero_or_pos len with h0|hpos
   · subst h0;exact⟨[],some a,cap,e,Nat.zero_le _,fun h=>(by cases h),fun j f h=>by simp at h,(by simp),Nat.zero_le _⟩
   · obtain⟨y,hy⟩:∃ y,elems[0]?=some y:=⟨elems[0]'(by omega),List.getElem?_eq_getElem (by omega)⟩;obtain⟨v,hc,_,_⟩:=each 0 y hy;obtain⟨_,hcl,hcell⟩:=World.cells?_some hc;have hc0:=hcell 0 hsz;rw [List.getElem?_eq_getElem (by rw [hf];exact hsz)] at hc0;have hsp:a.spot=none:=by simpa [Addr.add] using World.cell?_spot hc0
     obtain⟨l,h1,h2,h3,h4⟩:=open_eachG hf hsp elems 0 each;refine⟨l,some a,cap,by rw [h1,hlen];exact e,by omega,fun h=>(by cases h),fun j x hj=>?_,h3,?_⟩
     · refine⟨a.block,a.off,?_,fun t u hu=>?_⟩
       · obtain⟨g,off,spot⟩:=a;simp only at hsp;subst hsp;rfl
       · have:=h2 j x hj t u hu;rw [Nat.zero_add] at this;exact this
     · simp only [Rows.uptoBulk];omega
end
theorem trod_at {H:Type}{enc:TypeId×Value→H}{W:World}{sp:Nat→Bool}{held:Bool}{n:Nat}{t:TypeId}{c:Nat}{ds:List Value}{o:Option (DataW H×List MemPlace)} (h:DataW.trod enc Tryz.prog W 0 sp held n t (ds.take (Tryz.prog.cellsOf t))=o) (hc:Tryz.prog.cellsOf t=c):DataW.trod enc Tryz.prog W 0 sp held n t (ds.take c)=o:=hc ▸ h
theorem c_string:Tryz.prog.cellsOf 9=1:=by kernel_rfl
theorem c_int:Tryz.prog.cellsOf 3=1:=by kernel_rfl
theorem c_bool:Tryz.prog.cellsOf 4=1:=by kernel_rfl
theorem c_strs:Tryz.prog.cellsOf 52=1:=by kernel_rfl
theorem c_cbacks:Tryz.prog.cellsOf 77=1:=by kernel_rfl
theorem c_ckeys:Tryz.prog.cellsOf 22=1:=by kernel_rfl
theorem c_cpools:Tryz.prog.cellsOf 23=1:=by kernel_rfl
theorem c_croutes:Tryz.prog.cellsOf 24=1:=by kernel_rfl
theorem c_cbreak:Tryz.prog.cellsOf 79=2:=by kernel_rfl
theorem c_cprobe:Tryz.prog.cellsOf 81=5:=by kernel_rfl
theorem c_climit:Tryz.prog.cellsOf 89=4:=by kernel_rfl
theorem c_cauth:Tryz.prog.cellsOf 87=5:=by kernel_rfl
abbrev wS (s:B):Nat:=s.length+1
abbrev wK (x:KeyC):Nat:=x.id.length+x.sec.length+1
abbrev wB (x:BackC):Nat:=x.addr.length+1
abbrev wP (x:PoolX):Nat:=x.c.name.length+wtG wB x.c.backs+x.c.probe.path.length+1
abbrev wR (x:RouteX):Nat:=x.c.host.length+x.c.path.length+wtG wS x.c.methods+x.c.pool.length+x.c.auth.iss.length+x.c.auth.aud.length+wtG wS x.c.auth.scopes+1
theorem open_str {H:Type}{enc:TypeId×Value→H}{W:World}{sp:Nat→Bool}{held:Bool} (fuel:Nat) (cs:List Value) (x:DataW H×List MemPlace) (h:DataW.trod enc Tryz.prog W 0 sp held fuel 9 cs=some x):∃ s:B,cs=strF s∧True∧wS s≤Rows.uptoBulk x.1:=by
 obtain⟨s0,e0,rfl,_⟩:=DataW.trod_string Tryz.underlying9 h;exact⟨s0.data.toList,by rw [e0],trivial,by simp [Rows.uptoBulk]⟩
theorem open_key {H:Type}{enc:TypeId×Value→H}{W:World}{sp:Nat→Bool}{held:Bool} (fuel:Nat) (cs:List Value) (x:DataW H×List MemPlace) (h:DataW.trod enc Tryz.prog W 0 sp held fuel 72 cs=some x):∃ a:KeyC,cs=keyXF a∧True∧wK a≤Rows.uptoBulk x.1:=by
 obtain⟨xs,n,rfl,rfl,hl,hx,hf⟩:=DataW.trod_struct Tryz.underlying72 h;have ct:Tryz.prog.cellsOf 72=2:=by kernel_rfl
 rw [ct] at hl;have hxn:xs.length=2:=by rw [hx];rfl
 clear hx ct;rcases cs with _|⟨d0,_|⟨d1,_|⟨d2,r⟩⟩⟩ <;> simp at hl
 rcases xs with _|⟨y0,_|⟨y1,_|⟨y2,r⟩⟩⟩ <;> simp at hxn
 have f0:DataW.trod enc Tryz.prog W 0 sp held n 9 [d0]=some y0:=by have h:=trod_at (hf 0 _ rfl) c_string;exact h
 have f1:DataW.trod enc Tryz.prog W 0 sp held n 9 [d1]=some y1:=by have h:=trod_at (hf 1 _ rfl) c_string;exact h
 clear hf hl hxn;obtain⟨s0,e0,rfl,_⟩:=DataW.trod_string Tryz.underlying9 f0;obtain⟨s1,e1,rfl,_⟩:=DataW.trod_string Tryz.underlying9 f1;simp only [List.cons.injEq,and_true] at e0 e1;subst e0;subst e1;refine⟨⟨s0.data.toList,s1.data.toList⟩,by simp only [keyXF,str_selfC],trivial,?_⟩;simp [Rows.uptoBulk,Rows.uptoBulkAll] at*;try omega
theorem open_back {H:Type}{enc:TypeId×Value→H}{W:World}{sp:Nat→Bool}{held:Bool} (fuel:Nat) (cs:List Value) (x:DataW H×List MemPlace) (h:DataW.trod enc Tryz.prog W 0 sp held fuel 145 cs=some x):∃ a:BackC,cs=backXF a∧True∧wB a≤Rows.uptoBulk x.1:=by
 obtain⟨xs,n,rfl,rfl,hl,hx,hf⟩:=DataW.trod_struct Tryz.underlying145 h;have ct:Tryz.prog.cellsOf 145=2:=by kernel_rfl
 rw [ct] at hl;have hxn:xs.length=2:=by rw [hx];rfl
 clear hx ct;rcases cs with _|⟨d0,_|⟨d1,_|⟨d2,r⟩⟩⟩ <;> simp at hl
 rcases xs with _|⟨y0,_|⟨y1,_|⟨y2,r⟩⟩⟩ <;> simp at hxn
 have f0:DataW.trod enc Tryz.prog W 0 sp held n 9 [d0]=some y0:=by have h:=trod_at (hf 0 _ rfl) c_string;exact h
 have f1:DataW.trod enc Tryz.prog W 0 sp held n 3 [d1]=some y1:=by have h:=trod_at (hf 1 _ rfl) c_int;exact h
 clear hf hl hxn;obtain⟨s0,e0,rfl,_⟩:=DataW.trod_string Tryz.underlying9 f0;obtain⟨s1,e1,rfl,_⟩:=DataW.trod_int Tryz.underlying3 f1;simp only [List.cons.injEq,and_true] at e0 e1;subst e0;subst e1;refine⟨⟨s0.data.toList,s1⟩,by simp only [backXF,str_selfC],trivial,?_⟩;simp [Rows.uptoBulk,Rows.uptoBulkAll] at*;try omega
theorem open_texts {H:Type}{enc:TypeId×Value→H}{W:World}{sp:Nat→Bool}{held:Bool} (fuel:Nat) (d:Value) (x:DataW H×List MemPlace) (h:DataW.trod enc Tryz.prog W 0 sp held fuel 52 [d]=some x):∃ (l:List B) (p:Option Addr) (c:Nat),d= .slice p l.length c∧l.length≤c∧(p=none→c=0)∧RowG W 1 strF p l∧(∀ a∈l,(fun _=>True) a)∧wtG wS l≤Rows.uptoBulk x.1:=
 open_rowG (sz:=1) (f:=strF) (Q:=fun a=>(fun _=>True) a) Tryz.underlying52 (by kernel_rfl) (by decide) (fun _=>rfl) (fun fu cs y hy=>open_str fu cs y hy) fuel d x h
theorem open_backs {H:Type}{enc:TypeId×Value→H}{W:World}{sp:Nat→Bool}{held:Bool} (fuel:Nat) (d:Value) (x:DataW H×List MemPlace) (h:DataW.trod enc Tryz.prog W 0 sp held fuel 77 [d]=some x):∃ (l:List BackC) (p:Option Addr) (c:Nat),d= .slice p l.length c∧l.length≤c∧(p=none→c=0)∧RowG W 2 backXF p l∧(∀ a∈l,(fun _=>True) a)∧wtG wB l≤Rows.uptoBulk x.1:=
 open_rowG (sz:=2) (f:=backXF) (Q:=fun a=>(fun _=>True) a) Tryz.underlying77 (by kernel_rfl) (by decide) (fun _=>rfl) (fun fu cs y hy=>open_back fu cs y hy) fuel d x h
theorem open_keys {H:Type}{enc:TypeId×Value→H}{W:World}{sp:Nat→Bool}{held:Bool} (fuel:Nat) (d:Value) (x:DataW H×List MemPlace) (h:DataW.trod enc Tryz.prog W 0 sp held fuel 22 [d]=some x):∃ (l:List KeyC) (p:Option Addr) (c:Nat),d= .slice p l.length c∧l.length≤c∧(p=none→c=0)∧RowG W 2 keyXF p l∧(∀ a∈l,(fun _=>True) a)∧wtG wK l≤Rows.uptoBulk x.1:=
 open_rowG (sz:=2) (f:=keyXF) (Q:=fun a=>(fun _=>True) a) Tryz.underlying22 (by kernel_rfl) (by decide) (fun _=>rfl) (fun fu cs y hy=>open_key fu cs y hy) fuel d x h
theorem open_brk {H:Type}{enc:TypeId×Value→H}{W:World}{sp:Nat→Bool}{held:Bool} (fuel:Nat) (cs:List Value) (x:DataW H×List MemPlace) (h:DataW.trod enc Tryz.prog W 0 sp held fuel 79 cs=some x):∃ a:Int×Int,cs= [.int .i64 a.1,.int .i64 a.2]∧0≤Rows.uptoBulk x.1:=by
 obtain⟨xs,n,rfl,rfl,hl,hx,hf⟩:=DataW.trod_struct Tryz.underlying79 h;have ct:Tryz.prog.cellsOf 79=2:=by kernel_rfl
 rw [ct] at hl;have hxn:xs.length=2:=by rw [hx];rfl
 clear hx ct;rcases cs with _|⟨d0,_|⟨d1,_|⟨d2,r⟩⟩⟩ <;> simp at hl
 rcases xs with _|⟨y0,_|⟨y1,_|⟨y2,r⟩⟩⟩ <;> simp at hxn
 have f0:DataW.trod enc Tryz.prog W 0 sp held n 3 [d0]=some y0:=by have h:=trod_at (hf 0 _ rfl) c_int;exact h
 have f1:DataW.trod enc Tryz.prog W 0 sp held n 3 [d1]=some y1:=by have h:=trod_at (hf 1 _ rfl) c_int;exact h
 clear hf hl hxn;obtain⟨s0,e0,rfl,_⟩:=DataW.trod_int Tryz.underlying3 f0;obtain⟨s1,e1,rfl,_⟩:=DataW.trod_int Tryz.underlying3 f1;simp only [List.cons.injEq,and_true] at e0 e1;subst e0;subst e1;refine⟨⟨s0,s1⟩,rfl,Nat.zero_le _⟩
theorem open_prb {H:Type}{enc:TypeId×Value→H}{W:World}{sp:Nat→Bool}{held:Bool} (fuel:Nat) (cs:List Value) (x:DataW H×List MemPlace) (h:DataW.trod enc Tryz.prog W 0 sp held fuel 81 cs=some x):∃ a:ProbeC,cs= [.string (str a.path),.int .i64 a.every,.int .i64 a.timeout,.int .i64 a.rise,.int .i64 a.fall]∧a.path.length≤Rows.uptoBulk x.1:=by
 obtain⟨xs,n,rfl,rfl,hl,hx,hf⟩:=DataW.trod_struct Tryz.underlying81 h;have ct:Tryz.prog.cellsOf 81=5:=by kernel_rfl
 rw [ct] at hl;have hxn:xs.length=5:=by rw [hx];rfl
 clear hx ct;rcases cs with _|⟨d0,_|⟨d1,_|⟨d2,_|⟨d3,_|⟨d4,_|⟨d5,r⟩⟩⟩⟩⟩⟩ <;> simp at hl
 rcases xs with _|⟨y0,_|⟨y1,_|⟨y2,_|⟨y3,_|⟨y4,_|⟨y5,r⟩⟩⟩⟩⟩⟩ <;> simp at hxn
 have f0:DataW.trod enc Tryz.prog W 0 sp held n 9 [d0]=some y0:=by have h:=trod_at (hf 0 _ rfl) c_string;exact h
 have f1:DataW.trod enc Tryz.prog W 0 sp held n 3 [d1]=some y1:=by have h:=trod_at (hf 1 _ rfl) c_int;exact h
 have f2:DataW.trod enc Tryz.prog W 0 sp held n 3 [d2]=some y2:=by have h:=trod_at (hf 2 _ rfl) c_int;exact h
 have f3:DataW.trod enc Tryz.prog W 0 sp held n 3 [d3]=some y3:=by have h:=trod_at (hf 3 _ rfl) c_int;exact h
 have f4:DataW.trod enc Tryz.prog W 0 sp held n 3 [d4]=some y4:=by have h:=trod_at (hf 4 _ rfl) c_int;exact h
 clear hf hl hxn;obtain⟨s0,e0,rfl,_⟩:=DataW.trod_string Tryz.underlying9 f0;obtain⟨s1,e1,rfl,_⟩:=DataW.trod_int Tryz.underlying3 f1;obtain⟨s2,e2,rfl,_⟩:=DataW.trod_int Tryz.underlying3 f2;obtain⟨s3,e3,rfl,_⟩:=DataW.trod_int Tryz.underlying3 f3;obtain⟨s4,e4,rfl,_⟩:=DataW.trod_int Tryz.underlying3 f4;simp only [List.cons.injEq,and_true] at e0 e1 e2 e3 e4;subst e0;subst e1;subst e2;subst e3;subst e4;refine⟨⟨s0.data.toList,s1,s2,s3,s4⟩,by simp only [str_selfC],?_⟩;simp [Rows.uptoBulk,Rows.uptoBulkAll] at*;try omega
theorem open_lim {H:Type}{enc:TypeId×Value→H}{W:World}{sp:Nat→Bool}{held:Bool} (fuel:Nat) (cs:List Value) (x:DataW H×List MemPlace) (h:DataW.trod enc Tryz.prog W 0 sp held fuel 89 cs=some x):∃ a:LimC,cs= [.int .i64 a.by_,.int .i64 a.rate,.int .i64 a.per,.int .i64 a.burst]∧0≤Rows.uptoBulk x.1:=by
 obtain⟨xs,n,rfl,rfl,hl,hx,hf⟩:=DataW.trod_struct Tryz.underlying89 h;have ct:Tryz.prog.cellsOf 89=4:=by kernel_rfl
 rw [ct] at hl;have hxn:xs.length=4:=by rw [hx];rfl
 clear hx ct;rcases cs with _|⟨d0,_|⟨d1,_|⟨d2,_|⟨d3,_|⟨d4,r⟩⟩⟩⟩⟩ <;> simp at hl
 rcases xs with _|⟨y0,_|⟨y1,_|⟨y2,_|⟨y3,_|⟨y4,r⟩⟩⟩⟩⟩ <;> simp at hxn
 have f0:DataW.trod enc Tryz.prog W 0 sp held n 3 [d0]=some y0:=by have h:=trod_at (hf 0 _ rfl) c_int;exact h
 have f1:DataW.trod enc Tryz.prog W 0 sp held n 3 [d1]=some y1:=by have h:=trod_at (hf 1 _ rfl) c_int;exact h
 have f2:DataW.trod enc Tryz.prog W 0 sp held n 3 [d2]=some y2:=by have h:=trod_at (hf 2 _ rfl) c_int;exact h
 have f3:DataW.trod enc Tryz.prog W 0 sp held n 3 [d3]=some y3:=by have h:=trod_at (hf 3 _ rfl) c_int;exact h
 clear hf hl hxn;obtain⟨s0,e0,rfl,_⟩:=DataW.trod_int Tryz.underlying3 f0;obtain⟨s1,e1,rfl,_⟩:=DataW.trod_int Tryz.underlying3 f1;obtain⟨s2,e2,rfl,_⟩:=DataW.trod_int Tryz.underlying3 f2;obtain⟨s3,e3,rfl,_⟩:=DataW.trod_int Tryz.underlying3 f3;simp only [List.cons.injEq,and_true] at e0 e1 e2 e3;subst e0;subst e1;subst e2;subst e3;refine⟨⟨s0,s1,s2,s3⟩,rfl,Nat.zero_le _⟩
theorem open_auth {H:Type}{enc:TypeId×Value→H}{W:World}{sp:Nat→Bool}{held:Bool} (fuel:Nat) (cs:List Value) (x:DataW H×List MemPlace) (h:DataW.trod enc Tryz.prog W 0 sp held fuel 87 cs=some x):∃ (a:AuthC) (q:Option Addr) (c:Nat),cs= [.bool a.on,.string (str a.iss),.string (str a.aud),.slice q a.scopes.length c,.int .i64 a.leeway]∧(a.scopes.length≤c∧(q=none→c=0)∧RowG W 1 strF q a.scopes)∧a.iss.length+a.aud.length+wtG wS a.scopes≤Rows.uptoBulk x.1:=by
 obtain⟨xs,n,rfl,rfl,hl,hx,hf⟩:=DataW.trod_struct Tryz.underlying87 h;have ct:Tryz.prog.cellsOf 87=5:=by kernel_rfl
 rw [ct] at hl;have hxn:xs.length=5:=by rw [hx];rfl
 clear hx ct;rcases cs with _|⟨d0,_|⟨d1,_|⟨d2,_|⟨d3,_|⟨d4,_|⟨d5,r⟩⟩⟩⟩⟩⟩ <;> simp at hl
 rcases xs with _|⟨y0,_|⟨y1,_|⟨y2,_|⟨y3,_|⟨y4,_|⟨y5,r⟩⟩⟩⟩⟩⟩ <;> simp at hxn
 have f0:DataW.trod enc Tryz.prog W 0 sp held n 4 [d0]=some y0:=by have h:=trod_at (hf 0 _ rfl) c_bool;exact h
 have f1:DataW.trod enc Tryz.prog W 0 sp held n 9 [d1]=some y1:=by have h:=trod_at (hf 1 _ rfl) c_string;exact h
 have f2:DataW.trod enc Tryz.prog W 0 sp held n 9 [d2]=some y2:=by have h:=trod_at (hf 2 _ rfl) c_string;exact h
 have f3:DataW.trod enc Tryz.prog W 0 sp held n 52 [d3]=some y3:=by have h:=trod_at (hf 3 _ rfl) c_strs;exact h
 have f4:DataW.trod enc Tryz.prog W 0 sp held n 3 [d4]=some y4:=by have h:=trod_at (hf 4 _ rfl) c_int;exact h
 clear hf hl hxn;obtain⟨s0,e0,rfl⟩:=DataW.trod_bool Tryz.underlying4 f0;obtain⟨s1,e1,rfl,_⟩:=DataW.trod_string Tryz.underlying9 f1;obtain⟨s2,e2,rfl,_⟩:=DataW.trod_string Tryz.underlying9 f2;obtain⟨l3,p3,c3,rfl,hc3,hz3,hr3,hq3,hw3⟩:=open_texts n d3 y3 f3;obtain⟨s4,e4,rfl,_⟩:=DataW.trod_int Tryz.underlying3 f4;simp only [List.cons.injEq,and_true] at e0 e1 e2 e4;subst e0;subst e1;subst e2;subst e4;refine⟨⟨s0,s1.data.toList,s2.data.toList,l3,s4⟩,p3,c3,by simp only [str_selfC],⟨hc3,hz3,hr3⟩,?_⟩;simp [Rows.uptoBulk,Rows.uptoBulkAll] at*;try omega
theorem open_pool {H:Type}{enc:TypeId×Value→H}{W:World}{sp:Nat→Bool}{held:Bool} (fuel:Nat) (cs:List Value) (x:DataW H×List MemPlace) (h:DataW.trod enc Tryz.prog W 0 sp held fuel 83 cs=some x):∃ a:PoolX,cs=poolXF a∧PoolIn W a∧wP a≤Rows.uptoBulk x.1:=by
 obtain⟨xs,n,rfl,rfl,hl,hx,hf⟩:=DataW.trod_struct Tryz.underlying83 h;have ct:Tryz.prog.cellsOf 83=12:=by kernel_rfl
 rw [ct] at hl;have hxn:xs.length=7:=by rw [hx];rfl
 clear hx ct;rcases cs with _|⟨d0,_|⟨d1,_|⟨d2,_|⟨d3,_|⟨d4,_|⟨d5,_|⟨d6,_|⟨d7,_|⟨d8,_|⟨d9,_|⟨d10,_|⟨d11,_|⟨d12,r⟩⟩⟩⟩⟩⟩⟩⟩⟩⟩⟩⟩⟩ <;> simp at hl
 rcases xs with _|⟨y0,_|⟨y1,_|⟨y2,_|⟨y3,_|⟨y4,_|⟨y5,_|⟨y6,_|⟨y7,r⟩⟩⟩⟩⟩⟩⟩⟩ <;> simp at hxn
 have f0:DataW.trod enc Tryz.prog W 0 sp held n 9 [d0]=some y0:=by have h:=trod_at (hf 0 _ rfl) c_string;exact h
 have f1:DataW.trod enc Tryz.prog W 0 sp held n 77 [d1]=some y1:=by have h:=trod_at (hf 1 _ rfl) c_cbacks;exact h
 have f2:DataW.trod enc Tryz.prog W 0 sp held n 3 [d2]=some y2:=by have h:=trod_at (hf 2 _ rfl) c_int;exact h
 have f3:DataW.trod enc Tryz.prog W 0 sp held n 3 [d3]=some y3:=by have h:=trod_at (hf 3 _ rfl) c_int;exact h
 have f4:DataW.trod enc Tryz.prog W 0 sp held n 3 [d4]=some y4:=by have h:=trod_at (hf 4 _ rfl) c_int;exact h
 have f5:DataW.trod enc Tryz.prog W 0 sp held n 79 [d5,d6]=some y5:=by have h:=trod_at (hf 5 _ rfl) c_cbreak;exact h
 have f6:DataW.trod enc Tryz.prog W 0 sp held n 81 [d7,d8,d9,d10,d11]=some y6:=by have h:=trod_at (hf 6 _ rfl) c_cprobe;exact h
 clear hf hl hxn;obtain⟨s0,e0,rfl,_⟩:=DataW.trod_string Tryz.underlying9 f0;obtain⟨l1,p1,c1,rfl,hc1,hz1,hr1,hq1,hw1⟩:=open_backs n d1 y1 f1;obtain⟨s2,e2,rfl,_⟩:=DataW.trod_int Tryz.underlying3 f2;obtain⟨s3,e3,rfl,_⟩:=DataW.trod_int Tryz.underlying3 f3;obtain⟨s4,e4,rfl,_⟩:=DataW.trod_int Tryz.underlying3 f4;obtain⟨s5,e5,hw5⟩:=open_brk n _ y5 f5;obtain⟨s6,e6,hw6⟩:=open_prb n _ y6 f6;simp only [List.cons.injEq,and_true] at e0 e2 e3 e4 e5 e6;subst e0;subst e2;subst e3;subst e4;obtain⟨rfl,rfl⟩:=e5;obtain⟨rfl,rfl,rfl,rfl,rfl⟩:=e6;refine⟨⟨⟨s0.data.toList,l1,s2,s3,s4,s5.1,s5.2,s6⟩,p1,l1.length,c1⟩,by simp only [poolXF,str_selfC],⟨rfl,hc1,hz1,hr1⟩,?_⟩;simp [Rows.uptoBulk,Rows.uptoBulkAll] at*;try omega
theorem open_route {H:Type}{enc:TypeId×Value→H}{W:World}{sp:Nat→Bool}{held:Bool} (fuel:Nat) (cs:List Value) (x:DataW H×List MemPlace) (h:DataW.trod enc Tryz.prog W 0 sp held fuel 91 cs=some x):∃ a:RouteX,cs=routeXF a∧RouteIn W a∧wR a≤Rows.uptoBulk x.1:=by
 obtain⟨xs,n,rfl,rfl,hl,hx,hf⟩:=DataW.trod_struct Tryz.underlying91 h;have ct:Tryz.prog.cellsOf 91=13:=by kernel_rfl
 rw [ct] at hl;have hxn:xs.length=6:=by rw [hx];rfl
 clear hx ct;rcases cs with _|⟨d0,_|⟨d1,_|⟨d2,_|⟨d3,_|⟨d4,_|⟨d5,_|⟨d6,_|⟨d7,_|⟨d8,_|⟨d9,_|⟨d10,_|⟨d11,_|⟨d12,_|⟨d13,r⟩⟩⟩⟩⟩⟩⟩⟩⟩⟩⟩⟩⟩⟩ <;> simp at hl
 rcases xs with _|⟨y0,_|⟨y1,_|⟨y2,_|⟨y3,_|⟨y4,_|⟨y5,_|⟨y6,r⟩⟩⟩⟩⟩⟩⟩ <;> simp at hxn
 have f0:DataW.trod enc Tryz.prog W 0 sp held n 9 [d0]=some y0:=by have h:=trod_at (hf 0 _ rfl) c_string;exact h
 have f1:DataW.trod enc Tryz.prog W 0 sp held n 9 [d1]=some y1:=by have h:=trod_at (hf 1 _ rfl) c_string;exact h
 have f2:DataW.trod enc Tryz.prog W 0 sp held n 52 [d2]=some y2:=by have h:=trod_at (hf 2 _ rfl) c_strs;exact h
 have f3:DataW.trod enc Tryz.prog W 0 sp held n 9 [d3]=some y3:=by have h:=trod_at (hf 3 _ rfl) c_string;exact h
 have f4:DataW.trod enc Tryz.prog W 0 sp held n 87 [d4,d5,d6,d7,d8]=some y4:=by have h:=trod_at (hf 4 _ rfl) c_cauth;exact h
 have f5:DataW.trod enc Tryz.prog W 0 sp held n 89 [d9,d10,d11,d12]=some y5:=by have h:=trod_at (hf 5 _ rfl) c_climit;exact h
 clear hf hl hxn;obtain⟨s0,e0,rfl,_⟩:=DataW.trod_string Tryz.underlying9 f0;obtain⟨s1,e1,rfl,_⟩:=DataW.trod_string Tryz.underlying9 f1;obtain⟨l2,p2,c2,rfl,hc2,hz2,hr2,hq2,hw2⟩:=open_texts n d2 y2 f2;obtain⟨s3,e3,rfl,_⟩:=DataW.trod_string Tryz.underlying9 f3;obtain⟨s4,q4,c4,e4,hi4,hw4⟩:=open_auth n _ y4 f4;obtain⟨s5,e5,hw5⟩:=open_lim n _ y5 f5;simp only [List.cons.injEq,and_true] at e0 e1 e3 e4 e5;subst e0;subst e1;subst e3;obtain⟨rfl,rfl,rfl,rfl,rfl⟩:=e4;obtain⟨rfl,rfl,rfl,rfl⟩:=e5;refine⟨⟨⟨s0.data.toList,s1.data.toList,l2,s3.data.toList,s4,s5⟩,p2,l2.length,c2,q4,s4.scopes.length,c4⟩,by simp only [routeXF,str_selfC],⟨rfl,hc2,hz2,hr2,rfl,hi4.1,hi4.2.1,hi4.2.2⟩,?_⟩;simp [Rows.uptoBulk,Rows.uptoBulkAll] at*;try omega
theorem open_pools {H:Type}{enc:TypeId×Value→H}{W:World}{sp:Nat→Bool}{held:Bool} (fuel:Nat) (d:Value) (x:DataW H×List MemPlace) (h:DataW.trod enc Tryz.prog W 0 sp held fuel 23 [d]=some x):∃ (l:List PoolX) (p:Option Addr) (c:Nat),d= .slice p l.length c∧l.length≤c∧(p=none→c=0)∧RowG W 12 poolXF p l∧(∀ a∈l,PoolIn W a)∧wtG wP l≤Rows.uptoBulk x.1:=
 open_rowG (sz:=12) (f:=poolXF) (Q:=fun a=>PoolIn W a) Tryz.underlying23 (by kernel_rfl) (by decide) (fun _=>rfl) (fun fu cs y hy=>open_pool fu cs y hy) fuel d x h
theorem open_routes {H:Type}{enc:TypeId×Value→H}{W:World}{sp:Nat→Bool}{held:Bool} (fuel:Nat) (d:Value) (x:DataW H×List MemPlace) (h:DataW.trod enc Tryz.prog W 0 sp held fuel 24 [d]=some x):∃ (l:List RouteX) (p:Option Addr) (c:Nat),d= .slice p l.length c∧l.length≤c∧(p=none→c=0)∧RowG W 13 routeXF p l∧(∀ a∈l,RouteIn W a)∧wtG wR l≤Rows.uptoBulk x.1:=
 open_rowG (sz:=13) (f:=routeXF) (Q:=fun a=>RouteIn W a) Tryz.underlying24 (by kernel_rfl) (by decide) (fun _=>rfl) (fun fu cs y hy=>open_route fu cs y hy) fuel d x h
theorem open_cfg {H:Type}{enc:TypeId×Value→H}{W:World}{sp:Nat→Bool}{held:Bool} (fuel:Nat) (cs:List Value) (x:DataW H×List MemPlace) (h:DataW.trod enc Tryz.prog W 0 sp held fuel 26 cs=some x):∃ (kq:Option Addr) (kk:Nat) (pq:Option Addr) (pk:Nat) (rq:Option Addr) (rk:Nat) (ks:List KeyC) (ps:List PoolX) (rs:List RouteX) (m1 m2 m3 m4 m5:Int),cs= [.slice kq ks.length kk,.slice pq ps.length pk,.slice rq rs.length rk,.int .i64 m1,.int .i64 m2,.int .i64 m3,.int .i64 m4,.int .i64 m5]∧CfgIn W kq ks.length kk pq ps.length pk rq rs.length rk ks ps rs∧wtG wK ks+wtG wP ps+wtG wR rs≤Rows.uptoBulk x.1:=by
 obtain⟨xs,n,rfl,rfl,hl,hx,hf⟩:=DataW.trod_struct Tryz.underlying26 h;have ct:Tryz.prog.cellsOf 26=8:=by kernel_rfl
 rw [ct] at hl;have hxn:xs.length=8:=by rw [hx];rfl
 clear hx ct;rcases cs with _|⟨d0,_|⟨d1,_|⟨d2,_|⟨d3,_|⟨d4,_|⟨d5,_|⟨d6,_|⟨d7,_|⟨d8,r⟩⟩⟩⟩⟩⟩⟩⟩⟩ <;> simp at hl
 rcases xs with _|⟨y0,_|⟨y1,_|⟨y2,_|⟨y3,_|⟨y4,_|⟨y5,_|⟨y6,_|⟨y7,_|⟨y8,r⟩⟩⟩⟩⟩⟩⟩⟩⟩ <;> simp at hxn
 have f0:DataW.trod enc Tryz.prog W 0 sp held n 22 [d0]=some y0:=by have h:=trod_at (hf 0 _ rfl) c_ckeys;exact h
 have f1:DataW.trod enc Tryz.prog W 0 sp held n 23 [d1]=some y1:=by have h:=trod_at (hf 1 _ rfl) c_cpools;exact h
 have f2:DataW.trod enc Tryz.prog W 0 sp held n 24 [d2]=some y2:=by have h:=trod_at (hf 2 _ rfl) c_croutes;exact h
 have f3:DataW.trod enc Tryz.prog W 0 sp held n 3 [d3]=some y3:=by have h:=trod_at (hf 3 _ rfl) c_int;exact h
 have f4:DataW.trod enc Tryz.prog W 0 sp held n 3 [d4]=some y4:=by have h:=trod_at (hf 4 _ rfl) c_int;exact h
 have f5:DataW.trod enc Tryz.prog W 0 sp held n 3 [d5]=some y5:=by have h:=trod_at (hf 5 _ rfl) c_int;exact h
 have f6:DataW.trod enc Tryz.prog W 0 sp held n 3 [d6]=some y6:=by have h:=trod_at (hf 6 _ rfl) c_int;exact h
 have f7:DataW.trod enc Tryz.prog W 0 sp held n 3 [d7]=some y7:=by have h:=trod_at (hf 7 _ rfl) c_int;exact h
 clear hf hl hxn;obtain⟨l0,p0,c0,rfl,hc0,hz0,hr0,hq0,hw0⟩:=open_keys n d0 y0 f0;obtain⟨l1,p1,c1,rfl,hc1,hz1,hr1,hq1,hw1⟩:=open_pools n d1 y1 f1;obtain⟨l2,p2,c2,rfl,hc2,hz2,hr2,hq2,hw2⟩:=open_routes n d2 y2 f2;obtain⟨s3,e3,rfl,_⟩:=DataW.trod_int Tryz.underlying3 f3;obtain⟨s4,e4,rfl,_⟩:=DataW.trod_int Tryz.underlying3 f4;obtain⟨s5,e5,rfl,_⟩:=DataW.trod_int Tryz.underlying3 f5;obtain⟨s6,e6,rfl,_⟩:=DataW.trod_int Tryz.underlying3 f6;obtain⟨s7,e7,rfl,_⟩:=DataW.trod_int Tryz.underlying3 f7;simp only [List.cons.injEq,and_true] at e3 e4 e5 e6 e7;subst e3;subst e4;subst e5;subst e6;subst e7;refine⟨p0,c0,p1,c1,p2,c2,l0,l1,l2,s3,s4,s5,s6,s7,rfl,⟨rfl,rfl,rfl,hc0,hc1,hc2,hz0,hr0,hr1,hr2,hq1,hq2⟩,?_⟩;simp [Rows.uptoBulk,Rows.uptoBulkAll] at*;try omega
theorem giveZ_of {W:World}{kq:Option Addr}{kk:Nat}{pq:Option Addr}{pk:Nat}{rq:Option Addr}{rk:Nat}{ks:List KeyC}{ps:List PoolX}{rs:List RouteX} (hI:CfgIn W kq ks.length kk pq ps.length pk rq rs.length rk ks ps rs) (h:wtG wK ks+wtG wP ps+wtG wR rs≤1048576):GiveZ ks.length ps.length rs.length ps rs:=by
 have h1:=wtG_len wK (fun x=>by unfold wK;omega) ks;have h2:=wtG_len wP (fun x=>by unfold wP;omega) ps;have h3:=wtG_len wR (fun x=>by unfold wR;omega) rs;refine⟨by omega,by omega,by omega,fun x hx=>?_,fun x hx=>?_⟩
 · have h4:x.c.name.length+wtG wB x.c.backs+x.c.probe.path.length+1≤wtG wP ps:=wtG_mem wP ps x hx;have h5:=wtG_len wB (fun x=>by unfold wB;omega) x.c.backs;have h6:=(hI.mp x hx).n;omega
 · have h4:x.c.host.length+x.c.path.length+wtG wS x.c.methods+x.c.pool.length+x.c.auth.iss.length+x.c.auth.aud.length+wtG wS x.c.auth.scopes+1≤wtG wR rs:=wtG_mem wR rs x hx;have h5:=wtG_len wS (fun x=>by unfold wS;omega) x.c.methods;have h6:=wtG_len wS (fun x=>by unfold wS;omega) x.c.auth.scopes;have h7:=(hI.mr x hx).n;have h8:=(hI.mr x hx).n2;omega
open Go.RowKit Go.Lib
theorem starC : "*" ++ "errors.errorString" = "*errors.errorString" := by decide
theorem rowErrC (u : TypeId) (h : Tryz.prog.typeName? 3 u = some "*errors.errorString") : u = 398 :=
 typeName_ptr_named (nm := "errors.errorString") (by rw [starC]; kernel_rfl) (by kernel_rfl) (by decide) u (by rw [starC]; exact h)
theorem gPowC : Tryz.prog.globalNamed "internal/strconv.uint64pow10" = some 6 := by kernel_rfl
theorem tPowC:(Tryz.prog.globals[6]?).map (·.type)=some 392:=by kernel_rfl
theorem gErrC : Tryz.prog.globalNamed "errors.errorType" = some 0 := by kernel_rfl
theorem rtypC : (Tryz.prog.cutTypes.find? (·.1 == "internal/reflectlite.rtype")).map (·.2) = some 221 := by kernel_rfl
theorem oneRowC:((List.range 433).filter fun t=>Tryz.prog.rowNamed t [101,114,114,111,114])= [28]:=by kernel_rfl
theorem typesSizeC:Tryz.prog.types.size=433:=by kernel_rfl
abbrev laidListC : List (String × DataW Unit) := [("math/bits.deBruijn32tab", Rows.laid_math_bits_deBruijn32tab), ("math/bits.deBruijn64tab", Rows.laid_math_bits_deBruijn64tab), ("internal/strconv.uint64pow10", Lib.tabData .u64 Lib.pow10Tab), ("unicode/utf8.acceptRanges", Rows.laid_unicode_utf8_acceptRanges), ("strconv.ErrRange", Rows.laid_strconv_ErrRange), ("strconv.ErrSyntax", Rows.laid_strconv_ErrSyntax), ("unicode/utf8.first", Rows.laid_unicode_utf8_first)]
theorem mxLenC {W:World} (h:W.ShapedOpen Tryz.prog):∃ m,W.cell? ⟨3,0,none⟩=some (.int .i64 m):=
 cell_of_shapedOpen_int (zero:=#[.int .i64 0]) (t:=3) h (of_decide_eq_true (by kernel_rfl)) (by kernel_rfl) rfl (by kernel_rfl) (by kernel_rfl) Tryz.underlying3
theorem env_ofC {W : World} (h : laidMet Tryz.prog laidListC W ∧ handlesMet Tryz.prog [("errors.errorType", Rows.laid_errors_errorType)] W) (hsh : W.ShapedOpen Tryz.prog) : EnvC W := by
 obtain ⟨a0, t0, hv0, _⟩ := laid_sentinel (g := 5) h.1.tail.tail.tail.tail (by kernel_rfl) (by kernel_rfl) Tryz.underlying28 rowErrC Tryz.underlying398 Tryz.underlying400 rfl rfl Tryz.underlying9 (by kernel_rfl) (by kernel_rfl);obtain ⟨a1, t1, hv1, _⟩ := laid_sentinel (g := 4) h.1.tail.tail.tail.tail.tail (by kernel_rfl) (by kernel_rfl) Tryz.underlying28 rowErrC Tryz.underlying398 Tryz.underlying400 rfl rfl Tryz.underlying9 (by kernel_rfl) (by kernel_rfl);have hsyn : ∃ te pe, W.cell? ⟨4, 0, none⟩ = some (.iface te pe) := ⟨398, .pointer (some a1), by simpa using World.var?_cell (show Tryz.prog.globalNamed "strconv.ErrSyntax" = some 4 by kernel_rfl) hv1 0⟩;have hrng : ∃ te pe, W.cell? ⟨5, 0, none⟩ = some (.iface te pe) := ⟨398, .pointer (some a0), by simpa using World.var?_cell (show Tryz.prog.globalNamed "strconv.ErrRange" = some 5 by kernel_rfl) hv0 0⟩;have e1 : (Rows.laid_unicode_utf8_acceptRanges : DataW Unit) = acceptData := by kernel_rfl
 have e2:Rows.laid_unicode_utf8_first=firstData:=Pinned.utf8First_eq
 have m1 : ("unicode/utf8.first", firstData) ∈ laidListC := by rw [← e2]; simp [laidListC]
 have m2 : ("unicode/utf8.acceptRanges", acceptData) ∈ laidListC := by rw [← e1]; simp [laidListC]
 refine⟨⟨utf8Tabs_of_readsT (U8Types.of196 Tryz.lays196) ⟨by kernel_rfl,by kernel_rfl,by kernel_rfl,by kernel_rfl,by kernel_rfl,by kernel_rfl,by kernel_rfl⟩ (Lib.laidMet.reads h.1 m1) (Lib.laidMet.reads h.1 m2),hsyn,hrng⟩,mxLenC hsh,hsyn,hrng,?_,?_⟩
 · exact Lib.tabIs_of_head gPowC tPowC Tryz.underlying392 Tryz.underlying143 (by kernel_rfl) (by kernel_rfl) h.1.tail.tail
 · obtain⟨name,u,ty,e1,e2,e3,e4,e5⟩:=h.2 _ (List.mem_singleton.2 rfl);have en:name= [101,114,114,111,114]:=(Option.some.inj e1).symm;subst en;obtain rfl:=Option.some.inj (rtypC.symm.trans e2);have hm:ty∈(List.range 433).filter fun t=>Tryz.prog.rowNamed t [101,114,114,111,114]:=List.mem_filter.2 ⟨List.mem_range.2 (by rw [←typesSizeC];exact e3),e4⟩
   rw [oneRowC] at hm;obtain rfl:=List.mem_singleton.1 hm;have hh:typeHandle Tryz.prog 28= .pointer (some ⟨9,28,none⟩):=by kernel_rfl
   rw [hh] at e5;simpa using World.var?_cell gErrC e5 0
end Go.Proofs.YtlmefgjhbohjlaaGreatDoor
