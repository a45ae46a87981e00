/- Routes that are handed in, what is asked: opened. -/
import Derived.Test.YtlmlljlappjjjaaGreatDoorQDet
namespace Go.Proofs.YtlmlljlappjjjaaGreatDoor
set_option maxHeartbeats 4000000
open Go.ChangeShapes Go.WideShapes Go.RowKit
theorem str_selfC (s:ByteArray):str s.data.toList=s:=by cases s;rfl
abbrev strF:B→List Value:=txF
def wtG {α:Type} (b:α→Nat):List α→Nat
 | []=>0
 |x::l=>b x+wtG b l
theorem wtG_mem {α:Type} (b:α→Nat):∀ (l:List α) (x:α),x∈l→b x≤wtG b l
 |y::l,x,h=>by
  simp only [wtG];rcases List.mem_cons.1 h with h1|h1
  · rw [h1];omega
  · have:=wtG_mem b l x h1;omega
theorem wtG_len {α:Type} (b:α→Nat) (h:∀ x,1≤b x):∀ l:List α,l.length≤wtG b l
 | []=>Nat.le_refl _
 |x::l=>by
  have h1:=wtG_len b h l;have h2:=h x;simp only [wtG,List.length_cons];omega
section
variable {α : Type} {H : Type} {enc : TypeId × Value → H} {W : World} {sp : Nat → Bool} {held : Bool} {sz : Nat} {f : α → List Value} {Q : α → Prop} {b : α → Nat}
theorem open_eachG (hf:∀ x,(f x).length=sz) {a:Addr} (hs:a.spot=none):∀ (es:List (DataW H×List MemPlace)) (o:Nat),(∀ (i:Nat) (y:DataW H×List MemPlace),es[i]?=some y→∃ x:α,W.cells? 0 (a.add ((o+i)*sz)) sz=some (f x)∧Q x∧b x≤Rows.uptoBulk y.1)→
  ∃ l:List α,l.length=es.length∧(∀ (j:Nat) (x:α),l[j]?=some x→∀ (t:Nat) (u:Value),(f x)[t]?=some u→W.cell? ⟨a.block,a.off+(o+j)*sz+t,none⟩=some u)∧(∀ x∈l,Q x)∧wtG b l≤Rows.uptoBulkAll (es.map (·.1))
 | [],o,_=>⟨[],rfl,fun j x h=>by simp at h,(by simp),Nat.zero_le _⟩
 |y::ys,o,h=>by
  obtain⟨x,hc,hq,hw⟩:=h 0 y rfl;obtain⟨l,h1,h2,h3,h4⟩:=open_eachG hf hs ys (o+1) (fun i z hz=>by
   have:=h (i+1) z (by simpa using hz);rw [show o+(i+1)=o+1+i by omega] at this;exact this)
  obtain⟨_,hcl,hcell⟩:=World.cells?_some hc;refine⟨x::l,by simp [h1],fun j g hj t u hu=>?_,fun z hz=>?_,?_⟩
  · cases j with
    |zero=>
     simp at hj;subst hj;have ht:t<sz:=by rw [←hf x];exact(List.getElem?_eq_some_iff.1 hu).1
     have q0:=hcell t ht;rw [hu] at q0;obtain⟨g,off,spot⟩:=a;simp only at hs;subst hs;have ha:((⟨g,off,none⟩:Addr).add ((o+0)*sz)).add t=⟨g,off+(o+0)*sz+t,none⟩:=by rw [addr_add,addr_add]
     rw [ha] at q0;exact q0
    |succ j=>
     have:=h2 j g (by simpa using hj) t u hu;rw [show o+(j+1)=o+1+j by omega];exact this
  · rcases List.mem_cons.1 hz with h5|h5
    · rw [h5];exact hq
    · exact h3 z h5
  · simp only [wtG,List.map_cons,Rows.uptoBulkAll];omega
theorem open_rowG {T TS:TypeId} (hU:Tryz.prog.underlying TS=some (.slice T)) (hc:Tryz.prog.cellsOf T=sz) (hsz:0<sz) (hf:∀ x,(f x).length=sz) (one:∀ (fuel:Nat) (cs:List Value) (x:DataW H×List MemPlace),DataW.trod enc Tryz.prog W 0 sp held fuel T cs=some x→∃ a:α,cs=f a∧Q a∧b a≤Rows.uptoBulk x.1) (fuel:Nat) (d:Value) (x:DataW H×List MemPlace) (h:DataW.trod enc Tryz.prog W 0 sp held fuel TS [d]=some x):
  ∃ (l:List α) (p:Option Addr) (c:Nat),d= .slice p l.length c∧l.length≤c∧(p=none→c=0)∧RowG W sz f p l∧(∀ a∈l,Q a)∧wtG b l≤Rows.uptoBulk x.1:=by
 rcases DataW.trod_slice hU h with ⟨e,rfl⟩|⟨a,len,cap,elems,rest,n2,rfl,e,rfl,_,hcp,_,hlen,hel,_,_⟩
 · simp only [List.cons.injEq,and_true] at e;exact⟨[],none,0,e,Nat.le_refl _,fun _=>rfl,fun j f h=>by simp at h,(by simp),Nat.zero_le _⟩
 · simp only [List.cons.injEq,and_true] at e;rw [hc] at hel;have each:∀ (j:Nat) (y:DataW H×List MemPlace),elems[j]?=some y→∃ x:α,W.cells? 0 (a.add ((0+j)*sz)) sz=some (f x)∧Q x∧b x≤Rows.uptoBulk y.1:=by
    intro j y hy;have hj:j<len:=by
     have:=(List.getElem?_eq_some_iff.1 hy).1;omega
    have h2:=hel j hj;rw [hy] at h2;cases hc:W.cells? 0 (a.add (j*sz)) sz with
    |none=>rw [hc] at h2;cases h2
    |some cs=>
     rw [hc] at h2;simp only [Option.bind_some] at h2;obtain⟨v,rfl,hq,hw⟩:=one n2 cs y h2;exact⟨v,by rw [Nat.zero_add];exact hc,hq,hw⟩
   rcases Nat.eq_zero_or_pos len with h0|hpos
   · subst h0;exact⟨[],some a,cap,e,Nat.zero_le _,fun h=>(by cases h),fun j f h=>by simp at h,(by simp),Nat.zero_le _⟩
   · obtain⟨y,hy⟩:∃ y,elems[0]?=some y:=⟨elems[0]'(by omega),List.getElem?_eq_getElem (by omega)⟩;obtain⟨v,hc,_,_⟩:=each 0 y hy;obtain⟨_,hcl,hcell⟩:=World.cells?_some hc;have hc0:=hcell 0 hsz;rw [List.getElem?_eq_getElem (by rw [hf];exact hsz)] at hc0;have hsp:a.spot=none:=by simpa [Addr.add] using World.cell?_spot hc0
     obtain⟨l,h1,h2,h3,h4⟩:=open_eachG hf hsp elems 0 each;refine⟨l,some a,cap,by rw [h1,hlen];exact e,by omega,fun h=>(by cases h),fun j x hj=>?_,h3,?_⟩
     · refine⟨a.block,a.off,?_,fun t u hu=>?_⟩
       · obtain⟨g,off,spot⟩:=a;simp only at hsp;subst hsp;rfl
       · have:=h2 j x hj t u hu;rw [Nat.zero_add] at this;exact this
     · simp only [Rows.uptoBulk];omega
end
theorem trod_at {H:Type}{enc:TypeId×Value→H}{W:World}{sp:Nat→Bool}{held:Bool}{n:Nat}{t:TypeId}{c:Nat}{ds:List Value}{o:Option (DataW H×List MemPlace)} (h:DataW.trod enc Tryz.prog W 0 sp held n t (ds.take (Tryz.prog.cellsOf t))=o) (hc:Tryz.prog.cellsOf t=c):DataW.trod enc Tryz.prog W 0 sp held n t (ds.take c)=o:=hc ▸ h
theorem c_string:Tryz.prog.cellsOf 9=1:=by kernel_rfl
theorem c_int:Tryz.prog.cellsOf 3=1:=by kernel_rfl
theorem c_bool:Tryz.prog.cellsOf 4=1:=by kernel_rfl
theorem c_strs:Tryz.prog.cellsOf 36=1:=by kernel_rfl
theorem c_climit:Tryz.prog.cellsOf 40=4:=by kernel_rfl
theorem c_cauth:Tryz.prog.cellsOf 38=5:=by kernel_rfl
abbrev wS (s:B):Nat:=s.length+1
abbrev wRt (x:RtX):Nat:=x.r.host.length+x.r.path.length+wtG wS x.r.ms+1
structure RtIn (W:World) (x:RtX):Prop where
 k:x.r.ms.length≤x.k
 z:x.q=none→x.k=0
 r:RowG W 1 strF x.q x.r.ms
 val:RtV x
theorem open_str {H:Type}{enc:TypeId×Value→H}{W:World}{sp:Nat→Bool}{held:Bool} (fuel:Nat) (cs:List Value) (x:DataW H×List MemPlace) (h:DataW.trod enc Tryz.prog W 0 sp held fuel 9 cs=some x):∃ s:B,cs=strF s∧True∧wS s≤Rows.uptoBulk x.1:=by
 obtain⟨s0,e0,rfl,_⟩:=DataW.trod_string Tryz.underlying9 h;exact⟨s0.data.toList,by rw [e0],trivial,by simp [Rows.uptoBulk]⟩
theorem open_texts {H:Type}{enc:TypeId×Value→H}{W:World}{sp:Nat→Bool}{held:Bool} (fuel:Nat) (d:Value) (x:DataW H×List MemPlace) (h:DataW.trod enc Tryz.prog W 0 sp held fuel 36 [d]=some x):∃ (l:List B) (p:Option Addr) (c:Nat),d= .slice p l.length c∧l.length≤c∧(p=none→c=0)∧RowG W 1 strF p l∧(∀ a∈l,(fun _=>True) a)∧wtG wS l≤Rows.uptoBulk x.1:=
 open_rowG (sz:=1) (f:=strF) (Q:=fun a=>(fun _=>True) a) Tryz.underlying36 (by kernel_rfl) (by decide) (fun _=>rfl) (fun fu cs y hy=>open_str fu cs y hy) fuel d x h
theorem open_lim {H:Type}{enc:TypeId×Value→H}{W:World}{sp:Nat→Bool}{held:Bool} (fuel:Nat) (cs:List Value) (x:DataW H×List MemPlace) (h:DataW.trod enc Tryz.prog W 0 sp held fuel 40 cs=some x):∃ a0 a1 a2 a3:Int,cs= [.int .i64 a0,.int .i64 a1,.int .i64 a2,.int .i64 a3]:=by
 obtain⟨xs,n,rfl,rfl,hl,hx,hf⟩:=DataW.trod_struct Tryz.underlying40 h;have ct:Tryz.prog.cellsOf 40=4:=by kernel_rfl
 rw [ct] at hl;have hxn:xs.length=4:=by rw [hx];rfl
 clear hx ct;rcases cs with _|⟨d0,_|⟨d1,_|⟨d2,_|⟨d3,_|⟨d4,r⟩⟩⟩⟩⟩ <;> simp at hl
 rcases xs with _|⟨y0,_|⟨y1,_|⟨y2,_|⟨y3,_|⟨y4,r⟩⟩⟩⟩⟩ <;> simp at hxn
 have f0:DataW.trod enc Tryz.prog W 0 sp held n 3 [d0]=some y0:=by have h:=trod_at (hf 0 _ rfl) c_int;exact h
 have f1:DataW.trod enc Tryz.prog W 0 sp held n 3 [d1]=some y1:=by have h:=trod_at (hf 1 _ rfl) c_int;exact h
 have f2:DataW.trod enc Tryz.prog W 0 sp held n 3 [d2]=some y2:=by have h:=trod_at (hf 2 _ rfl) c_int;exact h
 have f3:DataW.trod enc Tryz.prog W 0 sp held n 3 [d3]=some y3:=by have h:=trod_at (hf 3 _ rfl) c_int;exact h
 clear hf hl hxn;obtain⟨s0,e0,rfl,_⟩:=DataW.trod_int Tryz.underlying3 f0;obtain⟨s1,e1,rfl,_⟩:=DataW.trod_int Tryz.underlying3 f1;obtain⟨s2,e2,rfl,_⟩:=DataW.trod_int Tryz.underlying3 f2;obtain⟨s3,e3,rfl,_⟩:=DataW.trod_int Tryz.underlying3 f3;simp only [List.cons.injEq,and_true] at e0 e1 e2 e3;subst e0;subst e1;subst e2;subst e3;exact⟨s0,s1,s2,s3,rfl⟩
theorem open_auth {H:Type}{enc:TypeId×Value→H}{W:World}{sp:Nat→Bool}{held:Bool} (fuel:Nat) (cs:List Value) (x:DataW H×List MemPlace) (h:DataW.trod enc Tryz.prog W 0 sp held fuel 38 cs=some x):∃ (b:Bool) (t1 t2:ByteArray) (q:Option Addr) (n c:Nat) (i:Int),cs= [.bool b,.string t1,.string t2,.slice q n c,.int .i64 i]:=by
 obtain⟨xs,n,rfl,rfl,hl,hx,hf⟩:=DataW.trod_struct Tryz.underlying38 h;have ct:Tryz.prog.cellsOf 38=5:=by kernel_rfl
 rw [ct] at hl;have hxn:xs.length=5:=by rw [hx];rfl
 clear hx ct;rcases cs with _|⟨d0,_|⟨d1,_|⟨d2,_|⟨d3,_|⟨d4,_|⟨d5,r⟩⟩⟩⟩⟩⟩ <;> simp at hl
 rcases xs with _|⟨y0,_|⟨y1,_|⟨y2,_|⟨y3,_|⟨y4,_|⟨y5,r⟩⟩⟩⟩⟩⟩ <;> simp at hxn
 have f0:DataW.trod enc Tryz.prog W 0 sp held n 4 [d0]=some y0:=by have h:=trod_at (hf 0 _ rfl) c_bool;exact h
 have f1:DataW.trod enc Tryz.prog W 0 sp held n 9 [d1]=some y1:=by have h:=trod_at (hf 1 _ rfl) c_string;exact h
 have f2:DataW.trod enc Tryz.prog W 0 sp held n 9 [d2]=some y2:=by have h:=trod_at (hf 2 _ rfl) c_string;exact h
 have f3:DataW.trod enc Tryz.prog W 0 sp held n 36 [d3]=some y3:=by have h:=trod_at (hf 3 _ rfl) c_strs;exact h
 have f4:DataW.trod enc Tryz.prog W 0 sp held n 3 [d4]=some y4:=by have h:=trod_at (hf 4 _ rfl) c_int;exact h
 clear hf hl hxn;obtain⟨s0,e0,rfl⟩:=DataW.trod_bool Tryz.underlying4 f0;obtain⟨s1,e1,rfl,_⟩:=DataW.trod_string Tryz.underlying9 f1;obtain⟨s2,e2,rfl,_⟩:=DataW.trod_string Tryz.underlying9 f2;obtain⟨l3,p3,c3,rfl,hc3,hz3,hr3,hq3,hw3⟩:=open_texts n d3 y3 f3;obtain⟨s4,e4,rfl,_⟩:=DataW.trod_int Tryz.underlying3 f4;simp only [List.cons.injEq,and_true] at e0 e1 e2 e4;subst e0;subst e1;subst e2;subst e4;exact⟨s0,s1,s2,p3,l3.length,c3,s4,rfl⟩
theorem open_route {H:Type}{enc:TypeId×Value→H}{W:World}{sp:Nat→Bool}{held:Bool} (fuel:Nat) (cs:List Value) (x:DataW H×List MemPlace) (h:DataW.trod enc Tryz.prog W 0 sp held fuel 42 cs=some x):∃ a:RtX,cs=rtXF a∧RtIn W a∧wRt a≤Rows.uptoBulk x.1:=by
 obtain⟨xs,n,rfl,rfl,hl,hx,hf⟩:=DataW.trod_struct Tryz.underlying42 h;have ct:Tryz.prog.cellsOf 42=13:=by kernel_rfl
 rw [ct] at hl;have hxn:xs.length=6:=by rw [hx];rfl
 clear hx ct;rcases cs with _|⟨d0,_|⟨d1,_|⟨d2,_|⟨d3,_|⟨d4,_|⟨d5,_|⟨d6,_|⟨d7,_|⟨d8,_|⟨d9,_|⟨d10,_|⟨d11,_|⟨d12,_|⟨d13,r⟩⟩⟩⟩⟩⟩⟩⟩⟩⟩⟩⟩⟩⟩ <;> simp at hl
 rcases xs with _|⟨y0,_|⟨y1,_|⟨y2,_|⟨y3,_|⟨y4,_|⟨y5,_|⟨y6,r⟩⟩⟩⟩⟩⟩⟩ <;> simp at hxn
 have f0:DataW.trod enc Tryz.prog W 0 sp held n 9 [d0]=some y0:=by have h:=trod_at (hf 0 _ rfl) c_string;exact h
 have f1:DataW.trod enc Tryz.prog W 0 sp held n 9 [d1]=some y1:=by have h:=trod_at (hf 1 _ rfl) c_string;exact h
 have f2:DataW.trod enc Tryz.prog W 0 sp held n 36 [d2]=some y2:=by have h:=trod_at (hf 2 _ rfl) c_strs;exact h
 have f3:DataW.trod enc Tryz.prog W 0 sp held n 9 [d3]=some y3:=by have h:=trod_at (hf 3 _ rfl) c_string;exact h
 have f4:DataW.trod enc Tryz.prog W 0 sp held n 38 [d4,d5,d6,d7,d8]=some y4:=by have h:=trod_at (hf 4 _ rfl) c_cauth;exact h
 have f5:DataW.trod enc Tryz.prog W 0 sp held n 40 [d9,d10,d11,d12]=some y5:=by have h:=trod_at (hf 5 _ rfl) c_climit;exact h
 clear hf hl hxn;obtain⟨s0,e0,rfl,_⟩:=DataW.trod_string Tryz.underlying9 f0;obtain⟨s1,e1,rfl,_⟩:=DataW.trod_string Tryz.underlying9 f1;obtain⟨l2,p2,c2,rfl,hc2,hz2,hr2,hq2,hw2⟩:=open_texts n d2 y2 f2;obtain⟨s3,e3,rfl,_⟩:=DataW.trod_string Tryz.underlying9 f3;obtain⟨b4,t1,t2,q4,n4,c4,i4,e4⟩:=open_auth n _ y4 f4;obtain⟨j0,j1,j2,j3,e5⟩:=open_lim n _ y5 f5;simp only [List.cons.injEq,and_true] at e0 e1 e3 e4 e5;subst e0;subst e1;subst e3;obtain⟨rfl,rfl,rfl,rfl,rfl⟩:=e4;obtain⟨rfl,rfl,rfl,rfl⟩:=e5;refine⟨⟨⟨s0.data.toList,s1.data.toList,l2⟩,p2,c2,.string s3,.bool b4,.string t1,.string t2,.slice q4 n4 c4,.int .i64 i4,.int .i64 j0,.int .i64 j1,.int .i64 j2,.int .i64 j3⟩,by simp only [rtXF,str_selfC],⟨hc2,hz2,hr2,⟨s3,t1,t2,b4,q4,n4,c4,i4,j0,j1,j2,j3,rfl,rfl,rfl,rfl,rfl,rfl,rfl,rfl,rfl,rfl⟩⟩,?_⟩;simp [Rows.uptoBulk,Rows.uptoBulkAll] at*;try omega
theorem open_routes {H:Type}{enc:TypeId×Value→H}{W:World}{sp:Nat→Bool}{held:Bool} (fuel:Nat) (d:Value) (x:DataW H×List MemPlace) (h:DataW.trod enc Tryz.prog W 0 sp held fuel 22 [d]=some x):∃ (l:List RtX) (p:Option Addr) (c:Nat),d= .slice p l.length c∧l.length≤c∧(p=none→c=0)∧RowG W 13 rtXF p l∧(∀ a∈l,RtIn W a)∧wtG wRt l≤Rows.uptoBulk x.1:=
 open_rowG (sz:=13) (f:=rtXF) (Q:=fun a=>RtIn W a) Tryz.underlying22 (by kernel_rfl) (by decide) (fun _=>rfl) (fun fu cs y hy=>open_route fu cs y hy) fuel d x h
theorem open_asked {H:Type}{enc:TypeId×Value→H}{W:World}{sp:Nat→Bool}{held:Bool} (fuel:Nat) (cs:List Value) (x:DataW H×List MemPlace) (h:DataW.trod enc Tryz.prog W 0 sp held fuel 44 cs=some x):∃ a b c:B,cs= [.string (str a),.string (str b),.string (str c)]∧a.length+b.length+c.length≤Rows.uptoBulk x.1:=by
 obtain⟨xs,n,rfl,rfl,hl,hx,hf⟩:=DataW.trod_struct Tryz.underlying44 h;have ct:Tryz.prog.cellsOf 44=3:=by kernel_rfl
 rw [ct] at hl;have hxn:xs.length=3:=by rw [hx];rfl
 clear hx ct;rcases cs with _|⟨d0,_|⟨d1,_|⟨d2,_|⟨d3,r⟩⟩⟩⟩ <;> simp at hl
 rcases xs with _|⟨y0,_|⟨y1,_|⟨y2,_|⟨y3,r⟩⟩⟩⟩ <;> simp at hxn
 have f0:DataW.trod enc Tryz.prog W 0 sp held n 9 [d0]=some y0:=by have h:=trod_at (hf 0 _ rfl) c_string;exact h
 have f1:DataW.trod enc Tryz.prog W 0 sp held n 9 [d1]=some y1:=by have h:=trod_at (hf 1 _ rfl) c_string;exact h
 have f2:DataW.trod enc Tryz.prog W 0 sp held n 9 [d2]=some y2:=by have h:=trod_at (hf 2 _ rfl) c_string;exact h
 clear hf hl hxn;obtain⟨s0,e0,rfl,_⟩:=DataW.trod_string Tryz.underlying9 f0;obtain⟨s1,e1,rfl,_⟩:=DataW.trod_string Tryz.underlying9 f1;obtain⟨s2,e2,rfl,_⟩:=DataW.trod_string Tryz.underlying9 f2;simp only [List.cons.injEq,and_true] at e0 e1 e2;subst e0;subst e1;subst e2;refine⟨s0.data.toList,s1.data.toList,s2.data.toList,by simp only [str_selfC],?_⟩;simp [Rows.uptoBulk,Rows.uptoBulkAll] at*;try omega
theorem rts_of {W:World}{p:Option Addr}{l:List RtX} (h:RowG W 13 rtXF p l) (hi:∀ a∈l,RtIn W a):RtsAt W p l:=by
 refine⟨h,fun x hx=>?_⟩;intro j t hj;obtain⟨g,o,e,hc⟩:=(hi x hx).r j t hj;have h1:=hc 0 _ rfl;rw [Nat.mul_one,Nat.add_zero] at h1;exact⟨g,o,e,h1⟩
theorem zp_of {W:World}{l:List RtX} (hi:∀ a∈l,RtIn W a) (hw:wtG wRt l≤1048576):l.length≤1048576∧(∀ x∈l,RtZP x)∧∀ x∈l,x.r.ms.length≤1048576∧(x.q=none→x.k=0):=by
 have each:∀ x∈l,wRt x≤1048576:=fun x hx=>Nat.le_trans (wtG_mem wRt l x hx) hw
 have hms:∀ x∈l,x.r.ms.length≤1048576:=fun x hx=>by
  have h1:=each x hx;have h2:=wtG_len wS (fun _=>by show 1≤_+1;omega) x.r.ms;show _≤_;unfold wRt at h1;omega
 have hme:∀ x∈l,∀ y∈x.r.ms,y.length≤1048576:=fun x hx y hy=>by
  have h1:=each x hx;have h2:=wtG_mem wS x.r.ms y hy;unfold wRt at h1;unfold wS at h1 h2;omega
 refine⟨Nat.le_trans (wtG_len wRt (fun _=>by show 1≤_+1;omega) l) hw,fun x hx=>?_,fun x hx=>⟨hms x hx,(hi x hx).z⟩⟩;have h1:=each x hx;unfold wRt at h1;exact⟨(hi x hx).val,⟨by omega,by omega,Nat.le_trans (hms x hx) (by decide),(hi x hx).k,fun y hy=>Nat.le_trans (hme x hx y hy) (by decide)⟩,Nat.le_trans (hms x hx) (by decide),fun y hy=>Nat.le_trans (hme x hx y hy) (by decide)⟩
end Go.Proofs.YtlmlljlappjjjaaGreatDoor
