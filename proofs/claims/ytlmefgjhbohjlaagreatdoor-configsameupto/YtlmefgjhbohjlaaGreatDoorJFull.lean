/- utf8.FullRuneInString. -/
import Derived.Test.YtlmefgjhbohjlaaGreatDoorJUni
namespace Go.Proofs.YtlmefgjhbohjlaaGreatDoor
set_option maxRecDepth 20000
set_option maxHeartbeats 4000000
open Go.RowKit
abbrev Tabs (w:World):Prop:=Lib.Utf8Tabs 1 2 w
theorem getL {s:ByteArray}{l:B} (h:s.data.toList=l) (i:Nat) (hi:i<s.size):s[i]'hi=l.getD i 0:=by
 subst h;show s.data.toList[i]=_;rw [List.getD_eq_getElem?_getD,List.getElem?_eq_getElem (by simpa using hi)];rfl
theorem sizeL {s:ByteArray}{l:B} (h:s.data.toList=l):s.size=l.length:=by subst h;rfl
theorem full_asc (s:ByteArray) (c:UInt8) (t:B) (h:s.data.toList=c::t) (hm:s.size≤140737488355328) (w:World) (hT:Tabs w) (hX:Lib.firstT c.toNat=240):
 Calls Tryz.prog 323 #[.string s] w fun e w'=>e= .returned (.bool (full (c::t)))∧Below w.heap.size w w':=by
 have hsz:=sizeL h;simp only [List.length_cons] at hsz;have hp0:0<s.size:=by omega
 have g0:s[0]'hp0=c:=getL h 0 _;have hz0:((s.size:Int)== 0)=false:=by simp only [beq_eq_false_iff_ne,ne_eq];omega
 have hz0':(0:Int)<(s.size:Int):=by omega
 have hz0'':(0:Int)≤(s.size:Int):=by omega
 have l0:=c.toNat_lt;have hc0:=hT.1 c.toNat (by omega);rw [hX] at hc0;have hf:full (c::t)=true:=by simp [full,hX]
 have HF:=hid hf;have hge:(1:Int)≤(s.size:Int):=by omega
 clear hT hX hf hsz;go_enter Tryz.func323,Tryz.ntmps323;go_wp2;go_ret;exact⟨(congrArg (fun x=>Ending.returned (.bool x)) HF.out).symm,Below.refl _ _⟩
theorem full_bad (s:ByteArray) (c:UInt8) (t:B) (h:s.data.toList=c::t) (hm:s.size≤140737488355328) (w:World) (hT:Tabs w) (hX:Lib.firstT c.toNat=241):
 Calls Tryz.prog 323 #[.string s] w fun e w'=>e= .returned (.bool (full (c::t)))∧Below w.heap.size w w':=by
 have hsz:=sizeL h;simp only [List.length_cons] at hsz;have hp0:0<s.size:=by omega
 have g0:s[0]'hp0=c:=getL h 0 _;have hz0:((s.size:Int)== 0)=false:=by simp only [beq_eq_false_iff_ne,ne_eq];omega
 have hz0':(0:Int)<(s.size:Int):=by omega
 have hz0'':(0:Int)≤(s.size:Int):=by omega
 have l0:=c.toNat_lt;have hc0:=hT.1 c.toNat (by omega);rw [hX] at hc0;have hf:full (c::t)=true:=by simp [full,hX]
 have HF:=hid hf;have hge:(1:Int)≤(s.size:Int):=by omega
 clear hT hX hf hsz;go_enter Tryz.func323,Tryz.ntmps323;go_wp2;go_ret;exact⟨(congrArg (fun x=>Ending.returned (.bool x)) HF.out).symm,Below.refl _ _⟩
theorem below_drew_j {B:Nat}{a w:World} (h:Below B a w):∀ q,Below B a (w.drewN q)
 |0=>h
 |q+1=>(below_drew_j h q).drew
theorem full_2 (s:ByteArray) (c:UInt8) (t:B) (h:s.data.toList=c::t) (hm:s.size≤140737488355328) (w:World) (hT:Tabs w) (hX:Lib.firstT c.toNat=2):
 Calls Tryz.prog 323 #[.string s] w fun e w'=>e= .returned (.bool (full (c::t)))∧Below w.heap.size w w':=by
 have hsz:=sizeL h;simp only [List.length_cons] at hsz;have hp0:0<s.size:=by omega
 have g0:s[0]'hp0=c:=getL h 0 _;have hz0:((s.size:Int)== 0)=false:=by simp only [beq_eq_false_iff_ne,ne_eq];omega
 have hz0':(0:Int)<(s.size:Int):=by omega
 have hz0'':(0:Int)≤(s.size:Int):=by omega
 have l0:=c.toNat_lt;have hc0:=hT.1 c.toNat (by omega);rw [hX] at hc0;have ha0:=(hT.2 0 (by omega)).1;have ha1:=(hT.2 0 (by omega)).2;simp only [Lib.accLo,Lib.accHi,Nat.reduceMul,Nat.reduceAdd,Nat.reduceEqDiff,if_true,if_false] at ha0 ha1;clear hT;by_cases hn:2≤s.size
 · have hge:(2:Int)≤(s.size:Int):=by omega
   have hf:full (c::t)=true:=by simp [full,hX];omega
   have HF:=hid hf;clear hX hf hsz;go_enter Tryz.func323,Tryz.ntmps323;go_wp2;go_ret;exact⟨(congrArg (fun x=>Ending.returned (.bool x)) HF.out).symm,Below.refl _ _⟩
 · have hge:¬(2:Int)≤(s.size:Int):=by omega
   rcases t with _|⟨x,r⟩
   · simp only [List.length_nil] at hsz;have n1:decide ((1:Int)<(s.size:Int))=false:=by simp only [decide_eq_false_iff_not];omega
     have n2:¬(2:Int)<(s.size:Int):=by omega
     have hf:full (c:: [])=false:=by simp [full,hX,Lib.accLo,Lib.accHi,nx]
     have HF:=hid hf;clear hX hf hsz;go_enter Tryz.func323,Tryz.ntmps323;go_wp2;go_quiet (fail);go_wp2;go_ret;refine⟨(congrArg (fun x=>Ending.returned (.bool x)) HF.out).symm,?_⟩;exact below_drew_j ((Below.refl _ _).alloc (Nat.le_refl _) _) _
   · simp only [List.length_cons] at hsz;omega
theorem full_19 (s:ByteArray) (c:UInt8) (t:B) (h:s.data.toList=c::t) (hm:s.size≤140737488355328) (w:World) (hT:Tabs w) (hX:Lib.firstT c.toNat=19):
 Calls Tryz.prog 323 #[.string s] w fun e w'=>e= .returned (.bool (full (c::t)))∧Below w.heap.size w w':=by
 have hsz:=sizeL h;simp only [List.length_cons] at hsz;have hp0:0<s.size:=by omega
 have g0:s[0]'hp0=c:=getL h 0 _;have hz0:((s.size:Int)== 0)=false:=by simp only [beq_eq_false_iff_ne,ne_eq];omega
 have hz0':(0:Int)<(s.size:Int):=by omega
 have hz0'':(0:Int)≤(s.size:Int):=by omega
 have l0:=c.toNat_lt;have hc0:=hT.1 c.toNat (by omega);rw [hX] at hc0;have ha0:=(hT.2 1 (by omega)).1;have ha1:=(hT.2 1 (by omega)).2;simp only [Lib.accLo,Lib.accHi,Nat.reduceMul,Nat.reduceAdd,Nat.reduceEqDiff,if_true,if_false] at ha0 ha1;clear hT;by_cases hn:3≤s.size
 · have hge:(3:Int)≤(s.size:Int):=by omega
   have hf:full (c::t)=true:=by simp [full,hX];omega
   have HF:=hid hf;clear hX hf hsz;go_enter Tryz.func323,Tryz.ntmps323;go_wp2;go_ret;exact⟨(congrArg (fun x=>Ending.returned (.bool x)) HF.out).symm,Below.refl _ _⟩
 · have hge:¬(3:Int)≤(s.size:Int):=by omega
   rcases t with _|⟨x,_|⟨y,r⟩⟩
   · simp only [List.length_nil] at hsz;have n1:decide ((1:Int)<(s.size:Int))=false:=by simp only [decide_eq_false_iff_not];omega
     have n2:¬(2:Int)<(s.size:Int):=by omega
     have hf:full (c:: [])=false:=by simp [full,hX,Lib.accLo,Lib.accHi,nx]
     have HF:=hid hf;clear hX hf hsz;go_enter Tryz.func323,Tryz.ntmps323;go_wp2;go_quiet (fail);go_wp2;go_ret;refine⟨(congrArg (fun x=>Ending.returned (.bool x)) HF.out).symm,?_⟩;exact below_drew_j ((Below.refl _ _).alloc (Nat.le_refl _) _) _
   · simp only [List.length_nil,List.length_cons] at hsz;have n2:¬(2:Int)<(s.size:Int):=by omega
     have l1:=x.toNat_lt;have hp1:1<s.size:=by omega
     have g1:s[1]'hp1=x:=getL h 1 _;have n1:(1:Int)<(s.size:Int):=by omega
     by_cases hx:x.toNat<160
     · have hv:(x.toNat:Int)<160:=by omega
       have hf:full (c:: [x])=true:=by simp [full,hX,Lib.accLo,Lib.accHi,nx];omega
       have HF:=hid hf;clear hX hf hsz;go_enter Tryz.func323,Tryz.ntmps323;go_wp2;go_quiet (fail);go_wp2;go_ret;refine⟨(congrArg (fun x=>Ending.returned (.bool x)) HF.out).symm,?_⟩;exact below_drew_j ((Below.refl _ _).alloc (Nat.le_refl _) _) _
     · have hv:¬(x.toNat:Int)<160:=by omega
       by_cases hy:191<x.toNat
       · have hu:(191:Int)<(x.toNat:Int):=by omega
         have hf:full (c:: [x])=true:=by simp [full,hX,Lib.accLo,Lib.accHi,nx];omega
         have HF:=hid hf;clear hX hf hsz;go_enter Tryz.func323,Tryz.ntmps323;go_wp2;go_quiet (fail);go_wp2;go_ret;refine⟨(congrArg (fun x=>Ending.returned (.bool x)) HF.out).symm,?_⟩;exact below_drew_j ((Below.refl _ _).alloc (Nat.le_refl _) _) _
       · have hu:¬(191:Int)<(x.toNat:Int):=by omega
         have hf:full (c:: [x])=false:=by simp [full,hX,Lib.accLo,Lib.accHi,nx];omega
         have HF:=hid hf;clear hX hf hsz;go_enter Tryz.func323,Tryz.ntmps323;go_wp2;go_quiet (fail);go_wp2;go_ret;refine⟨(congrArg (fun x=>Ending.returned (.bool x)) HF.out).symm,?_⟩;exact below_drew_j ((Below.refl _ _).alloc (Nat.le_refl _) _) _
   · simp only [List.length_cons] at hsz;omega
theorem full_3 (s:ByteArray) (c:UInt8) (t:B) (h:s.data.toList=c::t) (hm:s.size≤140737488355328) (w:World) (hT:Tabs w) (hX:Lib.firstT c.toNat=3):
 Calls Tryz.prog 323 #[.string s] w fun e w'=>e= .returned (.bool (full (c::t)))∧Below w.heap.size w w':=by
 have hsz:=sizeL h;simp only [List.length_cons] at hsz;have hp0:0<s.size:=by omega
 have g0:s[0]'hp0=c:=getL h 0 _;have hz0:((s.size:Int)== 0)=false:=by simp only [beq_eq_false_iff_ne,ne_eq];omega
 have hz0':(0:Int)<(s.size:Int):=by omega
 have hz0'':(0:Int)≤(s.size:Int):=by omega
 have l0:=c.toNat_lt;have hc0:=hT.1 c.toNat (by omega);rw [hX] at hc0;have ha0:=(hT.2 0 (by omega)).1;have ha1:=(hT.2 0 (by omega)).2;simp only [Lib.accLo,Lib.accHi,Nat.reduceMul,Nat.reduceAdd,Nat.reduceEqDiff,if_true,if_false] at ha0 ha1;clear hT;by_cases hn:3≤s.size
 · have hge:(3:Int)≤(s.size:Int):=by omega
   have hf:full (c::t)=true:=by simp [full,hX];omega
   have HF:=hid hf;clear hX hf hsz;go_enter Tryz.func323,Tryz.ntmps323;go_wp2;go_ret;exact⟨(congrArg (fun x=>Ending.returned (.bool x)) HF.out).symm,Below.refl _ _⟩
 · have hge:¬(3:Int)≤(s.size:Int):=by omega
   rcases t with _|⟨x,_|⟨y,r⟩⟩
   · simp only [List.length_nil] at hsz;have n1:decide ((1:Int)<(s.size:Int))=false:=by simp only [decide_eq_false_iff_not];omega
     have n2:¬(2:Int)<(s.size:Int):=by omega
     have hf:full (c:: [])=false:=by simp [full,hX,Lib.accLo,Lib.accHi,nx]
     have HF:=hid hf;clear hX hf hsz;go_enter Tryz.func323,Tryz.ntmps323;go_wp2;go_quiet (fail);go_wp2;go_ret;refine⟨(congrArg (fun x=>Ending.returned (.bool x)) HF.out).symm,?_⟩;exact below_drew_j ((Below.refl _ _).alloc (Nat.le_refl _) _) _
   · simp only [List.length_nil,List.length_cons] at hsz;have n2:¬(2:Int)<(s.size:Int):=by omega
     have l1:=x.toNat_lt;have hp1:1<s.size:=by omega
     have g1:s[1]'hp1=x:=getL h 1 _;have n1:(1:Int)<(s.size:Int):=by omega
     by_cases hx:x.toNat<128
     · have hv:(x.toNat:Int)<128:=by omega
       have hf:full (c:: [x])=true:=by simp [full,hX,Lib.accLo,Lib.accHi,nx];omega
       have HF:=hid hf;clear hX hf hsz;go_enter Tryz.func323,Tryz.ntmps323;go_wp2;go_quiet (fail);go_wp2;go_ret;refine⟨(congrArg (fun x=>Ending.returned (.bool x)) HF.out).symm,?_⟩;exact below_drew_j ((Below.refl _ _).alloc (Nat.le_refl _) _) _
     · have hv:¬(x.toNat:Int)<128:=by omega
       by_cases hy:191<x.toNat
       · have hu:(191:Int)<(x.toNat:Int):=by omega
         have hf:full (c:: [x])=true:=by simp [full,hX,Lib.accLo,Lib.accHi,nx];omega
         have HF:=hid hf;clear hX hf hsz;go_enter Tryz.func323,Tryz.ntmps323;go_wp2;go_quiet (fail);go_wp2;go_ret;refine⟨(congrArg (fun x=>Ending.returned (.bool x)) HF.out).symm,?_⟩;exact below_drew_j ((Below.refl _ _).alloc (Nat.le_refl _) _) _
       · have hu:¬(191:Int)<(x.toNat:Int):=by omega
         have hf:full (c:: [x])=false:=by simp [full,hX,Lib.accLo,Lib.accHi,nx];omega
         have HF:=hid hf;clear hX hf hsz;go_enter Tryz.func323,Tryz.ntmps323;go_wp2;go_quiet (fail);go_wp2;go_ret;refine⟨(congrArg (fun x=>Ending.returned (.bool x)) HF.out).symm,?_⟩;exact below_drew_j ((Below.refl _ _).alloc (Nat.le_refl _) _) _
   · simp only [List.length_cons] at hsz;omega
theorem full_35 (s:ByteArray) (c:UInt8) (t:B) (h:s.data.toList=c::t) (hm:s.size≤140737488355328) (w:World) (hT:Tabs w) (hX:Lib.firstT c.toNat=35):
 Calls Tryz.prog 323 #[.string s] w fun e w'=>e= .returned (.bool (full (c::t)))∧Below w.heap.size w w':=by
 have hsz:=sizeL h;simp only [List.length_cons] at hsz;have hp0:0<s.size:=by omega
 have g0:s[0]'hp0=c:=getL h 0 _;have hz0:((s.size:Int)== 0)=false:=by simp only [beq_eq_false_iff_ne,ne_eq];omega
 have hz0':(0:Int)<(s.size:Int):=by omega
 have hz0'':(0:Int)≤(s.size:Int):=by omega
 have l0:=c.toNat_lt;have hc0:=hT.1 c.toNat (by omega);rw [hX] at hc0;have ha0:=(hT.2 2 (by omega)).1;have ha1:=(hT.2 2 (by omega)).2;simp only [Lib.accLo,Lib.accHi,Nat.reduceMul,Nat.reduceAdd,Nat.reduceEqDiff,if_true,if_false] at ha0 ha1;clear hT;by_cases hn:3≤s.size
 · have hge:(3:Int)≤(s.size:Int):=by omega
   have hf:full (c::t)=true:=by simp [full,hX];omega
   have HF:=hid hf;clear hX hf hsz;go_enter Tryz.func323,Tryz.ntmps323;go_wp2;go_ret;exact⟨(congrArg (fun x=>Ending.returned (.bool x)) HF.out).symm,Below.refl _ _⟩
 · have hge:¬(3:Int)≤(s.size:Int):=by omega
   rcases t with _|⟨x,_|⟨y,r⟩⟩
   · simp only [List.length_nil] at hsz;have n1:decide ((1:Int)<(s.size:Int))=false:=by simp only [decide_eq_false_iff_not];omega
     have n2:¬(2:Int)<(s.size:Int):=by omega
     have hf:full (c:: [])=false:=by simp [full,hX,Lib.accLo,Lib.accHi,nx]
     have HF:=hid hf;clear hX hf hsz;go_enter Tryz.func323,Tryz.ntmps323;go_wp2;go_quiet (fail);go_wp2;go_ret;refine⟨(congrArg (fun x=>Ending.returned (.bool x)) HF.out).symm,?_⟩;exact below_drew_j ((Below.refl _ _).alloc (Nat.le_refl _) _) _
   · simp only [List.length_nil,List.length_cons] at hsz;have n2:¬(2:Int)<(s.size:Int):=by omega
     have l1:=x.toNat_lt;have hp1:1<s.size:=by omega
     have g1:s[1]'hp1=x:=getL h 1 _;have n1:(1:Int)<(s.size:Int):=by omega
     by_cases hx:x.toNat<128
     · have hv:(x.toNat:Int)<128:=by omega
       have hf:full (c:: [x])=true:=by simp [full,hX,Lib.accLo,Lib.accHi,nx];omega
       have HF:=hid hf;clear hX hf hsz;go_enter Tryz.func323,Tryz.ntmps323;go_wp2;go_quiet (fail);go_wp2;go_ret;refine⟨(congrArg (fun x=>Ending.returned (.bool x)) HF.out).symm,?_⟩;exact below_drew_j ((Below.refl _ _).alloc (Nat.le_refl _) _) _
     · have hv:¬(x.toNat:Int)<128:=by omega
       by_cases hy:159<x.toNat
       · have hu:(159:Int)<(x.toNat:Int):=by omega
         have hf:full (c:: [x])=true:=by simp [full,hX,Lib.accLo,Lib.accHi,nx];omega
         have HF:=hid hf;clear hX hf hsz;go_enter Tryz.func323,Tryz.ntmps323;go_wp2;go_quiet (fail);go_wp2;go_ret;refine⟨(congrArg (fun x=>Ending.returned (.bool x)) HF.out).symm,?_⟩;exact below_drew_j ((Below.refl _ _).alloc (Nat.le_refl _) _) _
       · have hu:¬(159:Int)<(x.toNat:Int):=by omega
         have hf:full (c:: [x])=false:=by simp [full,hX,Lib.accLo,Lib.accHi,nx];omega
         have HF:=hid hf;clear hX hf hsz;go_enter Tryz.func323,Tryz.ntmps323;go_wp2;go_quiet (fail);go_wp2;go_ret;refine⟨(congrArg (fun x=>Ending.returned (.bool x)) HF.out).symm,?_⟩;exact below_drew_j ((Below.refl _ _).alloc (Nat.le_refl _) _) _
   · simp only [List.length_cons] at hsz;omega
theorem full_52 (s:ByteArray) (c:UInt8) (t:B) (h:s.data.toList=c::t) (hm:s.size≤140737488355328) (w:World) (hT:Tabs w) (hX:Lib.firstT c.toNat=52):
 Calls Tryz.prog 323 #[.string s] w fun e w'=>e= .returned (.bool (full (c::t)))∧Below w.heap.size w w':=by
 have hsz:=sizeL h;simp only [List.length_cons] at hsz;have hp0:0<s.size:=by omega
 have g0:s[0]'hp0=c:=getL h 0 _;have hz0:((s.size:Int)== 0)=false:=by simp only [beq_eq_false_iff_ne,ne_eq];omega
 have hz0':(0:Int)<(s.size:Int):=by omega
 have hz0'':(0:Int)≤(s.size:Int):=by omega
 have l0:=c.toNat_lt;have hc0:=hT.1 c.toNat (by omega);rw [hX] at hc0;have ha0:=(hT.2 3 (by omega)).1;have ha1:=(hT.2 3 (by omega)).2;simp only [Lib.accLo,Lib.accHi,Nat.reduceMul,Nat.reduceAdd,Nat.reduceEqDiff,if_true,if_false] at ha0 ha1;clear hT;by_cases hn:4≤s.size
 · have hge:(4:Int)≤(s.size:Int):=by omega
   have hf:full (c::t)=true:=by simp [full,hX];omega
   have HF:=hid hf;clear hX hf hsz;go_enter Tryz.func323,Tryz.ntmps323;go_wp2;go_ret;exact⟨(congrArg (fun x=>Ending.returned (.bool x)) HF.out).symm,Below.refl _ _⟩
 · have hge:¬(4:Int)≤(s.size:Int):=by omega
   rcases t with _|⟨x,_|⟨y,_|⟨z,r⟩⟩⟩
   · simp only [List.length_nil] at hsz;have n1:decide ((1:Int)<(s.size:Int))=false:=by simp only [decide_eq_false_iff_not];omega
     have n2:¬(2:Int)<(s.size:Int):=by omega
     have hf:full (c:: [])=false:=by simp [full,hX,Lib.accLo,Lib.accHi,nx]
     have HF:=hid hf;clear hX hf hsz;go_enter Tryz.func323,Tryz.ntmps323;go_wp2;go_quiet (fail);go_wp2;go_ret;refine⟨(congrArg (fun x=>Ending.returned (.bool x)) HF.out).symm,?_⟩;exact below_drew_j ((Below.refl _ _).alloc (Nat.le_refl _) _) _
   · simp only [List.length_nil,List.length_cons] at hsz;have n2:¬(2:Int)<(s.size:Int):=by omega
     have l1:=x.toNat_lt;have hp1:1<s.size:=by omega
     have g1:s[1]'hp1=x:=getL h 1 _;have n1:(1:Int)<(s.size:Int):=by omega
     by_cases hx:x.toNat<144
     · have hv:(x.toNat:Int)<144:=by omega
       have hf:full (c:: [x])=true:=by simp [full,hX,Lib.accLo,Lib.accHi,nx];omega
       have HF:=hid hf;clear hX hf hsz;go_enter Tryz.func323,Tryz.ntmps323;go_wp2;go_quiet (fail);go_wp2;go_ret;refine⟨(congrArg (fun x=>Ending.returned (.bool x)) HF.out).symm,?_⟩;exact below_drew_j ((Below.refl _ _).alloc (Nat.le_refl _) _) _
     · have hv:¬(x.toNat:Int)<144:=by omega
       by_cases hy:191<x.toNat
       · have hu:(191:Int)<(x.toNat:Int):=by omega
         have hf:full (c:: [x])=true:=by simp [full,hX,Lib.accLo,Lib.accHi,nx];omega
         have HF:=hid hf;clear hX hf hsz;go_enter Tryz.func323,Tryz.ntmps323;go_wp2;go_quiet (fail);go_wp2;go_ret;refine⟨(congrArg (fun x=>Ending.returned (.bool x)) HF.out).symm,?_⟩;exact below_drew_j ((Below.refl _ _).alloc (Nat.le_refl _) _) _
       · have hu:¬(191:Int)<(x.toNat:Int):=by omega
         have hf:full (c:: [x])=false:=by simp [full,hX,Lib.accLo,Lib.accHi,nx];omega
         have HF:=hid hf;clear hX hf hsz;go_enter Tryz.func323,Tryz.ntmps323;go_wp2;go_quiet (fail);go_wp2;go_ret;refine⟨(congrArg (fun x=>Ending.returned (.bool x)) HF.out).symm,?_⟩;exact below_drew_j ((Below.refl _ _).alloc (Nat.le_refl _) _) _
   · simp only [List.length_nil,List.length_cons] at hsz;have n2:(2:Int)<(s.size:Int):=by omega
     have l2:=y.toNat_lt;have hp2:2<s.size:=by omega
     have g2:s[2]'hp2=y:=getL h 2 _;have l1:=x.toNat_lt;have hp1:1<s.size:=by omega
     have g1:s[1]'hp1=x:=getL h 1 _;have n1:(1:Int)<(s.size:Int):=by omega
     by_cases hx:x.toNat<144
     · have hv:(x.toNat:Int)<144:=by omega
       have hf:full (c:: [x,y])=true:=by simp [full,hX,Lib.accLo,Lib.accHi,nx];omega
       have HF:=hid hf;clear hX hf hsz;go_enter Tryz.func323,Tryz.ntmps323;go_wp2;go_quiet (fail);go_wp2;go_ret;refine⟨(congrArg (fun x=>Ending.returned (.bool x)) HF.out).symm,?_⟩;exact below_drew_j ((Below.refl _ _).alloc (Nat.le_refl _) _) _
     · have hv:¬(x.toNat:Int)<144:=by omega
       by_cases hy:191<x.toNat
       · have hu:(191:Int)<(x.toNat:Int):=by omega
         have hf:full (c:: [x,y])=true:=by simp [full,hX,Lib.accLo,Lib.accHi,nx];omega
         have HF:=hid hf;clear hX hf hsz;go_enter Tryz.func323,Tryz.ntmps323;go_wp2;go_quiet (fail);go_wp2;go_ret;refine⟨(congrArg (fun x=>Ending.returned (.bool x)) HF.out).symm,?_⟩;exact below_drew_j ((Below.refl _ _).alloc (Nat.le_refl _) _) _
       · have hu:¬(191:Int)<(x.toNat:Int):=by omega
         by_cases hy2:y.toNat<128
         · have hp:(y.toNat:Int)<128:=by omega
           have hf:full (c:: [x,y])=true:=by simp [full,hX,Lib.accLo,Lib.accHi,nx];omega
           have HF:=hid hf;clear hX hf hsz;go_enter Tryz.func323,Tryz.ntmps323;go_wp2;go_quiet (fail);go_wp2;go_ret;refine⟨(congrArg (fun x=>Ending.returned (.bool x)) HF.out).symm,?_⟩;exact below_drew_j ((Below.refl _ _).alloc (Nat.le_refl _) _) _
         · have hp:¬(y.toNat:Int)<128:=by omega
           by_cases hy3:191<y.toNat
           · have hq:(191:Int)<(y.toNat:Int):=by omega
             have hf:full (c:: [x,y])=true:=by simp [full,hX,Lib.accLo,Lib.accHi,nx];omega
             have HF:=hid hf;clear hX hf hsz;go_enter Tryz.func323,Tryz.ntmps323;go_wp2;go_quiet (fail);go_wp2;go_ret;refine⟨(congrArg (fun x=>Ending.returned (.bool x)) HF.out).symm,?_⟩;exact below_drew_j ((Below.refl _ _).alloc (Nat.le_refl _) _) _
           · have hq:¬(191:Int)<(y.toNat:Int):=by omega
             have hf:full (c:: [x,y])=false:=by simp [full,hX,Lib.accLo,Lib.accHi,nx];omega
             have HF:=hid hf;clear hX hf hsz;go_enter Tryz.func323,Tryz.ntmps323;go_wp2;go_quiet (fail);go_wp2;go_ret;refine⟨(congrArg (fun x=>Ending.returned (.bool x)) HF.out).symm,?_⟩;exact below_drew_j ((Below.refl _ _).alloc (Nat.le_refl _) _) _
   · simp only [List.length_cons] at hsz;omega
theorem full_4 (s:ByteArray) (c:UInt8) (t:B) (h:s.data.toList=c::t) (hm:s.size≤140737488355328) (w:World) (hT:Tabs w) (hX:Lib.firstT c.toNat=4):
 Calls Tryz.prog 323 #[.string s] w fun e w'=>e= .returned (.bool (full (c::t)))∧Below w.heap.size w w':=by
 have hsz:=sizeL h;simp only [List.length_cons] at hsz;have hp0:0<s.size:=by omega
 have g0:s[0]'hp0=c:=getL h 0 _;have hz0:((s.size:Int)== 0)=false:=by simp only [beq_eq_false_iff_ne,ne_eq];omega
 have hz0':(0:Int)<(s.size:Int):=by omega
 have hz0'':(0:Int)≤(s.size:Int):=by omega
 have l0:=c.toNat_lt;have hc0:=hT.1 c.toNat (by omega);rw [hX] at hc0;have ha0:=(hT.2 0 (by omega)).1;have ha1:=(hT.2 0 (by omega)).2;simp only [Lib.accLo,Lib.accHi,Nat.reduceMul,Nat.reduceAdd,Nat.reduceEqDiff,if_true,if_false] at ha0 ha1;clear hT;by_cases hn:4≤s.size
 · have hge:(4:Int)≤(s.size:Int):=by omega
   have hf:full (c::t)=true:=by simp [full,hX];omega
   have HF:=hid hf;clear hX hf hsz;go_enter Tryz.func323,Tryz.ntmps323;go_wp2;go_ret;exact⟨(congrArg (fun x=>Ending.returned (.bool x)) HF.out).symm,Below.refl _ _⟩
 · have hge:¬(4:Int)≤(s.size:Int):=by omega
   rcases t with _|⟨x,_|⟨y,_|⟨z,r⟩⟩⟩
   · simp only [List.length_nil] at hsz;have n1:decide ((1:Int)<(s.size:Int))=false:=by simp only [decide_eq_false_iff_not];omega
     have n2:¬(2:Int)<(s.size:Int):=by omega
     have hf:full (c:: [])=false:=by simp [full,hX,Lib.accLo,Lib.accHi,nx]
     have HF:=hid hf;clear hX hf hsz;go_enter Tryz.func323,Tryz.ntmps323;go_wp2;go_quiet (fail);go_wp2;go_ret;refine⟨(congrArg (fun x=>Ending.returned (.bool x)) HF.out).symm,?_⟩;exact below_drew_j ((Below.refl _ _).alloc (Nat.le_refl _) _) _
   · simp only [List.length_nil,List.length_cons] at hsz;have n2:¬(2:Int)<(s.size:Int):=by omega
     have l1:=x.toNat_lt;have hp1:1<s.size:=by omega
     have g1:s[1]'hp1=x:=getL h 1 _;have n1:(1:Int)<(s.size:Int):=by omega
     by_cases hx:x.toNat<128
     · have hv:(x.toNat:Int)<128:=by omega
       have hf:full (c:: [x])=true:=by simp [full,hX,Lib.accLo,Lib.accHi,nx];omega
       have HF:=hid hf;clear hX hf hsz;go_enter Tryz.func323,Tryz.ntmps323;go_wp2;go_quiet (fail);go_wp2;go_ret;refine⟨(congrArg (fun x=>Ending.returned (.bool x)) HF.out).symm,?_⟩;exact below_drew_j ((Below.refl _ _).alloc (Nat.le_refl _) _) _
     · have hv:¬(x.toNat:Int)<128:=by omega
       by_cases hy:191<x.toNat
       · have hu:(191:Int)<(x.toNat:Int):=by omega
         have hf:full (c:: [x])=true:=by simp [full,hX,Lib.accLo,Lib.accHi,nx];omega
         have HF:=hid hf;clear hX hf hsz;go_enter Tryz.func323,Tryz.ntmps323;go_wp2;go_quiet (fail);go_wp2;go_ret;refine⟨(congrArg (fun x=>Ending.returned (.bool x)) HF.out).symm,?_⟩;exact below_drew_j ((Below.refl _ _).alloc (Nat.le_refl _) _) _
       · have hu:¬(191:Int)<(x.toNat:Int):=by omega
         have hf:full (c:: [x])=false:=by simp [full,hX,Lib.accLo,Lib.accHi,nx];omega
         have HF:=hid hf;clear hX hf hsz;go_enter Tryz.func323,Tryz.ntmps323;go_wp2;go_quiet (fail);go_wp2;go_ret;refine⟨(congrArg (fun x=>Ending.returned (.bool x)) HF.out).symm,?_⟩;exact below_drew_j ((Below.refl _ _).alloc (Nat.le_refl _) _) _
   · simp only [List.length_nil,List.length_cons] at hsz;have n2:(2:Int)<(s.size:Int):=by omega
     have l2:=y.toNat_lt;have hp2:2<s.size:=by omega
     have g2:s[2]'hp2=y:=getL h 2 _;have l1:=x.toNat_lt;have hp1:1<s.size:=by omega
     have g1:s[1]'hp1=x:=getL h 1 _;have n1:(1:Int)<(s.size:Int):=by omega
     by_cases hx:x.toNat<128
     · have hv:(x.toNat:Int)<128:=by omega
       have hf:full (c:: [x,y])=true:=by simp [full,hX,Lib.accLo,Lib.accHi,nx];omega
       have HF:=hid hf;clear hX hf hsz;go_enter Tryz.func323,Tryz.ntmps323;go_wp2;go_quiet (fail);go_wp2;go_ret;refine⟨(congrArg (fun x=>Ending.returned (.bool x)) HF.out).symm,?_⟩;exact below_drew_j ((Below.refl _ _).alloc (Nat.le_refl _) _) _
     · have hv:¬(x.toNat:Int)<128:=by omega
       by_cases hy:191<x.toNat
       · have hu:(191:Int)<(x.toNat:Int):=by omega
         have hf:full (c:: [x,y])=true:=by simp [full,hX,Lib.accLo,Lib.accHi,nx];omega
         have HF:=hid hf;clear hX hf hsz;go_enter Tryz.func323,Tryz.ntmps323;go_wp2;go_quiet (fail);go_wp2;go_ret;refine⟨(congrArg (fun x=>Ending.returned (.bool x)) HF.out).symm,?_⟩;exact below_drew_j ((Below.refl _ _).alloc (Nat.le_refl _) _) _
       · have hu:¬(191:Int)<(x.toNat:Int):=by omega
         by_cases hy2:y.toNat<128
         · have hp:(y.toNat:Int)<128:=by omega
           have hf:full (c:: [x,y])=true:=by simp [full,hX,Lib.accLo,Lib.accHi,nx];omega
           have HF:=hid hf;clear hX hf hsz;go_enter Tryz.func323,Tryz.ntmps323;go_wp2;go_quiet (fail);go_wp2;go_ret;refine⟨(congrArg (fun x=>Ending.returned (.bool x)) HF.out).symm,?_⟩;exact below_drew_j ((Below.refl _ _).alloc (Nat.le_refl _) _) _
         · have hp:¬(y.toNat:Int)<128:=by omega
           by_cases hy3:191<y.toNat
           · have hq:(191:Int)<(y.toNat:Int):=by omega
             have hf:full (c:: [x,y])=true:=by simp [full,hX,Lib.accLo,Lib.accHi,nx];omega
             have HF:=hid hf;clear hX hf hsz;go_enter Tryz.func323,Tryz.ntmps323;go_wp2;go_quiet (fail);go_wp2;go_ret;refine⟨(congrArg (fun x=>Ending.returned (.bool x)) HF.out).symm,?_⟩;exact below_drew_j ((Below.refl _ _).alloc (Nat.le_refl _) _) _
           · have hq:¬(191:Int)<(y.toNat:Int):=by omega
             have hf:full (c:: [x,y])=false:=by simp [full,hX,Lib.accLo,Lib.accHi,nx];omega
             have HF:=hid hf;clear hX hf hsz;go_enter Tryz.func323,Tryz.ntmps323;go_wp2;go_quiet (fail);go_wp2;go_ret;refine⟨(congrArg (fun x=>Ending.returned (.bool x)) HF.out).symm,?_⟩;exact below_drew_j ((Below.refl _ _).alloc (Nat.le_refl _) _) _
   · simp only [List.length_cons] at hsz;omega
theorem full_68 (s:ByteArray) (c:UInt8) (t:B) (h:s.data.toList=c::t) (hm:s.size≤140737488355328) (w:World) (hT:Tabs w) (hX:Lib.firstT c.toNat=68):
 Calls Tryz.prog 323 #[.string s] w fun e w'=>e= .returned (.bool (full (c::t)))∧Below w.heap.size w w':=by
 have hsz:=sizeL h;simp only [List.length_cons] at hsz;have hp0:0<s.size:=by omega
 have g0:s[0]'hp0=c:=getL h 0 _;have hz0:((s.size:Int)== 0)=false:=by simp only [beq_eq_false_iff_ne,ne_eq];omega
 have hz0':(0:Int)<(s.size:Int):=by omega
 have hz0'':(0:Int)≤(s.size:Int):=by omega
 have l0:=c.toNat_lt;have hc0:=hT.1 c.toNat (by omega);rw [hX] at hc0;have ha0:=(hT.2 4 (by omega)).1;have ha1:=(hT.2 4 (by omega)).2;simp only [Lib.accLo,Lib.accHi,Nat.reduceMul,Nat.reduceAdd,Nat.reduceEqDiff,if_true,if_false] at ha0 ha1;clear hT;by_cases hn:4≤s.size
 · have hge:(4:Int)≤(s.size:Int):=by omega
   have hf:full (c::t)=true:=by simp [full,hX];omega
   have HF:=hid hf;clear hX hf hsz;go_enter Tryz.func323,Tryz.ntmps323;go_wp2;go_ret;exact⟨(congrArg (fun x=>Ending.returned (.bool x)) HF.out).symm,Below.refl _ _⟩
 · have hge:¬(4:Int)≤(s.size:Int):=by omega
   rcases t with _|⟨x,_|⟨y,_|⟨z,r⟩⟩⟩
   · simp only [List.length_nil] at hsz;have n1:decide ((1:Int)<(s.size:Int))=false:=by simp only [decide_eq_false_iff_not];omega
     have n2:¬(2:Int)<(s.size:Int):=by omega
     have hf:full (c:: [])=false:=by simp [full,hX,Lib.accLo,Lib.accHi,nx]
     have HF:=hid hf;clear hX hf hsz;go_enter Tryz.func323,Tryz.ntmps323;go_wp2;go_quiet (fail);go_wp2;go_ret;refine⟨(congrArg (fun x=>Ending.returned (.bool x)) HF.out).symm,?_⟩;exact below_drew_j ((Below.refl _ _).alloc (Nat.le_refl _) _) _
   · simp only [List.length_nil,List.length_cons] at hsz;have n2:¬(2:Int)<(s.size:Int):=by omega
     have l1:=x.toNat_lt;have hp1:1<s.size:=by omega
     have g1:s[1]'hp1=x:=getL h 1 _;have n1:(1:Int)<(s.size:Int):=by omega
     by_cases hx:x.toNat<128
     · have hv:(x.toNat:Int)<128:=by omega
       have hf:full (c:: [x])=true:=by simp [full,hX,Lib.accLo,Lib.accHi,nx];omega
       have HF:=hid hf;clear hX hf hsz;go_enter Tryz.func323,Tryz.ntmps323;go_wp2;go_quiet (fail);go_wp2;go_ret;refine⟨(congrArg (fun x=>Ending.returned (.bool x)) HF.out).symm,?_⟩;exact below_drew_j ((Below.refl _ _).alloc (Nat.le_refl _) _) _
     · have hv:¬(x.toNat:Int)<128:=by omega
       by_cases hy:143<x.toNat
       · have hu:(143:Int)<(x.toNat:Int):=by omega
         have hf:full (c:: [x])=true:=by simp [full,hX,Lib.accLo,Lib.accHi,nx];omega
         have HF:=hid hf;clear hX hf hsz;go_enter Tryz.func323,Tryz.ntmps323;go_wp2;go_quiet (fail);go_wp2;go_ret;refine⟨(congrArg (fun x=>Ending.returned (.bool x)) HF.out).symm,?_⟩;exact below_drew_j ((Below.refl _ _).alloc (Nat.le_refl _) _) _
       · have hu:¬(143:Int)<(x.toNat:Int):=by omega
         have hf:full (c:: [x])=false:=by simp [full,hX,Lib.accLo,Lib.accHi,nx];omega
         have HF:=hid hf;clear hX hf hsz;go_enter Tryz.func323,Tryz.ntmps323;go_wp2;go_quiet (fail);go_wp2;go_ret;refine⟨(congrArg (fun x=>Ending.returned (.bool x)) HF.out).symm,?_⟩;exact below_drew_j ((Below.refl _ _).alloc (Nat.le_refl _) _) _
   · simp only [List.length_nil,List.length_cons] at hsz;have n2:(2:Int)<(s.size:Int):=by omega
     have l2:=y.toNat_lt;have hp2:2<s.size:=by omega
     have g2:s[2]'hp2=y:=getL h 2 _;have l1:=x.toNat_lt;have hp1:1<s.size:=by omega
     have g1:s[1]'hp1=x:=getL h 1 _;have n1:(1:Int)<(s.size:Int):=by omega
     by_cases hx:x.toNat<128
     · have hv:(x.toNat:Int)<128:=by omega
       have hf:full (c:: [x,y])=true:=by simp [full,hX,Lib.accLo,Lib.accHi,nx];omega
       have HF:=hid hf;clear hX hf hsz;go_enter Tryz.func323,Tryz.ntmps323;go_wp2;go_quiet (fail);go_wp2;go_ret;refine⟨(congrArg (fun x=>Ending.returned (.bool x)) HF.out).symm,?_⟩;exact below_drew_j ((Below.refl _ _).alloc (Nat.le_refl _) _) _
     · have hv:¬(x.toNat:Int)<128:=by omega
       by_cases hy:143<x.toNat
       · have hu:(143:Int)<(x.toNat:Int):=by omega
         have hf:full (c:: [x,y])=true:=by simp [full,hX,Lib.accLo,Lib.accHi,nx];omega
         have HF:=hid hf;clear hX hf hsz;go_enter Tryz.func323,Tryz.ntmps323;go_wp2;go_quiet (fail);go_wp2;go_ret;refine⟨(congrArg (fun x=>Ending.returned (.bool x)) HF.out).symm,?_⟩;exact below_drew_j ((Below.refl _ _).alloc (Nat.le_refl _) _) _
       · have hu:¬(143:Int)<(x.toNat:Int):=by omega
         by_cases hy2:y.toNat<128
         · have hp:(y.toNat:Int)<128:=by omega
           have hf:full (c:: [x,y])=true:=by simp [full,hX,Lib.accLo,Lib.accHi,nx];omega
           have HF:=hid hf;clear hX hf hsz;go_enter Tryz.func323,Tryz.ntmps323;go_wp2;go_quiet (fail);go_wp2;go_ret;refine⟨(congrArg (fun x=>Ending.returned (.bool x)) HF.out).symm,?_⟩;exact below_drew_j ((Below.refl _ _).alloc (Nat.le_refl _) _) _
         · have hp:¬(y.toNat:Int)<128:=by omega
           by_cases hy3:191<y.toNat
           · have hq:(191:Int)<(y.toNat:Int):=by omega
             have hf:full (c:: [x,y])=true:=by simp [full,hX,Lib.accLo,Lib.accHi,nx];omega
             have HF:=hid hf;clear hX hf hsz;go_enter Tryz.func323,Tryz.ntmps323;go_wp2;go_quiet (fail);go_wp2;go_ret;refine⟨(congrArg (fun x=>Ending.returned (.bool x)) HF.out).symm,?_⟩;exact below_drew_j ((Below.refl _ _).alloc (Nat.le_refl _) _) _
           · have hq:¬(191:Int)<(y.toNat:Int):=by omega
             have hf:full (c:: [x,y])=false:=by simp [full,hX,Lib.accLo,Lib.accHi,nx];omega
             have HF:=hid hf;clear hX hf hsz;go_enter Tryz.func323,Tryz.ntmps323;go_wp2;go_quiet (fail);go_wp2;go_ret;refine⟨(congrArg (fun x=>Ending.returned (.bool x)) HF.out).symm,?_⟩;exact below_drew_j ((Below.refl _ _).alloc (Nat.le_refl _) _) _
   · simp only [List.length_cons] at hsz;omega
theorem full_any (s:ByteArray) (c:UInt8) (t:B) (h:s.data.toList=c::t) (hm:s.size≤140737488355328) (w:World) (hT:Tabs w):
 Calls Tryz.prog 323 #[.string s] w fun e w'=>e= .returned (.bool (full (c::t)))∧Below w.heap.size w w':=by
 rcases Lib.firstT_cases c.toNat with hX|hX|hX|hX|hX|hX|hX|hX|hX
 · exact full_asc s c t h hm w hT hX
 · exact full_bad s c t h hm w hT hX
 · exact full_2 s c t h hm w hT hX
 · exact full_19 s c t h hm w hT hX
 · exact full_3 s c t h hm w hT hX
 · exact full_35 s c t h hm w hT hX
 · exact full_52 s c t h hm w hT hX
 · exact full_4 s c t h hm w hT hX
 · exact full_68 s c t h hm w hT hX
end Go.Proofs.YtlmefgjhbohjlaaGreatDoor
