/- What is wrong of a pool, by the program. -/
import Derived.Test.YtlmefgjhbohjlaaGreatDoorVList
namespace Go.Proofs.YtlmefgjhbohjlaaGreatDoor
set_option maxRecDepth 20000
set_option maxHeartbeats 16000000
open Go.RowKit
def PoAtC (w:World) (p:Option Addr) (l:List PoolC):Prop:=∀ (j:Nat) (a:PoolC),l[j]?=some a→∃ g o pb cb,p=some ⟨g,o,none⟩∧PoC w g (o+j*12) a pb cb∧BkAt w pb a.backs∧a.backs.length≤cb
theorem PoAtC.next {w w':World}{p:Option Addr}{l:List PoolC} (h:PoAtC w p l) (hb:Below w.heap.size w w'):PoAtC w' p l:=by
 intro j b hj;obtain⟨g,o,pb,cb,e,h1,h2,h3⟩:=h j b hj;exact⟨g,o,pb,cb,e,h1.next hb,h2.next hb,h3⟩
theorem PoAtC.at {w:World}{p:Option Addr}{l:List PoolC} (h:PoAtC w p l):PoAt w p l:=by
 intro j b hj;obtain⟨g,o,pb,cb,e,h1,h2,_⟩:=h j b hj;exact⟨g,o,pb,cb,e,h1,h2⟩
def okPo (l:List PoolC) (x:PoolC) (i:Nat):Bool:=tokC x.name 64 && (l.take i).all (fun a=>decide (a.name≠x.name))
theorem okPo_any (l:List PoolC) (x:PoolC) (i:Nat):okPo l x i=(tokC x.name 64 && !(l.take i).any (fun a=>decide (a.name=x.name))):=by
 unfold okPo;congr 1;rw [List.not_any_eq_all_not];congr 1;funext a;simp
def poolF (k:AskC) (l:List PoolC) (x:PoolC) (i:Nat):B:=if okPo l x i=false then n_name else poolC k x
theorem pool_three (k:AskC) (x:PoolC):poolC k x=if backsC k x.backs≠ [] then backsC k x.backs else if inC x.policy 1 2=false then n_policy else if inC x.retries 0 8=false then n_retries else if inC x.timeout 1 1048576=false then n_timeout else if breakC x.fails x.opn≠ [] then partC n_breaker (breakC x.fails x.opn) else partC n_probe (probeC k x.probe):=by
 unfold poolC;have e1:(x.policy≠1∧x.policy≠2)↔inC x.policy 1 2=false:=by
  unfold inC;rw [Bool.and_eq_false_iff,decide_eq_false_iff_not,decide_eq_false_iff_not];omega
 have e2:∀ z:B,(if inC x.fails 0 1000=false then n_breaker++46::n_fails else if (x.fails=0∧x.opn≠0)∨(0<x.fails∧inC x.opn 1 1048576=false) then n_breaker++46::n_open else z)=if breakC x.fails x.opn≠ [] then partC n_breaker (breakC x.fails x.opn) else z:=by
  intro z;cases hf:inC x.fails 0 1000 with
  |false=>
   have h:breakC x.fails x.opn=n_fails:=by unfold breakC;rw [if_pos hf]
   rw [h,if_pos rfl,if_pos (by decide)];rfl
  |true=>
   rw [if_neg (by decide)];rcases break_old x.fails x.opn hf with ⟨h1,h2⟩|⟨h1,h2⟩
   · rw [h1,if_neg h2,if_neg (by simp)]
   · rw [h1,if_pos h2,if_pos (by decide)];rfl
 have e3:(if probeC k x.probe≠ [] then n_probe++46::probeC k x.probe else [])=partC n_probe (probeC k x.probe):=by
  unfold partC;by_cases h:probeC k x.probe= []
  · rw [if_pos h,if_neg (by simp [h])]
  · rw [if_neg h,if_pos h]
 rw [e2,e3];by_cases h:x.policy≠1∧x.policy≠2
 · rw [if_pos h,if_pos (e1.1 h)]
 · rw [if_neg h,if_neg (fun hh=>h (e1.2 hh))]
theorem backsFrom_len (k:AskC) (hk:∀ i,i≤64→(k.num i).length≤21):∀ (l:List BackC) (i:Nat) (a:List BackC),i+l.length≤64→(backsFrom k i a l).length≤64
 | [],_,_,_=>by simp [backsFrom]
 |x::l,i,a,h=>by
  have h1:=hk i (by omega);have h2:=behind_len n_backends (k.num i);have h3:=behind_len (behindC n_backends (k.num i)) n_addr;have h4:=behind_len (behindC n_backends (k.num i)) n_weight;rw [show n_backends.length=8 from rfl] at h2;rw [show n_addr.length=4 from rfl] at h3;rw [show n_weight.length=6 from rfl] at h4;unfold backsFrom;split
  · omega
  · split
    · omega
    · exact backsFrom_len k hk l (i+1) (a++ [x]) (by simp at h ⊢;omega)
theorem askT_num:∀ i,i≤64→(askT.num i).length≤21:=fun i h=>numT_len i (by omega)
theorem inC_le {n:Nat}{lo hi:Int} (h:¬inC n lo hi=false):(n:Int)≤hi:=by
 rw [Bool.not_eq_false] at h;unfold inC at h;simp at h;omega
theorem backsC_len (l:List BackC):(backsC askT l).length≤64:=by
 unfold backsC;split
 · decide
 · rename_i h
   have h:=inC_le h;exact backsFrom_len askT askT_num l 0 [] (by omega)
theorem breakC_len (f o:Int):(breakC f o).length≤8:=by
 unfold breakC;generalize (if f=0 then (0:Int) else 1)=a;generalize (if f=0 then (0:Int) else 1048576)=b;split
 · decide
 · split <;> decide
theorem ppool_any (l:List PoolC) (p:Option Addr) (n c:Nat) (hn:l.length=n) (hc:n≤c) (hz:∀ x∈l,x.name.length≤maxLen∧x.probe.path.length≤140737488355328∧x.backs.length≤140737488355328∧∀ y∈x.backs,y.addr.length≤140737488355328) (hnn:n≤140737488355328) (i:Nat) (x:PoolC) (hx:l[i]?=some x) (w:World) (hE:EnvC w) (hB:PoAtC w p l):Calls Tryz.prog 88 #[.slice p n c,.int .i64 (i:Int)] w fun e w'=>e= .returned (.string (str (poolF askT l x i)))∧Below w.heap.size w w':=by
 have hin:i<n:=by rw [←hn];exact(List.getElem?_eq_some_iff.1 hx).1
 obtain⟨HM1,HM2,HM3,HM4⟩:=hz x (List.mem_of_getElem? hx);have HTa:=hid (po_take hB.at i);obtain⟨g1,o1,pb,cb,rfl,hpc,hbk,hcb⟩:=hB i x hx;obtain⟨q0,q1,q2,q3,q4,q5,q6,q7,q8,q9,q10,q11⟩:=hpc;have HV:poolF askT l x i=if tokC x.name 64=false then n_name else if (l.take i).any (fun a=>decide (a.name=x.name))=true then n_name else poolC askT x:=by
  unfold poolF;rw [okPo_any];cases tokC x.name 64 <;> cases (l.take i).any (fun a=>decide (a.name=x.name)) <;> rfl
 rw [HV,pool_three];clear HV;have HTk:=hid (fun W:World=>ptoken_any x.name 64 HM1 W);have HHas:=hid (fun (W:World) (hb:Below w.heap.size w W) (hg:W.cell? ⟨w.heap.size,0,none⟩=some (.string (str x.name)))=>ppoolhas_any (l.take i) (some ⟨g1,o1,none⟩) i c (by rw [List.length_take];omega) (by omega) x.name w.heap.size W hg (HTa.out.next hb));have HL:=hid (fun (W:World) (hb:Below w.heap.size w W)=>pbacks_any x.backs pb x.backs.length cb rfl hcb HM4 HM3 W (hE.next hb) (hbk.next hb));rw [show str n_backends=(⟨#[98,97,99,107,101,110,100,115]⟩:ByteArray) from rfl] at HL;have HW1:=hid (fun W:World=>pwithin_any x.policy 1 2 W);have HW2:=hid (fun W:World=>pwithin_any x.retries 0 8 W);have HW3:=hid (fun W:World=>pwithin_any x.timeout 1 1048576 W);have HBr:=hid (fun W:World=>pbreak_any x.fails x.opn W);have HPr:=hid (fun (W:World) (hb:Below w.heap.size w W)=>pprobe_any x.probe HM2 W (hE.next hb).t);have hl1:=backsC_len x.backs;have hl2:=breakC_len x.fails x.opn;have hl3:=probeC_len askT x.probe;have HP1:=hid (fun W:World=>ppart_any n_breaker (breakC x.fails x.opn) (by decide) (by omega) W);have HP2:=hid (fun W:World=>ppart_any n_probe (probeC askT x.probe) (by decide) (by omega) W);rw [show str n_breaker=(⟨#[98,114,101,97,107,101,114]⟩:ByteArray) from rfl] at HP1;rw [show str n_probe=(⟨#[112,114,111,98,101]⟩:ByteArray) from rfl] at HP2;clear hB hx hz hn hbk hE HTa HM1 HM2 HM3 HM4;obtain⟨bT,hbT⟩:∃ b,tokC x.name 64=b:=⟨_,rfl⟩;obtain⟨bH,hbH⟩:∃ b,(l.take i).any (fun a=>decide (a.name=x.name))=b:=⟨_,rfl⟩;obtain⟨b1,hb1⟩:∃ b,inC x.policy 1 2=b:=⟨_,rfl⟩;obtain⟨b2,hb2⟩:∃ b,inC x.retries 0 8=b:=⟨_,rfl⟩;obtain⟨b3,hb3⟩:∃ b,inC x.timeout 1 1048576=b:=⟨_,rfl⟩;obtain⟨Bk,hBk⟩:∃ b,backsC askT x.backs=b:=⟨_,rfl⟩;obtain⟨Br,hBr⟩:∃ b,breakC x.fails x.opn=b:=⟨_,rfl⟩;obtain⟨Pr,hPr⟩:∃ b,probeC askT x.probe=b:=⟨_,rfl⟩;rw [hbT] at HTk;rw [hbH] at HHas;rw [hb1] at HW1;rw [hb2] at HW2;rw [hb3] at HW3;rw [hBk] at HL hl1;rw [hBr] at HBr HP1 hl2;rw [hPr] at HPr HP2 hl3;rw [hbT,hbH,hb1,hb2,hb3,hBk,hBr,hPr];clear hbT hbH hb1 hb2 hb3 hBk hBr hPr;obtain⟨xn,xb,i1,i2,i3,i4,i5,⟨xp,j1,j2,j3,j4⟩⟩:=x;dsimp only [probeV] at*;obtain⟨nb,hnb⟩:∃ k,xb.length=k:=⟨_,rfl⟩;rw [hnb] at q1 HL;obtain⟨Sn,hSn⟩:∃ S,str xn=S:=⟨_,rfl⟩;obtain⟨Sp,hSp⟩:∃ S,str xp=S:=⟨_,rfl⟩;rw [hSn] at q0 HTk HHas;rw [hSp] at q7 HPr;clear hnb hSn hSp;have HB0:=hid (below_new w (.cells #[.string Sn,.slice pb nb cb,.int .i64 i1,.int .i64 i2,.int .i64 i3,.int .i64 i4,.int .i64 i5,.string Sp,.int .i64 j1,.int .i64 j2,.int .i64 j3,.int .i64 j4] 83 (0,0)));have HX0:=hid (heap_alloc_new w (.cells #[.string Sn,.slice pb nb cb,.int .i64 i1,.int .i64 i2,.int .i64 i3,.int .i64 i4,.int .i64 i5,.string Sp,.int .i64 j1,.int .i64 j2,.int .i64 j3,.int .i64 j4] 83 (0,0)));cases bT
 · go_enter Tryz.func88,Tryz.ntmps88;go_wp2_with (first|(go_at_call 153;(with_reducible refine(HTk.out _).mono ?_);rintro e w1 ⟨rfl,hw1⟩;subst w1)|(go_at_call 156;(with_reducible refine(HHas.out _ HB0.out (cells12 HX0.out).a0).mono ?_);rintro e w5 ⟨rfl,hw5⟩;have HB5:=hid (HB0.out.trans (hw5.mono HB0.out.size));have HX5:=hid (kB hw5 HX0.out);obtain⟨y0,y1,y2,y3,y4,y5,y6,y7,y8,y9,y10,y11⟩:=cells12 HX5.out;clear hw5)|(go_at_call 157;(with_reducible refine(HL.out _ HB5.out).mono ?_);rintro e w6 ⟨rfl,hw6⟩;have HB6:=hid (HB5.out.trans (hw6.mono HB5.out.size));have HX6:=hid (kB hw6 HX5.out);clear y0 y1 y2 y3 y4 y5 y6 y7 y8 y9 y10 y11;obtain⟨y0,y1,y2,y3,y4,y5,y6,y7,y8,y9,y10,y11⟩:=cells12 HX6.out;clear hw6)|(go_at_call 92;first|((with_reducible refine(HW1.out _).mono ?_);rintro e w1 ⟨rfl,hw1⟩;subst w1)|((with_reducible refine(HW2.out _).mono ?_);rintro e w1 ⟨rfl,hw1⟩;subst w1)|((with_reducible refine(HW3.out _).mono ?_);rintro e w1 ⟨rfl,hw1⟩;subst w1))|(go_at_call 159;(with_reducible refine(HBr.out _).mono ?_);rintro e w7 ⟨rfl,hw7⟩;have HB7:=hid (HB6.out.trans (hw7.mono HB6.out.size));have HX7:=hid (kB hw7 HX6.out);clear y0 y1 y2 y3 y4 y5 y6 y7 y8 y9 y10 y11;obtain⟨y0,y1,y2,y3,y4,y5,y6,y7,y8,y9,y10,y11⟩:=cells12 HX7.out;clear hw7)|(go_at_call 161;(with_reducible refine(HPr.out _ HB7.out).mono ?_);rintro e w8 ⟨rfl,hw8⟩;have HB8:=hid (HB7.out.trans (hw8.mono HB7.out.size));clear hw8)|(go_at_call 160;first|((with_reducible refine(HP1.out _).mono ?_);rintro e w1 ⟨rfl,hw1⟩;subst w1)|((with_reducible refine(HP2.out _).mono ?_);rintro e w1 ⟨rfl,hw1⟩;subst w1)));go_ret;exact⟨rfl,HB0.out⟩
 cases bH
 case true=>
  go_enter Tryz.func88,Tryz.ntmps88;go_wp2_with (first|(go_at_call 153;(with_reducible refine(HTk.out _).mono ?_);rintro e w1 ⟨rfl,hw1⟩;subst w1)|(go_at_call 156;(with_reducible refine(HHas.out _ HB0.out (cells12 HX0.out).a0).mono ?_);rintro e w5 ⟨rfl,hw5⟩;have HB5:=hid (HB0.out.trans (hw5.mono HB0.out.size));have HX5:=hid (kB hw5 HX0.out);obtain⟨y0,y1,y2,y3,y4,y5,y6,y7,y8,y9,y10,y11⟩:=cells12 HX5.out;clear hw5)|(go_at_call 157;(with_reducible refine(HL.out _ HB5.out).mono ?_);rintro e w6 ⟨rfl,hw6⟩;have HB6:=hid (HB5.out.trans (hw6.mono HB5.out.size));have HX6:=hid (kB hw6 HX5.out);clear y0 y1 y2 y3 y4 y5 y6 y7 y8 y9 y10 y11;obtain⟨y0,y1,y2,y3,y4,y5,y6,y7,y8,y9,y10,y11⟩:=cells12 HX6.out;clear hw6)|(go_at_call 92;first|((with_reducible refine(HW1.out _).mono ?_);rintro e w1 ⟨rfl,hw1⟩;subst w1)|((with_reducible refine(HW2.out _).mono ?_);rintro e w1 ⟨rfl,hw1⟩;subst w1)|((with_reducible refine(HW3.out _).mono ?_);rintro e w1 ⟨rfl,hw1⟩;subst w1))|(go_at_call 159;(with_reducible refine(HBr.out _).mono ?_);rintro e w7 ⟨rfl,hw7⟩;have HB7:=hid (HB6.out.trans (hw7.mono HB6.out.size));have HX7:=hid (kB hw7 HX6.out);clear y0 y1 y2 y3 y4 y5 y6 y7 y8 y9 y10 y11;obtain⟨y0,y1,y2,y3,y4,y5,y6,y7,y8,y9,y10,y11⟩:=cells12 HX7.out;clear hw7)|(go_at_call 161;(with_reducible refine(HPr.out _ HB7.out).mono ?_);rintro e w8 ⟨rfl,hw8⟩;have HB8:=hid (HB7.out.trans (hw8.mono HB7.out.size));clear hw8)|(go_at_call 160;first|((with_reducible refine(HP1.out _).mono ?_);rintro e w1 ⟨rfl,hw1⟩;subst w1)|((with_reducible refine(HP2.out _).mono ?_);rintro e w1 ⟨rfl,hw1⟩;subst w1)));go_ret;exact⟨rfl,HB5.out⟩
 have E1:=hid (fun h:Bk≠ []=>ne_facts h);have E2:=hid (fun h:Br≠ []=>ne_facts h);by_cases h1:Bk= []
 case neg=>
  have f1:=E1.out h1;rw [if_neg (by decide),if_neg (by decide),if_pos h1];obtain⟨S,hS⟩:∃ S,str Bk=S:=⟨_,rfl⟩;rw [hS] at f1 HL ⊢;have f2:(S.toList== (⟨#[]⟩:ByteArray).toList)=false:=ne_list f1;have f3:S.toList.isEmpty=false:=ne_empty f1;have f4:(S.toList== [])=false:=by have h:=f2;rw [ByteArray.toList_eq,ByteArray.toList_eq] at h;rw [ByteArray.toList_eq];exact h
  clear hS h1 E1 E2 hl1;go_enter Tryz.func88,Tryz.ntmps88;go_wp2_with (first|(go_at_call 153;(with_reducible refine(HTk.out _).mono ?_);rintro e w1 ⟨rfl,hw1⟩;subst w1)|(go_at_call 156;(with_reducible refine(HHas.out _ HB0.out (cells12 HX0.out).a0).mono ?_);rintro e w5 ⟨rfl,hw5⟩;have HB5:=hid (HB0.out.trans (hw5.mono HB0.out.size));have HX5:=hid (kB hw5 HX0.out);obtain⟨y0,y1,y2,y3,y4,y5,y6,y7,y8,y9,y10,y11⟩:=cells12 HX5.out;clear hw5)|(go_at_call 157;(with_reducible refine(HL.out _ HB5.out).mono ?_);rintro e w6 ⟨rfl,hw6⟩;have HB6:=hid (HB5.out.trans (hw6.mono HB5.out.size));have HX6:=hid (kB hw6 HX5.out);clear y0 y1 y2 y3 y4 y5 y6 y7 y8 y9 y10 y11;obtain⟨y0,y1,y2,y3,y4,y5,y6,y7,y8,y9,y10,y11⟩:=cells12 HX6.out;clear hw6)|(go_at_call 92;first|((with_reducible refine(HW1.out _).mono ?_);rintro e w1 ⟨rfl,hw1⟩;subst w1)|((with_reducible refine(HW2.out _).mono ?_);rintro e w1 ⟨rfl,hw1⟩;subst w1)|((with_reducible refine(HW3.out _).mono ?_);rintro e w1 ⟨rfl,hw1⟩;subst w1))|(go_at_call 159;(with_reducible refine(HBr.out _).mono ?_);rintro e w7 ⟨rfl,hw7⟩;have HB7:=hid (HB6.out.trans (hw7.mono HB6.out.size));have HX7:=hid (kB hw7 HX6.out);clear y0 y1 y2 y3 y4 y5 y6 y7 y8 y9 y10 y11;obtain⟨y0,y1,y2,y3,y4,y5,y6,y7,y8,y9,y10,y11⟩:=cells12 HX7.out;clear hw7)|(go_at_call 161;(with_reducible refine(HPr.out _ HB7.out).mono ?_);rintro e w8 ⟨rfl,hw8⟩;have HB8:=hid (HB7.out.trans (hw8.mono HB7.out.size));clear hw8)|(go_at_call 160;first|((with_reducible refine(HP1.out _).mono ?_);rintro e w1 ⟨rfl,hw1⟩;subst w1)|((with_reducible refine(HP2.out _).mono ?_);rintro e w1 ⟨rfl,hw1⟩;subst w1)));go_ret;exact⟨rfl,HB6.out⟩
 subst h1;rw [if_neg (by decide),if_neg (by decide),if_neg (by simp)];rcases five true true b1 b2 b3 with h|⟨_,h⟩|⟨_,_,h1⟩|⟨_,_,h1,h2⟩|⟨_,_,h1,h2,h3⟩|⟨_,_,h1,h2,h3⟩
 · cases h
 · cases h
 · subst_vars
   go_enter Tryz.func88,Tryz.ntmps88;go_wp2_with (first|(go_at_call 153;(with_reducible refine(HTk.out _).mono ?_);rintro e w1 ⟨rfl,hw1⟩;subst w1)|(go_at_call 156;(with_reducible refine(HHas.out _ HB0.out (cells12 HX0.out).a0).mono ?_);rintro e w5 ⟨rfl,hw5⟩;have HB5:=hid (HB0.out.trans (hw5.mono HB0.out.size));have HX5:=hid (kB hw5 HX0.out);obtain⟨y0,y1,y2,y3,y4,y5,y6,y7,y8,y9,y10,y11⟩:=cells12 HX5.out;clear hw5)|(go_at_call 157;(with_reducible refine(HL.out _ HB5.out).mono ?_);rintro e w6 ⟨rfl,hw6⟩;have HB6:=hid (HB5.out.trans (hw6.mono HB5.out.size));have HX6:=hid (kB hw6 HX5.out);clear y0 y1 y2 y3 y4 y5 y6 y7 y8 y9 y10 y11;obtain⟨y0,y1,y2,y3,y4,y5,y6,y7,y8,y9,y10,y11⟩:=cells12 HX6.out;clear hw6)|(go_at_call 92;first|((with_reducible refine(HW1.out _).mono ?_);rintro e w1 ⟨rfl,hw1⟩;subst w1)|((with_reducible refine(HW2.out _).mono ?_);rintro e w1 ⟨rfl,hw1⟩;subst w1)|((with_reducible refine(HW3.out _).mono ?_);rintro e w1 ⟨rfl,hw1⟩;subst w1))|(go_at_call 159;(with_reducible refine(HBr.out _).mono ?_);rintro e w7 ⟨rfl,hw7⟩;have HB7:=hid (HB6.out.trans (hw7.mono HB6.out.size));have HX7:=hid (kB hw7 HX6.out);clear y0 y1 y2 y3 y4 y5 y6 y7 y8 y9 y10 y11;obtain⟨y0,y1,y2,y3,y4,y5,y6,y7,y8,y9,y10,y11⟩:=cells12 HX7.out;clear hw7)|(go_at_call 161;(with_reducible refine(HPr.out _ HB7.out).mono ?_);rintro e w8 ⟨rfl,hw8⟩;have HB8:=hid (HB7.out.trans (hw8.mono HB7.out.size));clear hw8)|(go_at_call 160;first|((with_reducible refine(HP1.out _).mono ?_);rintro e w1 ⟨rfl,hw1⟩;subst w1)|((with_reducible refine(HP2.out _).mono ?_);rintro e w1 ⟨rfl,hw1⟩;subst w1)));go_ret;exact⟨rfl,HB6.out⟩
 · subst_vars
   go_enter Tryz.func88,Tryz.ntmps88;go_wp2_with (first|(go_at_call 153;(with_reducible refine(HTk.out _).mono ?_);rintro e w1 ⟨rfl,hw1⟩;subst w1)|(go_at_call 156;(with_reducible refine(HHas.out _ HB0.out (cells12 HX0.out).a0).mono ?_);rintro e w5 ⟨rfl,hw5⟩;have HB5:=hid (HB0.out.trans (hw5.mono HB0.out.size));have HX5:=hid (kB hw5 HX0.out);obtain⟨y0,y1,y2,y3,y4,y5,y6,y7,y8,y9,y10,y11⟩:=cells12 HX5.out;clear hw5)|(go_at_call 157;(with_reducible refine(HL.out _ HB5.out).mono ?_);rintro e w6 ⟨rfl,hw6⟩;have HB6:=hid (HB5.out.trans (hw6.mono HB5.out.size));have HX6:=hid (kB hw6 HX5.out);clear y0 y1 y2 y3 y4 y5 y6 y7 y8 y9 y10 y11;obtain⟨y0,y1,y2,y3,y4,y5,y6,y7,y8,y9,y10,y11⟩:=cells12 HX6.out;clear hw6)|(go_at_call 92;first|((with_reducible refine(HW1.out _).mono ?_);rintro e w1 ⟨rfl,hw1⟩;subst w1)|((with_reducible refine(HW2.out _).mono ?_);rintro e w1 ⟨rfl,hw1⟩;subst w1)|((with_reducible refine(HW3.out _).mono ?_);rintro e w1 ⟨rfl,hw1⟩;subst w1))|(go_at_call 159;(with_reducible refine(HBr.out _).mono ?_);rintro e w7 ⟨rfl,hw7⟩;have HB7:=hid (HB6.out.trans (hw7.mono HB6.out.size));have HX7:=hid (kB hw7 HX6.out);clear y0 y1 y2 y3 y4 y5 y6 y7 y8 y9 y10 y11;obtain⟨y0,y1,y2,y3,y4,y5,y6,y7,y8,y9,y10,y11⟩:=cells12 HX7.out;clear hw7)|(go_at_call 161;(with_reducible refine(HPr.out _ HB7.out).mono ?_);rintro e w8 ⟨rfl,hw8⟩;have HB8:=hid (HB7.out.trans (hw8.mono HB7.out.size));clear hw8)|(go_at_call 160;first|((with_reducible refine(HP1.out _).mono ?_);rintro e w1 ⟨rfl,hw1⟩;subst w1)|((with_reducible refine(HP2.out _).mono ?_);rintro e w1 ⟨rfl,hw1⟩;subst w1)));go_ret;exact⟨rfl,HB6.out⟩
 · subst_vars
   go_enter Tryz.func88,Tryz.ntmps88;go_wp2_with (first|(go_at_call 153;(with_reducible refine(HTk.out _).mono ?_);rintro e w1 ⟨rfl,hw1⟩;subst w1)|(go_at_call 156;(with_reducible refine(HHas.out _ HB0.out (cells12 HX0.out).a0).mono ?_);rintro e w5 ⟨rfl,hw5⟩;have HB5:=hid (HB0.out.trans (hw5.mono HB0.out.size));have HX5:=hid (kB hw5 HX0.out);obtain⟨y0,y1,y2,y3,y4,y5,y6,y7,y8,y9,y10,y11⟩:=cells12 HX5.out;clear hw5)|(go_at_call 157;(with_reducible refine(HL.out _ HB5.out).mono ?_);rintro e w6 ⟨rfl,hw6⟩;have HB6:=hid (HB5.out.trans (hw6.mono HB5.out.size));have HX6:=hid (kB hw6 HX5.out);clear y0 y1 y2 y3 y4 y5 y6 y7 y8 y9 y10 y11;obtain⟨y0,y1,y2,y3,y4,y5,y6,y7,y8,y9,y10,y11⟩:=cells12 HX6.out;clear hw6)|(go_at_call 92;first|((with_reducible refine(HW1.out _).mono ?_);rintro e w1 ⟨rfl,hw1⟩;subst w1)|((with_reducible refine(HW2.out _).mono ?_);rintro e w1 ⟨rfl,hw1⟩;subst w1)|((with_reducible refine(HW3.out _).mono ?_);rintro e w1 ⟨rfl,hw1⟩;subst w1))|(go_at_call 159;(with_reducible refine(HBr.out _).mono ?_);rintro e w7 ⟨rfl,hw7⟩;have HB7:=hid (HB6.out.trans (hw7.mono HB6.out.size));have HX7:=hid (kB hw7 HX6.out);clear y0 y1 y2 y3 y4 y5 y6 y7 y8 y9 y10 y11;obtain⟨y0,y1,y2,y3,y4,y5,y6,y7,y8,y9,y10,y11⟩:=cells12 HX7.out;clear hw7)|(go_at_call 161;(with_reducible refine(HPr.out _ HB7.out).mono ?_);rintro e w8 ⟨rfl,hw8⟩;have HB8:=hid (HB7.out.trans (hw8.mono HB7.out.size));clear hw8)|(go_at_call 160;first|((with_reducible refine(HP1.out _).mono ?_);rintro e w1 ⟨rfl,hw1⟩;subst w1)|((with_reducible refine(HP2.out _).mono ?_);rintro e w1 ⟨rfl,hw1⟩;subst w1)));go_ret;exact⟨rfl,HB6.out⟩
 subst h1;subst h2;subst h3;rw [if_neg (by decide),if_neg (by decide),if_neg (by decide)];by_cases h4:Br= []
 · subst h4;rw [if_neg (by simp)];clear E1 E2 HP1;obtain⟨S2,hS2⟩:∃ S,str (partC n_probe Pr)=S:=⟨_,rfl⟩;obtain⟨S3,hS3⟩:∃ S,str Pr=S:=⟨_,rfl⟩;rw [hS3] at HPr HP2;rw [hS2] at HP2 ⊢;clear hS2 hS3 hl3;go_enter Tryz.func88,Tryz.ntmps88;go_wp2_with (first|(go_at_call 153;(with_reducible refine(HTk.out _).mono ?_);rintro e w1 ⟨rfl,hw1⟩;subst w1)|(go_at_call 156;(with_reducible refine(HHas.out _ HB0.out (cells12 HX0.out).a0).mono ?_);rintro e w5 ⟨rfl,hw5⟩;have HB5:=hid (HB0.out.trans (hw5.mono HB0.out.size));have HX5:=hid (kB hw5 HX0.out);obtain⟨y0,y1,y2,y3,y4,y5,y6,y7,y8,y9,y10,y11⟩:=cells12 HX5.out;clear hw5)|(go_at_call 157;(with_reducible refine(HL.out _ HB5.out).mono ?_);rintro e w6 ⟨rfl,hw6⟩;have HB6:=hid (HB5.out.trans (hw6.mono HB5.out.size));have HX6:=hid (kB hw6 HX5.out);clear y0 y1 y2 y3 y4 y5 y6 y7 y8 y9 y10 y11;obtain⟨y0,y1,y2,y3,y4,y5,y6,y7,y8,y9,y10,y11⟩:=cells12 HX6.out;clear hw6)|(go_at_call 92;first|((with_reducible refine(HW1.out _).mono ?_);rintro e w1 ⟨rfl,hw1⟩;subst w1)|((with_reducible refine(HW2.out _).mono ?_);rintro e w1 ⟨rfl,hw1⟩;subst w1)|((with_reducible refine(HW3.out _).mono ?_);rintro e w1 ⟨rfl,hw1⟩;subst w1))|(go_at_call 159;(with_reducible refine(HBr.out _).mono ?_);rintro e w7 ⟨rfl,hw7⟩;have HB7:=hid (HB6.out.trans (hw7.mono HB6.out.size));have HX7:=hid (kB hw7 HX6.out);clear y0 y1 y2 y3 y4 y5 y6 y7 y8 y9 y10 y11;obtain⟨y0,y1,y2,y3,y4,y5,y6,y7,y8,y9,y10,y11⟩:=cells12 HX7.out;clear hw7)|(go_at_call 161;(with_reducible refine(HPr.out _ HB7.out).mono ?_);rintro e w8 ⟨rfl,hw8⟩;have HB8:=hid (HB7.out.trans (hw8.mono HB7.out.size));clear hw8)|(go_at_call 160;first|((with_reducible refine(HP1.out _).mono ?_);rintro e w1 ⟨rfl,hw1⟩;subst w1)|((with_reducible refine(HP2.out _).mono ?_);rintro e w1 ⟨rfl,hw1⟩;subst w1)));go_ret;exact⟨rfl,HB8.out⟩
 · have f1:=E2.out h4;rw [if_pos h4];obtain⟨S2,hS2⟩:∃ S,str (partC n_breaker Br)=S:=⟨_,rfl⟩;obtain⟨S,hS⟩:∃ S,str Br=S:=⟨_,rfl⟩;rw [hS] at f1 HBr HP1;rw [hS2] at HP1 ⊢;have f2:(S.toList== (⟨#[]⟩:ByteArray).toList)=false:=ne_list f1;have f3:S.toList.isEmpty=false:=ne_empty f1;have f4:(S.toList== [])=false:=by have h:=f2;rw [ByteArray.toList_eq,ByteArray.toList_eq] at h;rw [ByteArray.toList_eq];exact h
   clear hS hS2 h4 E1 E2 hl2;go_enter Tryz.func88,Tryz.ntmps88;go_wp2_with (first|(go_at_call 153;(with_reducible refine(HTk.out _).mono ?_);rintro e w1 ⟨rfl,hw1⟩;subst w1)|(go_at_call 156;(with_reducible refine(HHas.out _ HB0.out (cells12 HX0.out).a0).mono ?_);rintro e w5 ⟨rfl,hw5⟩;have HB5:=hid (HB0.out.trans (hw5.mono HB0.out.size));have HX5:=hid (kB hw5 HX0.out);obtain⟨y0,y1,y2,y3,y4,y5,y6,y7,y8,y9,y10,y11⟩:=cells12 HX5.out;clear hw5)|(go_at_call 157;(with_reducible refine(HL.out _ HB5.out).mono ?_);rintro e w6 ⟨rfl,hw6⟩;have HB6:=hid (HB5.out.trans (hw6.mono HB5.out.size));have HX6:=hid (kB hw6 HX5.out);clear y0 y1 y2 y3 y4 y5 y6 y7 y8 y9 y10 y11;obtain⟨y0,y1,y2,y3,y4,y5,y6,y7,y8,y9,y10,y11⟩:=cells12 HX6.out;clear hw6)|(go_at_call 92;first|((with_reducible refine(HW1.out _).mono ?_);rintro e w1 ⟨rfl,hw1⟩;subst w1)|((with_reducible refine(HW2.out _).mono ?_);rintro e w1 ⟨rfl,hw1⟩;subst w1)|((with_reducible refine(HW3.out _).mono ?_);rintro e w1 ⟨rfl,hw1⟩;subst w1))|(go_at_call 159;(with_reducible refine(HBr.out _).mono ?_);rintro e w7 ⟨rfl,hw7⟩;have HB7:=hid (HB6.out.trans (hw7.mono HB6.out.size));have HX7:=hid (kB hw7 HX6.out);clear y0 y1 y2 y3 y4 y5 y6 y7 y8 y9 y10 y11;obtain⟨y0,y1,y2,y3,y4,y5,y6,y7,y8,y9,y10,y11⟩:=cells12 HX7.out;clear hw7)|(go_at_call 161;(with_reducible refine(HPr.out _ HB7.out).mono ?_);rintro e w8 ⟨rfl,hw8⟩;have HB8:=hid (HB7.out.trans (hw8.mono HB7.out.size));clear hw8)|(go_at_call 160;first|((with_reducible refine(HP1.out _).mono ?_);rintro e w1 ⟨rfl,hw1⟩;subst w1)|((with_reducible refine(HP2.out _).mono ?_);rintro e w1 ⟨rfl,hw1⟩;subst w1)));go_ret;exact⟨rfl,HB7.out⟩
theorem partC_len (n s:B):(partC n s).length≤n.length+s.length+1:=by
 unfold partC;split
 · simp
 · simp;omega
theorem poolF_len (l:List PoolC) (x:PoolC) (i:Nat):(poolF askT l x i).length≤512:=by
 have h1:=backsC_len x.backs;have h2:=partC_len n_breaker (breakC x.fails x.opn);have h3:=partC_len n_probe (probeC askT x.probe);have h4:=breakC_len x.fails x.opn;have h5:=probeC_len askT x.probe;rw [show n_breaker.length=7 from rfl] at h2;rw [show n_probe.length=5 from rfl] at h3;unfold poolF;split
 · decide
 rw [pool_three];split
 · omega
 split
 · decide
 split
 · decide
 split
 · decide
 split <;> omega
theorem pools_step2 (l:List PoolC) (x:PoolC) (i:Nat) (h:l[i]?=some x):poolsFrom askT i (l.take i) (l.drop i)=if poolF askT l x i≠ [] then behindC (behindC n_pools (numT i)) (poolF askT l x i) else poolsFrom askT (i+1) (l.take (i+1)) (l.drop (i+1)):=by
 obtain⟨h1,h2⟩:=List.getElem?_eq_some_iff.1 h;rw [List.drop_eq_getElem_cons h1,h2,List.take_add_one,h];unfold poolF;show (if okPo l x i=false then _ else _)=_;cases okPo l x i
 · rfl
 · by_cases hp:poolC askT x= []
   · simp [hp]
   · simp [hp];rfl
theorem ppools_any (l:List PoolC) (p:Option Addr) (n c:Nat) (hn:l.length=n) (hc:n≤c) (hz:∀ x∈l,x.name.length≤maxLen∧x.probe.path.length≤140737488355328∧x.backs.length≤140737488355328∧∀ y∈x.backs,y.addr.length≤140737488355328) (hnn:n≤140737488355328) (w:World) (hE:EnvC w) (hB:PoAtC w p l):Calls Tryz.prog 87 #[.string (str n_pools),.slice p n c,.int .i64 1,.int .i64 32,.func (.func 88) #[] #[]] w fun e w'=>e= .returned (.string (str (poolsC askT l)))∧Below w.heap.size w w':=by
 have HN:=hid hn;have HBk:=hid hB;have HE:=hid hE;have HOne:=hid (fun (i:Nat) (x:PoolC) (hx:l[i]?=some x) (W:World) (hb:Below w.heap.size w W)=>ppool_any l p n c hn hc hz hnn i x hx W (hE.next hb) (hB.next hb));have HW:=hid (fun W:World=>pwithin_any (n:Int) 1 32 W);have HV:=hid (show poolsC askT l=(if inC n 1 32=false then n_pools else poolsFrom askT 0 (l.take 0) (l.drop 0)) from by unfold poolsC;rw [hn];rfl);obtain⟨R,hR⟩:∃ R,poolsC askT l=R:=⟨_,rfl⟩;rw [hR] at HV ⊢;clear hR hn hB hE hz;obtain⟨bw,hbw⟩:∃ b,inC n 1 32=b:=⟨_,rfl⟩;rw [hbw] at HW HV;have hn64:bw=true→n≤32:=fun h=>by rw [h] at hbw;have:=hbw;unfold inC at this;simp at this;omega
 clear hbw;cases bw
 · have HR:=hid (show R=n_pools from by rw [HV.out,if_pos rfl]);rw [HR.out];clear HV HR;go_enter Tryz.func87,Tryz.ntmps87;go_wp2_with (go_at_call 92;(with_reducible refine(HW.out _).mono ?_);rintro e w6 ⟨rfl,hw6⟩;subst w6);go_ret;exact⟨rfl,Below.refl _ _⟩
 have hn3:=hn64 rfl;have HR:=hid (show R=poolsFrom askT 0 (l.take 0) (l.drop 0) from by rw [HV.out,if_neg (by decide)]);clear HV hn64;go_enter Tryz.func87,Tryz.ntmps87;go_wp2_with (go_at_call 92;(with_reducible refine(HW.out _).mono ?_);rintro e w6 ⟨rfl,hw6⟩;subst w6);go_loopg [22] (n+1) (fun gk s wr=>∃ i:Nat,i≤n∧gk=n-i+1∧s= .int .i64 (i:Int)∧R=poolsFrom askT i (l.take i) (l.drop i)∧Below w.heap.size w wr)
 case atStart=>exact⟨0,by omega,rfl,rfl,HR.out,Below.refl _ _⟩
 case round=>
  clear HR;obtain⟨i,hi,rfl,rfl,hE,hb⟩:=hrel;have HE2:=hid hE;have HB:=hid hb;clear hE hb;by_cases hin:i<n
  case neg=>
   have hiN:i=n:=by omega
   subst hiN;have HR:=hid (show R= [] from by rw [HE2.out,show l.drop i= [] from by rw [List.drop_eq_nil_iff,HN.out];exact Nat.le_refl _];rfl);go_wp2;go_ret;exact⟨ret_str HR.out.symm,HB.out⟩
  have h1:i<l.length:=by rw [HN.out];exact hin
  obtain⟨x,hx⟩:∃ x,l[i]?=some x:=⟨_,List.getElem?_eq_getElem h1⟩;have HSt:=hid (pools_step2 l x i hx);have HOn:=hid (HOne.out i x hx wr HB.out);have HTx:=hid (fun (W:World) (hb:Below w.heap.size w W)=>ptext_any i (by omega) W (HE.out.next hb));have hnl:=numT_len i (by omega);have hfl:(poolF askT l x i).length≤512:=poolF_len l x i;have HFive:=hid (str_five n_pools (numT i) (poolF askT l x i) (by decide));obtain⟨at_,hat⟩:∃ t,poolF askT l x i=t:=⟨_,rfl⟩;rw [hat] at HSt HOn hfl HFive;clear h1 hx hat;by_cases h0:at_= []
  · subst h0;have HR:=hid (show R=poolsFrom askT (i+1) (l.take (i+1)) (l.drop (i+1)) from by rw [HE2.out,HSt.out,if_neg (by simp)]);clear HSt HE2 HFive hfl;go_wp2_with (go_at_call 88;(with_reducible refine HOn.out.mono ?_);rintro e w1 ⟨rfl,hw1⟩;have HB1:=hid (HB.out.trans (hw1.mono HB.out.size));clear hw1);go_roundg (n-(i+1)+1)
    case measure=>omega
    case rel=>exact⟨i+1,by omega,by omega,by go_num,HR.out,HB1.out⟩
  · have HR:=hid (show R=behindC (behindC n_pools (numT i)) at_ from by rw [HE2.out,HSt.out,if_pos h0]);clear HSt HE2;have f1:=ne_facts h0;have hz1:=str_size at_;have hz2:=str_size (numT i);obtain⟨S,hS⟩:∃ S,str at_=S:=⟨_,rfl⟩;obtain⟨S2,hS2⟩:∃ S,str (numT i)=S:=⟨_,rfl⟩;rw [hS] at f1 HOn hz1 HFive;rw [hS2] at hz2 HTx HFive;have f2:(S.toList== (⟨#[]⟩:ByteArray).toList)=false:=ne_list f1;have f3:S.toList.isEmpty=false:=ne_empty f1;have f4:(S.toList== [])=false:=by have h:=f2;rw [ByteArray.toList_eq,ByteArray.toList_eq] at h;rw [ByteArray.toList_eq];exact h
    have g1:S.size≤4096:=by omega
    have g2:S2.size≤21:=by omega
    clear hS hS2 h0 hz1 hz2 hfl hnl;go_wp2_with (first|(go_at_call 88;(with_reducible refine HOn.out.mono ?_);rintro e w1 ⟨rfl,hw1⟩;have HB1:=hid (HB.out.trans (hw1.mono HB.out.size));clear hw1)|(go_at_call 125;(with_reducible refine(HTx.out _ HB1.out).mono ?_);rintro e w7 ⟨rfl,hw7⟩;have HB7:=hid (HB1.out.trans (hw7.mono HB1.out.size));clear hw7));go_ret;exact⟨by rw [HR.out,←HFive.out];rfl,HB7.out⟩
def poolE (l:List PoolC) (s:B):Value:=match poolAt l s with
 |some i=>.tuple #[.int .i64 (i:Int),.nilIface]
 |none=>.tuple #[.int .i64 0,.iface 63 (.int .i64 8)]
theorem cell1_of {w:World}{g:Nat}{a:Value}{T:TypeId} (h:w.heap[g]?=some (.cells #[a] T (0,0))):w.cell? ⟨g,0,none⟩=some a:=by simp [World.cell?,h]
structure Cells8 (w:World) (g:Nat) (a b c d e f h i:Value):Prop where
 a0:w.cell? ⟨g,0,none⟩=some a
 a1:w.cell? ⟨g,1,none⟩=some b
 a2:w.cell? ⟨g,2,none⟩=some c
 a3:w.cell? ⟨g,3,none⟩=some d
 a4:w.cell? ⟨g,4,none⟩=some e
 a5:w.cell? ⟨g,5,none⟩=some f
 a6:w.cell? ⟨g,6,none⟩=some h
 a7:w.cell? ⟨g,7,none⟩=some i
theorem cells8 {w:World}{g:Nat}{a b c d e f h i:Value}{T:TypeId} (H:w.heap[g]?=some (.cells #[a,b,c,d,e,f,h,i] T (0,0))):Cells8 w g a b c d e f h i:=by
 refine⟨?_,?_,?_,?_,?_,?_,?_,?_⟩ <;> simp [World.cell?,H]
theorem ppoolI_any (cf:CfgC) (kv rv:Value) (p:Option Addr) (n c:Nat) (hn:cf.pools.length=n) (hnn:n≤140737488355328) (s:B) (w:World) (hB:PoAt w p cf.pools):Calls Tryz.prog 20 #[cfgV kv (.slice p n c) rv cf,.string (str s)] w fun e w'=>e= .returned (poolE cf.pools s)∧Below w.heap.size w w':=by
 obtain⟨ck,l,cr,m1,m2,m3,m4,m5⟩:=cf;dsimp only at hn hB ⊢;dsimp only [cfgV];have HI:=hid (fun (g:Nat) (W:World) (hb:Below w.heap.size w W) (hg:W.cell? ⟨g,0,none⟩=some (.string (str s)))=>ppoolat_any l p n c hn (by omega) s g W hg (hB.next hb));have HV:=hid (show (poolE l s= .tuple #[.int .i64 (fidx (fun a=>decide (a.name=s)) l),.nilIface]∧0≤fidx (fun a=>decide (a.name=s)) l)∨(poolE l s= .tuple #[.int .i64 0,.iface 63 (.int .i64 8)]∧fidx (fun a=>decide (a.name=s)) l<0) from by
  unfold poolE poolAt fidx;cases h:l.findIdx? (fun p=>decide (p.name=s)) with
  |none=>exact .inr ⟨rfl,by decide⟩
  |some i=>exact .inl ⟨rfl,by simp⟩)
 obtain⟨I,hI⟩:∃ I,fidx (fun a:PoolC=>decide (a.name=s)) l=I:=⟨_,rfl⟩;rw [hI] at HI HV;obtain⟨R,hR⟩:∃ R,poolE l s=R:=⟨_,rfl⟩;rw [hR] at HV ⊢;obtain⟨S,hS⟩:∃ S,str s=S:=⟨_,rfl⟩;rw [hS] at HI ⊢;have HB0:=hid ((below_new w (.cells #[kv,.slice p n c,rv,.int .i64 m1,.int .i64 m2,.int .i64 m3,.int .i64 m4,.int .i64 m5] 26 (0,0))).trans ((below_new (w.alloc (.cells #[kv,.slice p n c,rv,.int .i64 m1,.int .i64 m2,.int .i64 m3,.int .i64 m4,.int .i64 m5] 26 (0,0))) (.cells #[.string S] 9 (0,0))).mono (below_new w _).size));have HX0:=hid (heap_alloc_new (w.alloc (.cells #[kv,.slice p n c,rv,.int .i64 m1,.int .i64 m2,.int .i64 m3,.int .i64 m4,.int .i64 m5] 26 (0,0))) (.cells #[.string S] 9 (0,0)));have HG:=hid (show ((w.alloc (.cells #[kv,.slice p n c,rv,.int .i64 m1,.int .i64 m2,.int .i64 m3,.int .i64 m4,.int .i64 m5] 26 (0,0))).alloc (.cells #[.string S] 9 (0,0))).cell? ⟨w.heap.size+1,0,none⟩=some (.string S) from by
  have h:=HX0.out;rw [show (w.alloc (.cells #[kv,.slice p n c,rv,.int .i64 m1,.int .i64 m2,.int .i64 m3,.int .i64 m4,.int .i64 m5] 26 (0,0))).heap.size=w.heap.size+1 from by simp] at h;exact cell1_of h)
 clear hI hR hS hn hB HX0;rcases HV.out with ⟨rfl,hi⟩|⟨rfl,hi⟩
 all_goals
  clear HV;go_enter Tryz.func20,Tryz.ntmps20;go_wp2_with (go_at_call 52;(with_reducible refine(HI.out _ _ HB0.out HG.out).mono ?_);rintro e w1 ⟨rfl,hw1⟩;have HB1:=hid (HB0.out.trans (hw1.mono HB0.out.size));clear hw1);go_ret2;exact⟨rfl,HB1.out⟩
def routeF (k:AskC) (ps:List PoolC) (x:RouteC):B:=if k.host x.host=false then n_host else if k.path x.path=false then n_path else if toksC x.methods 32=false then n_methods else if poolAt ps x.pool=none then n_pool else if authC k x.auth≠ [] then partC n_auth (authC k x.auth) else partC n_limit (limC x.lim x.auth.on)
theorem route_step (k:AskC) (ps:List PoolC) (l:List RouteC) (x:RouteC) (i:Nat) (h:l[i]?=some x):routesFrom k ps i (l.drop i)=if routeF k ps x≠ [] then behindC (behindC n_routes (k.num i)) (routeF k ps x) else routesFrom k ps (i+1) (l.drop (i+1)):=by
 obtain⟨h1,h2⟩:=List.getElem?_eq_some_iff.1 h;rw [List.drop_eq_getElem_cons h1,h2];conv=>lhs;unfold routesFrom
 obtain⟨R,hR⟩:∃ R,routesFrom k ps (i+1) (l.drop (i+1))=R:=⟨_,rfl⟩;rw [hR];clear hR;unfold routeF partC;by_cases a1:k.host x.host=false
 · rw [if_pos a1,if_pos a1];rfl
 rw [if_neg a1,if_neg a1];by_cases a2:k.path x.path=false
 · rw [if_pos a2,if_pos a2];rfl
 rw [if_neg a2,if_neg a2];by_cases a3:toksC x.methods 32=false
 · rw [if_pos a3,if_pos a3];rfl
 rw [if_neg a3,if_neg a3];by_cases a4:poolAt ps x.pool=none
 · rw [if_pos a4,if_pos a4];rfl
 rw [if_neg a4,if_neg a4];by_cases a5:authC k x.auth= []
 · by_cases a6:limC x.lim x.auth.on= []
   · simp [a5,a6]
   · simp [a5,a6]
 · simp [a5]
end Go.Proofs.YtlmefgjhbohjlaaGreatDoor
