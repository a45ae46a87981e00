/- What is wrong of a probe, of an auth, by the program. -/
import Derived.Test.YtlmefgjhbohjlaaGreatDoorJQuote
import Derived.Lib.ItoaLen
namespace Go.Proofs.YtlmefgjhbohjlaaGreatDoor
set_option maxRecDepth 20000
set_option maxHeartbeats 8000000
open Go.RowKit
theorem five (a b c d e:Bool):a=false∨(a=true∧b=false)∨(a=true∧b=true∧c=false)∨(a=true∧b=true∧c=true∧d=false)∨(a=true∧b=true∧c=true∧d=true∧e=false)∨(a=true∧b=true∧c=true∧d=true∧e=true):=by
 cases a <;> cases b <;> cases c <;> cases d <;> cases e <;> simp
theorem inC_zero (n:Int):inC n 0 0=decide (n=0):=by
 unfold inC;rw [Bool.eq_iff_iff];simp;omega
theorem pprobe_any (p:ProbeC) (hs:p.path.length≤140737488355328) (w:World) (hE:Env_t w):Calls Tryz.prog 161 #[probeV p] w fun e w'=>e= .returned (.string (str (probeC askT p)))∧Below w.heap.size w w':=by
 obtain⟨P,ev,ti,ri,fa⟩:=p;dsimp only [probeV] at*;have HB0:=hid (below_new w (.cells #[.string (str P),.int .i64 ev,.int .i64 ti,.int .i64 ri,.int .i64 fa] 81 (0,0)));have HP:=hid (fun (W:World) (hb:Below w.heap.size w W)=>ppath_probe P hs W (hE.below hb));have HPe:=hid (fun W:World=>pempty_any P W);by_cases h0:ev=0
 · subst h0;have HW0:=hid (fun W:World=>pwithin_any 0 0 1048576 W);rw [show inC 0 0 1048576=true from rfl] at HW0;have HW1:=hid (fun W:World=>pwithin_any ti 0 0 W);have HW2:=hid (fun W:World=>pwithin_any ri 0 0 W);have HW3:=hid (fun W:World=>pwithin_any fa 0 0 W);have HV:probeC askT ⟨P,0,ti,ri,fa⟩=if decide (P= [])=false then n_path else if inC ti 0 0=false then n_timeout else if inC ri 0 0=false then n_rise else if inC fa 0 0=false then n_fall else []:=by
    unfold probeC;rw [inC_zero,inC_zero,inC_zero];simp only [decide_eq_false_iff_not];rw [if_neg (by decide),if_pos trivial]
   rw [HV];obtain⟨S,hS⟩:∃ S,str P=S:=⟨_,rfl⟩;rw [hS] at HPe HP HB0 ⊢;obtain⟨bp,hbp⟩:∃ b,decide (P= [])=b:=⟨_,rfl⟩;obtain⟨b1,hb1⟩:∃ b,inC ti 0 0=b:=⟨_,rfl⟩;obtain⟨b2,hb2⟩:∃ b,inC ri 0 0=b:=⟨_,rfl⟩;obtain⟨b3,hb3⟩:∃ b,inC fa 0 0=b:=⟨_,rfl⟩;rw [hbp] at HPe;rw [hb1] at HW1;rw [hb2] at HW2;rw [hb3] at HW3;rw [hbp,hb1,hb2,hb3];clear hbp hb1 hb2 hb3 hS HV HP hE hs;rcases five true bp b1 b2 b3 with h|⟨_,h⟩|⟨_,h,h1⟩|⟨_,h,h1,h2⟩|⟨_,h,h1,h2,h3⟩|⟨_,h,h1,h2,h3⟩
   · cases h
   all_goals
    subst_vars
    go_enter Tryz.func161,Tryz.ntmps161;go_wp2_with (first|(go_at_call 92;first|((with_reducible refine(HW0.out _).mono ?_);rintro e w1 ⟨rfl,hw1⟩;subst w1)|((with_reducible refine(HW1.out _).mono ?_);rintro e w1 ⟨rfl,hw1⟩;subst w1)|((with_reducible refine(HW2.out _).mono ?_);rintro e w1 ⟨rfl,hw1⟩;subst w1)|((with_reducible refine(HW3.out _).mono ?_);rintro e w1 ⟨rfl,hw1⟩;subst w1))|(go_at_call 224;(with_reducible refine(HPe.out _).mono ?_);rintro e w1 ⟨rfl,hw1⟩;subst w1));go_ret;exact⟨rfl,HB0.out⟩
 · have h00:(ev== 0)=false:=by simpa using h0
   have HW0:=hid (fun W:World=>pwithin_any ev 0 1048576 W);have HW1:=hid (fun W:World=>pwithin_any ti 1 ev W);have HW2:=hid (fun W:World=>pwithin_any ri 1 100 W);have HW3:=hid (fun W:World=>pwithin_any fa 1 100 W);have HX0:=hid (heap_alloc_new w (.cells #[.string (str P),.int .i64 ev,.int .i64 ti,.int .i64 ri,.int .i64 fa] 81 (0,0)));have HV:probeC askT ⟨P,ev,ti,ri,fa⟩=if inC ev 0 1048576=false then n_every else if probeOK askT P=false then n_path else if inC ti 1 ev=false then n_timeout else if inC ri 1 100=false then n_rise else if inC fa 1 100=false then n_fall else []:=by
    unfold probeC;rw [if_neg h0];rfl
   rw [HV];obtain⟨S,hS⟩:∃ S,str P=S:=⟨_,rfl⟩;rw [hS] at HPe HP HB0 HX0 ⊢;obtain⟨b0,hb0⟩:∃ b,inC ev 0 1048576=b:=⟨_,rfl⟩;obtain⟨bp,hbp⟩:∃ b,probeOK askT P=b:=⟨_,rfl⟩;obtain⟨b1,hb1⟩:∃ b,inC ti 1 ev=b:=⟨_,rfl⟩;obtain⟨b2,hb2⟩:∃ b,inC ri 1 100=b:=⟨_,rfl⟩;obtain⟨b3,hb3⟩:∃ b,inC fa 1 100=b:=⟨_,rfl⟩;rw [hb0] at HW0;rw [hbp] at HP;rw [hb1] at HW1;rw [hb2] at HW2;rw [hb3] at HW3;rw [hb0,hbp,hb1,hb2,hb3];clear hb0 hbp hb1 hb2 hb3 hS HV HPe hE hs h0;rcases five b0 bp b1 b2 b3 with h|⟨h0,h⟩|⟨h0,h,h1⟩|⟨h0,h,h1,h2⟩|⟨h0,h,h1,h2,h3⟩|⟨h0,h,h1,h2,h3⟩
   · subst_vars
     go_enter Tryz.func161,Tryz.ntmps161;go_wp2_with (go_at_call 92;(with_reducible refine(HW0.out _).mono ?_);rintro e w1 ⟨rfl,hw1⟩;subst w1);go_ret;exact⟨rfl,HB0.out⟩
   all_goals
    subst_vars
    go_enter Tryz.func161,Tryz.ntmps161;go_wp2_with (first|(go_at_call 92;first|((with_reducible refine(HW0.out _).mono ?_);rintro e w1 ⟨rfl,hw1⟩;subst w1)|((with_reducible refine(HW1.out _).mono ?_);rintro e w1 ⟨rfl,hw1⟩;subst w1)|((with_reducible refine(HW2.out _).mono ?_);rintro e w1 ⟨rfl,hw1⟩;subst w1)|((with_reducible refine(HW3.out _).mono ?_);rintro e w1 ⟨rfl,hw1⟩;subst w1))|(go_at_call 223;(with_reducible refine(HP.out _ HB0.out).mono ?_);rintro e w1 ⟨rfl,hw1⟩;have HB1:=hid (HB0.out.trans (hw1.mono HB0.out.size));obtain⟨y0,y1,y2,y3,y4⟩:=cells5 (kB hw1 HX0.out);clear hw1));go_ret;exact⟨rfl,HB1.out⟩
theorem pclaim_any (s:B) (m:Int) (hm:m≤256) (hs:s.length≤140737488355328) (w:World) (hE:Env w):Calls Tryz.prog 228 #[.string (str s),.int .i64 m] w fun e w'=>e= .returned (.bool (decide ((s.length:Int)≤m) && Lib.validD s))∧Below w.heap.size w w':=by
 have hz:=str_size s;by_cases h:(s.length:Int)≤m
 case neg=>
  rw [decide_eq_false h,Bool.false_and];obtain⟨S,hS⟩:∃ S,str s=S:=⟨_,rfl⟩;rw [hS] at hz ⊢;have g1:m<(S.size:Int):=by omega
  have g2:S.size≤140737488355328:=by omega
  clear hS hz h hs;go_enter Tryz.func228,Tryz.ntmps228;go_wp2;go_ret;exact⟨rfl,Below.refl _ _⟩
 rw [decide_eq_true h,Bool.true_and];have HN:=hid (quote_out s (by omega) w hE);unfold ToldPr quoteS at HN;obtain⟨S,hS⟩:∃ S,str s=S:=⟨_,rfl⟩;rw [hS] at hz HN ⊢;have g1:(S.size:Int)≤m:=by omega
 clear hS hz h hs;cases hr:Lib.validD s with
 |false=>
  rw [hr] at HN;have HN:=hid (show Calls Tryz.prog 273 #[.string S] w fun e w'=>e= .returned (.tuple #[.string ⟨#[]⟩,.iface 63 (.int .i64 3)])∧Below w.heap.size w w' from HN.out);go_enter Tryz.func228,Tryz.ntmps228;go_wp2_with (go_at_call 273;(with_reducible refine HN.out.mono ?_);rintro e w1 ⟨rfl,hw1⟩;have HB:=hid hw1;clear hw1);go_ret;exact⟨rfl,HB.out⟩
 |true=>
  rw [hr] at HN;have HN:=hid (show Calls Tryz.prog 273 #[.string S] w fun e w'=>e= .returned (.tuple #[.string (str (quoteB s)),.nilIface])∧Below w.heap.size w w' from HN.out);obtain⟨T,hT⟩:∃ T,str (quoteB s)=T:=⟨_,rfl⟩;rw [hT] at HN;go_enter Tryz.func228,Tryz.ntmps228;go_wp2_with (go_at_call 273;(with_reducible refine HN.out.mono ?_);rintro e w1 ⟨rfl,hw1⟩;have HB:=hid hw1;clear hw1);go_ret;exact⟨rfl,HB.out⟩
theorem auth_on (iss aud:B) (sc:List B) (lee:Int):authC askT ⟨true,iss,aud,sc,lee⟩=if (decide ((iss.length:Int)≤256) && Lib.validD iss)=false then n_issuer else if (decide ((aud.length:Int)≤256) && Lib.validD aud)=false then n_audience else if toksM sc 16 64=false then n_scopes else if inC lee 0 1048576=false then n_leeway else []:=by
 unfold authC;rw [toksM_16];have e1:∀ s:B,(decide (256<s.length) || !askT.utf s)= !(decide ((s.length:Int)≤256) && Lib.validD s):=by
  intro s;show (decide (256<s.length) || !Lib.validD s)=_;rw [Bool.not_and];congr 1;rw [Bool.eq_iff_iff];simp only [Bool.not_eq_true',decide_eq_true_eq,decide_eq_false_iff_not];omega
 simp only [Bool.not_true,Bool.false_and,Bool.or_false,e1,Bool.not_eq_true']
theorem auth_off (iss aud:B) (sc:List B) (lee:Int):authC askT ⟨false,iss,aud,sc,lee⟩=if (decide ((iss.length:Int)≤0) && Lib.validD iss)=false then n_issuer else if (decide ((aud.length:Int)≤0) && Lib.validD aud)=false then n_audience else if toksM sc 0 64=false then n_scopes else if inC lee 0 0=false then n_leeway else []:=by
 unfold authC;rw [toksM_0,inC_zero];have e1:∀ s:B,(decide (256<s.length) || !askT.utf s || (!false && decide (s≠ [])))= !(decide ((s.length:Int)≤0) && Lib.validD s):=by
  intro s;show (decide (256<s.length) || !Lib.validD s || (!false && decide (s≠ [])))=_;cases s with
  |nil=>rfl
  |cons c l=>
   rw [show decide (((c::l).length:Int)≤0)=false from decide_eq_false (by rw [List.length_cons];omega)];simp
 have e2:(!toksC sc 64 || (!false && decide (0<sc.length)))= !decide (sc= []):=by
  cases sc with
  |nil=>rfl
  |cons c l=>simp
 have e3:(!inC lee 0 1048576 || (!false && decide (lee≠0)))= !decide (lee=0):=by
  by_cases h:lee=0
  · subst h;rfl
  · simp [h]
 simp only [e1,e2,e3,Bool.not_eq_true']
theorem pauth_any (a:AuthC) (p:Option Addr) (n c:Nat) (hn:a.scopes.length=n) (hc:n≤c) (h1:a.iss.length≤140737488355328) (h2:a.aud.length≤140737488355328) (hz:∀ x∈a.scopes,x.length≤maxLen) (hnn:n≤9223372036854775807) (w:World) (hE:Env w) (hT:TsAt w p a.scopes):Calls Tryz.prog 165 #[authV a p n c] w fun e w'=>e= .returned (.string (str (authC askT a)))∧Below w.heap.size w w':=by
 obtain⟨on,iss,aud,sc,lee⟩:=a;dsimp only [authV] at*;have HB0:=hid (below_new w (.cells #[.bool on,.string (str iss),.string (str aud),.slice p n c,.int .i64 lee] 87 (0,0)));have HX0:=hid (heap_alloc_new w (.cells #[.bool on,.string (str iss),.string (str aud),.slice p n c,.int .i64 lee] 87 (0,0)));obtain⟨M1,M2,M3,hM,HV⟩:∃ M1 M2 M3:Int,(on=true∧M1=256∧M2=16∧M3=1048576∨on=false∧M1=0∧M2=0∧M3=0)∧authC askT ⟨on,iss,aud,sc,lee⟩=if (decide ((iss.length:Int)≤M1) && Lib.validD iss)=false then n_issuer else if (decide ((aud.length:Int)≤M1) && Lib.validD aud)=false then n_audience else if toksM sc M2 64=false then n_scopes else if inC lee 0 M3=false then n_leeway else []:=by
  cases on
  · exact⟨0,0,0,.inr ⟨rfl,rfl,rfl,rfl⟩,auth_off iss aud sc lee⟩
  · exact⟨256,16,1048576,.inl ⟨rfl,rfl,rfl,rfl⟩,auth_on iss aud sc lee⟩
 have hMb:M1≤256∧M2≤16:=by rcases hM with ⟨_,a,b,_⟩|⟨_,a,b,_⟩ <;> omega
 rw [HV];have HC1:=hid (fun (W:World) (hb:Below w.heap.size w W)=>pclaim_any iss M1 hMb.1 h1 W (hE.below hb));have HC2:=hid (fun (W:World) (hb:Below w.heap.size w W)=>pclaim_any aud M1 hMb.1 h2 W (hE.below hb));have HC3:=hid (fun (W:World) (hb:Below w.heap.size w W)=>ptoks_any sc p n c hn hc M2 64 hMb.2 hz hnn W (hT.next hb));have HC4:=hid (fun W:World=>pwithin_any lee 0 M3 W);obtain⟨S1,hS1⟩:∃ S,str iss=S:=⟨_,rfl⟩;obtain⟨S2,hS2⟩:∃ S,str aud=S:=⟨_,rfl⟩;rw [hS1] at HC1 HB0 HX0;rw [hS2] at HC2 HB0 HX0;rw [hS1,hS2];obtain⟨b1,hb1⟩:∃ b,(decide ((iss.length:Int)≤M1) && Lib.validD iss)=b:=⟨_,rfl⟩;obtain⟨b2,hb2⟩:∃ b,(decide ((aud.length:Int)≤M1) && Lib.validD aud)=b:=⟨_,rfl⟩;obtain⟨b3,hb3⟩:∃ b,toksM sc M2 64=b:=⟨_,rfl⟩;obtain⟨b4,hb4⟩:∃ b,inC lee 0 M3=b:=⟨_,rfl⟩;rw [hb1] at HC1;rw [hb2] at HC2;rw [hb3] at HC3;rw [hb4] at HC4;rw [hb1,hb2,hb3,hb4];clear hb1 hb2 hb3 hb4 hS1 hS2 HV hE hT h1 h2 hz hn hMb;rcases hM with ⟨rfl,rfl,rfl,rfl⟩|⟨rfl,rfl,rfl,rfl⟩
 all_goals
  rcases five true b1 b2 b3 b4 with h|⟨_,h⟩|⟨_,h,h1⟩|⟨_,h,h1,h2⟩|⟨_,h,h1,h2,h3⟩|⟨_,h,h1,h2,h3⟩
  · cases h
  all_goals
   subst_vars
   go_enter Tryz.func165,Tryz.ntmps165;go_wp2_with (first|(go_at_call 92;(with_reducible refine(HC4.out _).mono ?_);rintro e w1 ⟨rfl,hw1⟩;subst w1)|(go_at_call 164;(with_reducible refine(HC3.out _ HB2.out).mono ?_);rintro e w1 ⟨rfl,hw1⟩;subst w1)|(go_at_call 228;(with_reducible refine(HC1.out _ HB0.out).mono ?_);rintro e w1 ⟨rfl,hw1⟩;clear HC1;have HB1:=hid (HB0.out.trans (hw1.mono HB0.out.size));have HX1:=hid (kB hw1 HX0.out);obtain⟨y0,y1,y2,y3,y4⟩:=cells5 HX1.out;clear hw1 HX0)|(go_at_call 228;(with_reducible refine(HC2.out _ HB1.out).mono ?_);rintro e w2 ⟨rfl,hw1⟩;clear HC2;have HB2:=hid (HB1.out.trans (hw1.mono HB1.out.size));obtain⟨z0,z1,z2,z3,z4⟩:=cells5 (kB hw1 HX1.out);clear hw1 y0 y1 y2 y3 y4));go_ret
   first|exact⟨rfl,HB2.out⟩|exact⟨rfl,HB1.out⟩
theorem ky_take {w:World}{p:Option Addr}{l:List KeyC} (h:KyAt w p l) (i:Nat):KyAt w p (l.take i):=by
 intro j t hj;refine h j t ?_;rw [List.getElem?_take] at hj;split at hj
 · exact hj
 · cases hj
theorem bk_take {w:World}{p:Option Addr}{l:List BackC} (h:BkAt w p l) (i:Nat):BkAt w p (l.take i):=by
 intro j t hj;refine h j t ?_;rw [List.getElem?_take] at hj;split at hj
 · exact hj
 · cases hj
theorem po_take {w:World}{p:Option Addr}{l:List PoolC} (h:PoAt w p l) (i:Nat):PoAt w p (l.take i):=by
 intro j t hj;refine h j t ?_;rw [List.getElem?_take] at hj;split at hj
 · exact hj
 · cases hj
theorem cells2 {w:World}{g:Nat}{a b:Value}{T:TypeId} (h:w.heap[g]?=some (.cells #[a,b] T (0,0))):w.cell? ⟨g,0,none⟩=some a∧w.cell? ⟨g,1,none⟩=some b:=by
 constructor <;> simp [World.cell?,h]
theorem two_ifs (a b c:Bool) (x y:B):(if (a && !b)=false then x else if c=false then y else [])=if a=false then x else if b=true then x else if c=false then y else []:=by
 cases a <;> cases b <;> rfl
def keyF (l:List KeyC) (x:KeyC) (i:Nat):B:=if okKy l x i=false then n_id else if inC x.sec.length 1 256=false then n_secret else []
theorem okKy_any (l:List KeyC) (x:KeyC) (i:Nat):okKy l x i=(tokC x.id 64 && !(l.take i).any (fun a=>decide (a.id=x.id))):=by
 unfold okKy;congr 1;rw [List.not_any_eq_all_not];congr 1;funext a;simp
def backF (k:AskC) (l:List BackC) (x:BackC) (i:Nat):B:=if okBk k l x i=false then n_addr else if inC x.wt 1 256=false then n_weight else []
theorem okBk_any (k:AskC) (l:List BackC) (x:BackC) (i:Nat):okBk k l x i=(k.addr x.addr && !(l.take i).any (fun a=>decide (a.addr=x.addr))):=by
 unfold okBk;congr 1;rw [List.not_any_eq_all_not];congr 1;funext a;simp
theorem pkey_any (l:List KeyC) (p:Option Addr) (n c:Nat) (hn:l.length=n) (hc:n≤c) (hz:∀ x∈l,x.id.length≤maxLen∧x.sec.length≤maxLen) (hnn:n≤140737488355328) (i:Nat) (x:KeyC) (hx:l[i]?=some x) (w:World) (hB:KyAt w p l):Calls Tryz.prog 86 #[.slice p n c,.int .i64 (i:Int)] w fun e w'=>e= .returned (.string (str (keyF l x i)))∧Below w.heap.size w w':=by
 have hin:i<n:=by rw [←hn];exact(List.getElem?_eq_some_iff.1 hx).1
 have HM:=hid (hz x (List.mem_of_getElem? hx));have HV:=hid (show keyF l x i=(if (tokC x.id 64 && !(l.take i).any (fun a=>decide (a.id=x.id)))=false then n_id else if inC x.sec.length 1 256=false then n_secret else []) from by unfold keyF;rw [okKy_any]);have HTa:=hid (ky_take hB i);obtain⟨g1,o1,rfl,q0,q1⟩:=hB i x hx;rw [HV.out];have HTk:=hid (fun (W:World)=>ptoken_any x.id 64 HM.out.1 W);have HW1:=hid (fun W:World=>pwithin_any (x.sec.length:Int) 1 256 W);have HB0:=hid (below_new w (.cells #[.string (str x.id),.string (str x.sec)] 72 (0,0)));have HX0:=hid (heap_alloc_new w (.cells #[.string (str x.id),.string (str x.sec)] 72 (0,0)));have HHas:=hid (fun (W:World) (hb:Below w.heap.size w W) (hg:W.cell? ⟨w.heap.size,0,none⟩=some (.string (str x.id)))=>pkeyhas_any (l.take i) (some ⟨g1,o1,none⟩) i c (by rw [List.length_take];omega) (by omega) x.id w.heap.size W hg (HTa.out.next hb));obtain⟨b1,hb1⟩:∃ b,tokC x.id 64=b:=⟨_,rfl⟩;obtain⟨b2,hb2⟩:∃ b,(l.take i).any (fun a=>decide (a.id=x.id))=b:=⟨_,rfl⟩;obtain⟨b3,hb3⟩:∃ b,inC x.sec.length 1 256=b:=⟨_,rfl⟩;rw [hb1] at HTk;rw [hb2] at HHas;rw [hb3] at HW1;rw [hb1,hb2,hb3,two_ifs];obtain⟨S,hS⟩:∃ S,str x.id=S:=⟨_,rfl⟩;rw [hS] at q0 HTk HHas HB0 HX0;have hzw:=str_size x.sec;obtain⟨xw,hxw⟩:∃ v,str x.sec=v:=⟨_,rfl⟩;rw [hxw] at q1 hzw HB0 HX0;rw [←hzw] at HW1;have hsl:=HM.out.2;rw [←hzw] at hsl;unfold maxLen at hsl;clear hxw hzw;clear hb1 hb2 hb3 hS hx hz hn hB HV HTa HM;cases b1
 · go_enter Tryz.func86,Tryz.ntmps86;go_wp2_with (go_at_call 153;(with_reducible refine(HTk.out _).mono ?_);rintro e w1 ⟨rfl,hw1⟩;subst w1);go_ret;exact⟨rfl,HB0.out⟩
 cases b2
 · cases b3;all_goals
    go_enter Tryz.func86,Tryz.ntmps86;go_wp2_with (first|(go_at_call 153;(with_reducible refine(HTk.out _).mono ?_);rintro e w1 ⟨rfl,hw1⟩;subst w1)|(go_at_call 154;(with_reducible refine(HHas.out _ HB0.out (cells2 HX0.out).1).mono ?_);rintro e w5 ⟨rfl,hw5⟩;have HB5:=hid (HB0.out.trans (hw5.mono HB0.out.size));have hX5:=kB hw5 HX0.out;obtain⟨y0,y1⟩:=cells2 hX5;clear hw5 hX5)|(go_at_call 92;(with_reducible refine(HW1.out _).mono ?_);rintro e w6 ⟨rfl,hw6⟩;subst w6));go_ret;exact⟨rfl,HB5.out⟩
 · go_enter Tryz.func86,Tryz.ntmps86;go_wp2_with (first|(go_at_call 153;(with_reducible refine(HTk.out _).mono ?_);rintro e w1 ⟨rfl,hw1⟩;subst w1)|(go_at_call 154;(with_reducible refine(HHas.out _ HB0.out (cells2 HX0.out).1).mono ?_);rintro e w5 ⟨rfl,hw5⟩;have HB5:=hid (HB0.out.trans (hw5.mono HB0.out.size));clear hw5));go_ret;exact⟨rfl,HB5.out⟩
abbrev hostNm:B:=[72,111,115,116]
theorem addr_vals (s:B):oneB (valsB [(hostNm,s)] hostName)=(str s,0):=by
 unfold valsB;rw [List.filter_cons,if_pos (show sameB (str hostNm) hostName=true by decide+kernel)];rfl
theorem addr_size {s:B} (h:s.length≤1048576):szB [(hostNm,s)]:=by
 intro f hf;rw [List.mem_singleton.1 hf];exact⟨by simp,h⟩
theorem addr_at {w:World}{g:Nat}{s:B}{T:TypeId} (h:w.heap[g]?=some (.cells #[.string (str hostNm),.string (str s)] T (0,0))):FAt w (some ⟨g,0,none⟩) [(hostNm,s)]:=by
 intro j f hj;obtain⟨h0,h1⟩:=cells2 h;cases j with
 |zero=>
  simp only [List.getElem?_cons_zero,Option.some.injEq] at hj;subst hj;exact⟨g,0,rfl,h0,h1⟩
 |succ j=>simp at hj
theorem paddr_any (s:B) (hs:s.length≤140737488355328) (w:World) (hE:MxAt w):Calls Tryz.prog 221 #[.string (str s)] w fun e w'=>e= .returned (.bool (askT.addr s))∧Below w.heap.size w w':=by
 have hz:=str_size s;show Calls _ _ _ _ fun e w'=>e= .returned (.bool (decide (s.length≤128) && portOk (hostP okP s)))∧_
 by_cases h:s.length≤128
 case neg=>
  rw [decide_eq_false h,Bool.false_and];obtain⟨S,hS⟩:∃ S,str s=S:=⟨_,rfl⟩;rw [hS] at hz ⊢;have g1:(128:Int)<(S.size:Int):=by omega
  have g2:S.size≤140737488355328:=by omega
  clear hS hz h hs;go_enter Tryz.func221,Tryz.ntmps221;go_wp2;go_ret;exact⟨rfl,Below.refl _ _⟩
 rw [decide_eq_true h,Bool.true_and];have HB0:=hid (below_new w (.cells #[.string (str hostNm),.string (str s)] 318 (0,0)));have HH:=hid (phost ⟨#[]⟩ ⟨#[]⟩ 1 [(hostNm,s)] (some ⟨w.heap.size,0,none⟩) 1 1 rfl _ (addr_at (heap_alloc_new w (.cells #[.string (str hostNm),.string (str s)] 318 (0,0)))) (addr_size (by omega)) (by decide) (hE.next HB0.out));rw [addr_vals] at HH;have HM:=hid (show ∀ r,hostP okP s=r→hostOut 1 (str s,0)=(match r with|some x=>(x.1,x.2,0)|none=>([],[],3)) from fun r hr=>by
  unfold hostOut;rw [if_neg (fun h=>absurd h.2 (by decide)),if_neg (fun h=>h rfl)];show (match hostP okP s with|some (h,p)=>(h,p,0)|none=>([],[],3))=_;rw [hr];cases r <;> rfl)
 have e0:str hostNm=(⟨#[72,111,115,116]⟩:ByteArray):=rfl;rw [e0] at HB0 HH;cases hr:hostP okP s with
 |none=>
  rw [HM.out _ hr] at HH;rw [show portOk none=false from rfl];obtain⟨S,hS⟩:∃ S,str s=S:=⟨_,rfl⟩;rw [hS] at hz HB0 HH ⊢;have g1:S.size≤128:=by omega
  have HH:=hid (show Calls Tryz.prog 265 #[.agg #[.string ⟨#[]⟩,.string ⟨#[]⟩,.int .i64 1,.slice (some ⟨w.heap.size,0,none⟩) 1 1]] (w.alloc (.cells #[.string ⟨#[72,111,115,116]⟩,.string S] 318 (0,0))) fun e w'=>e= .returned (.tuple #[.string ⟨#[]⟩,.string ⟨#[]⟩,.iface 63 (.int .i64 3)])∧Below (w.alloc (.cells #[.string ⟨#[72,111,115,116]⟩,.string S] 318 (0,0))).heap.size (w.alloc (.cells #[.string ⟨#[72,111,115,116]⟩,.string S] 318 (0,0))) w' from HH.out);clear hS hz h hs hE hr HM e0;go_enter Tryz.func221,Tryz.ntmps221;go_wp2_with (go_at_call 265;(with_reducible refine HH.out.mono ?_);rintro e w1 ⟨rfl,hw1⟩;have HB1:=hid (HB0.out.trans (hw1.mono HB0.out.size));clear hw1);go_ret;exact⟨rfl,HB1.out⟩
 |some r=>
  obtain⟨r1,r2⟩:=r;rw [HM.out _ hr] at HH;have HT:=hid (show r2≠ []→¬str r2=(⟨#[]⟩:ByteArray) from fun h=>ne_facts h);obtain⟨S,hS⟩:∃ S,str s=S:=⟨_,rfl⟩;rw [hS] at hz HB0 HH ⊢;have g1:S.size≤128:=by omega
  have HH:=hid (show Calls Tryz.prog 265 #[.agg #[.string ⟨#[]⟩,.string ⟨#[]⟩,.int .i64 1,.slice (some ⟨w.heap.size,0,none⟩) 1 1]] (w.alloc (.cells #[.string ⟨#[72,111,115,116]⟩,.string S] 318 (0,0))) fun e w'=>e= .returned (.tuple #[.string (str r1),.string (str r2),.nilIface])∧Below (w.alloc (.cells #[.string ⟨#[72,111,115,116]⟩,.string S] 318 (0,0))).heap.size (w.alloc (.cells #[.string ⟨#[72,111,115,116]⟩,.string S] 318 (0,0))) w' from HH.out);obtain⟨R1,hR1⟩:∃ R,str r1=R:=⟨_,rfl⟩;clear hS hz h hs hE hr HM e0;by_cases h0:r2= []
  · subst h0;rw [hR1] at HH;show Calls _ _ _ _ fun e w'=>e= .returned (.bool false)∧_
    clear hR1;go_enter Tryz.func221,Tryz.ntmps221;go_wp2_with (go_at_call 265;(with_reducible refine HH.out.mono ?_);rintro e w1 ⟨rfl,hw1⟩;have HB1:=hid (HB0.out.trans (hw1.mono HB0.out.size));clear hw1);go_ret;exact⟨rfl,HB1.out⟩
  · have f1:=HT.out h0;rw [show portOk (some (r1,r2))=true from decide_eq_true h0];obtain⟨R2,hR2⟩:∃ R,str r2=R:=⟨_,rfl⟩;rw [hR2] at f1;rw [hR1,hR2] at HH;have f2:(R2.toList== (⟨#[]⟩:ByteArray).toList)=false:=ne_list f1;have f3:R2.toList.isEmpty=false:=ne_empty f1;have f4:(R2.toList== [])=false:=by have h:=f2;rw [ByteArray.toList_eq,ByteArray.toList_eq] at h;rw [ByteArray.toList_eq];exact h
    clear hR1 hR2 h0 HT;go_enter Tryz.func221,Tryz.ntmps221;go_wp2_with (go_at_call 265;(with_reducible refine HH.out.mono ?_);rintro e w1 ⟨rfl,hw1⟩;have HB1:=hid (HB0.out.trans (hw1.mono HB0.out.size));clear hw1);go_ret;exact⟨rfl,HB1.out⟩
theorem pback_any (l:List BackC) (p:Option Addr) (n c:Nat) (hn:l.length=n) (hc:n≤c) (hz:∀ x∈l,x.addr.length≤140737488355328) (hnn:n≤140737488355328) (i:Nat) (x:BackC) (hx:l[i]?=some x) (w:World) (hE:MxAt w) (hB:BkAt w p l):Calls Tryz.prog 158 #[.slice p n c,.int .i64 (i:Int)] w fun e w'=>e= .returned (.string (str (backF askT l x i)))∧Below w.heap.size w w':=by
 have hin:i<n:=by rw [←hn];exact(List.getElem?_eq_some_iff.1 hx).1
 have HM:=hid (hz x (List.mem_of_getElem? hx));have HV:=hid (show backF askT l x i=(if (askT.addr x.addr && !(l.take i).any (fun a=>decide (a.addr=x.addr)))=false then n_addr else if inC x.wt 1 256=false then n_weight else []) from by unfold backF;rw [okBk_any]);have HTa:=hid (bk_take hB i);obtain⟨g1,o1,rfl,q0,q1⟩:=hB i x hx;rw [HV.out];have HTk:=hid (fun (W:World) (hb:Below w.heap.size w W)=>paddr_any x.addr HM.out W (hE.next hb));have HW1:=hid (fun W:World=>pwithin_any x.wt 1 256 W);have HB0:=hid (below_new w (.cells #[.string (str x.addr),.int .i64 x.wt] 145 (0,0)));have HX0:=hid (heap_alloc_new w (.cells #[.string (str x.addr),.int .i64 x.wt] 145 (0,0)));have HHas:=hid (fun (W:World) (hb:Below w.heap.size w W) (hg:W.cell? ⟨w.heap.size,0,none⟩=some (.string (str x.addr)))=>pbackhas_any (l.take i) (some ⟨g1,o1,none⟩) i c (by rw [List.length_take];omega) (by omega) x.addr w.heap.size W hg (HTa.out.next hb));obtain⟨b1,hb1⟩:∃ b,askT.addr x.addr=b:=⟨_,rfl⟩;obtain⟨b2,hb2⟩:∃ b,(l.take i).any (fun a=>decide (a.addr=x.addr))=b:=⟨_,rfl⟩;obtain⟨b3,hb3⟩:∃ b,inC x.wt 1 256=b:=⟨_,rfl⟩;rw [hb1] at HTk;rw [hb2] at HHas;rw [hb3] at HW1;rw [hb1,hb2,hb3,two_ifs];obtain⟨S,hS⟩:∃ S,str x.addr=S:=⟨_,rfl⟩;rw [hS] at q0 HTk HHas HB0 HX0;clear hE;clear hb1 hb2 hb3 hS hx hz hn hB HV HTa HM;cases b1
 · go_enter Tryz.func158,Tryz.ntmps158;go_wp2_with (go_at_call 221;(with_reducible refine(HTk.out _ HB0.out).mono ?_);rintro e w1 ⟨rfl,hw1⟩;have HB1:=hid (HB0.out.trans (hw1.mono HB0.out.size));have HX1:=hid (kB hw1 HX0.out);clear hw1);go_ret;exact⟨rfl,HB1.out⟩
 cases b2
 · cases b3;all_goals
    go_enter Tryz.func158,Tryz.ntmps158;go_wp2_with (first|(go_at_call 221;(with_reducible refine(HTk.out _ HB0.out).mono ?_);rintro e w1 ⟨rfl,hw1⟩;have HB1:=hid (HB0.out.trans (hw1.mono HB0.out.size));have HX1:=hid (kB hw1 HX0.out);clear hw1)|(go_at_call 222;(with_reducible refine(HHas.out _ HB1.out (cells2 HX1.out).1).mono ?_);rintro e w5 ⟨rfl,hw5⟩;have HB5:=hid (HB1.out.trans (hw5.mono HB1.out.size));have hX5:=kB hw5 HX1.out;obtain⟨y0,y1⟩:=cells2 hX5;clear hw5 hX5)|(go_at_call 92;(with_reducible refine(HW1.out _).mono ?_);rintro e w6 ⟨rfl,hw6⟩;subst w6));go_ret;exact⟨rfl,HB5.out⟩
 · go_enter Tryz.func158,Tryz.ntmps158;go_wp2_with (first|(go_at_call 221;(with_reducible refine(HTk.out _ HB0.out).mono ?_);rintro e w1 ⟨rfl,hw1⟩;have HB1:=hid (HB0.out.trans (hw1.mono HB0.out.size));have HX1:=hid (kB hw1 HX0.out);clear hw1)|(go_at_call 222;(with_reducible refine(HHas.out _ HB1.out (cells2 HX1.out).1).mono ?_);rintro e w5 ⟨rfl,hw5⟩;have HB5:=hid (HB1.out.trans (hw5.mono HB1.out.size));clear hw5));go_ret;exact⟨rfl,HB5.out⟩
def digC (d:Nat):UInt8:=if d<10 then UInt8.ofNat (48+d) else UInt8.ofNat (87+d)
def toldL (base:Nat):Nat→Nat→List UInt8→List UInt8
 |0,_,l=>l
 |f+1,n,l=>if n / base=0 then digC (n % base)::l else toldL base f (n / base) (digC (n % base)::l)
def told (base n:Nat):List UInt8:=toldL base 64 n []
theorem toldL_dec:∀ (f u:Nat) (l:List UInt8),u<10 ^ (f+1)→toldL 10 (f+1) u l=Lib.decDigits u++l
 |0,u,l,h=>by
  have hu:u<10:=by simpa using h
  rw [toldL,if_pos (by omega),Lib.decDigits_one hu,Nat.mod_eq_of_lt hu];simp [digC,hu]
 |f+1,u,l,h=>by
  rw [toldL];by_cases hu:u<10
  · rw [if_pos (by omega),Lib.decDigits_one hu,Nat.mod_eq_of_lt hu];simp [digC,hu]
  · have h1:u / 10<10 ^ (f+1):=by
     rw [Nat.div_lt_iff_lt_mul (by omega)];rw [Nat.pow_succ] at h;exact h
    have h3:u % 10<10:=Nat.mod_lt _ (by omega);have h4:Lib.decDigits u=Lib.decDigits (u / 10)++ [UInt8.ofNat (48+u % 10)]:=by
     conv=>lhs;rw [Lib.decDigits,dif_neg hu]
    rw [if_neg (by omega),toldL_dec f _ _ h1,h4];simp [digC,h3]
theorem told_dec (u:Nat) (h:u<18446744073709551616):told 10 u=Lib.decDigits u:=by
 have:=toldL_dec 63 u [] (Nat.lt_trans h (by decide));simpa [told] using this
theorem decFrom_snoc:∀ (l:List UInt8) (acc m:Nat) (c:UInt8) (d:Nat),Lib.decFrom acc l=some m→Lib.digitVal c=some d→Lib.decFrom acc (l++ [c])=some (m*10+d)
 | [],acc,m,c,d,h,hd=>by
  simp only [Lib.decFrom,Option.some.injEq] at h;subst h;simp [Lib.decFrom,hd]
 |b::r,acc,m,c,d,h,hd=>by
  simp only [List.cons_append,Lib.decFrom] at h ⊢;split at h
  · rename_i d' hd'
    exact decFrom_snoc r _ m c d h hd
  · cases h
theorem digit_of (d:Nat) (h:d<10):Lib.digitVal (UInt8.ofNat (48+d))=some d:=by
 have e:(UInt8.ofNat (48+d)).toNat=48+d:=by rw [UInt8.toNat_ofNat'];omega
 unfold Lib.digitVal;rw [e,if_pos (by omega)];congr 1;omega
theorem decFrom_dec:∀ (f u:Nat),u<10 ^ (f+1)→Lib.decFrom 0 (Lib.decDigits u)=some u
 |0,u,h=>by
  have hu:u<10:=by simpa using h
  rw [Lib.decDigits_one hu];simp only [Lib.decFrom,digit_of u hu,Nat.zero_mul,Nat.zero_add]
 |f+1,u,h=>by
  by_cases hu:u<10
  · rw [Lib.decDigits_one hu];simp only [Lib.decFrom,digit_of u hu,Nat.zero_mul,Nat.zero_add]
  · have h1:u / 10<10 ^ (f+1):=by
     rw [Nat.div_lt_iff_lt_mul (by omega)];rw [Nat.pow_succ] at h;exact h
    have h4:Lib.decDigits u=Lib.decDigits (u / 10)++ [UInt8.ofNat (48+u % 10)]:=by
     conv=>lhs;rw [Lib.decDigits,dif_neg hu]
    rw [h4,decFrom_snoc _ 0 _ _ _ (decFrom_dec f _ h1) (digit_of (u % 10) (by omega))];congr 1;omega
theorem dec_head (u:Nat):∃ d r,d<10∧Lib.decDigits u=UInt8.ofNat (48+d)::r:=by
 by_cases hu:u<10
 · exact⟨u,[],hu,Lib.decDigits_one hu⟩
 · obtain⟨d,r,h1,h2⟩:=dec_head (u / 10);refine⟨d,r++ [UInt8.ofNat (48+u % 10)],h1,?_⟩;conv=>lhs;rw [Lib.decDigits,dif_neg hu]
   rw [h2];rfl
theorem toldL_len:∀ (f u:Nat) (l:List UInt8),u<10 ^ (f+1)→(toldL 10 (f+1) u l).length≤f+1+l.length
 |0,u,l,h=>by
  have hu:u<10:=by simpa using h
  rw [toldL,if_pos (by omega)];simp;omega
 |f+1,u,l,h=>by
  rw [toldL];by_cases hu:u<10
  · rw [if_pos (by omega)];simp;omega
  · have h1:u / 10<10 ^ (f+1):=by
     rw [Nat.div_lt_iff_lt_mul (by omega)];rw [Nat.pow_succ] at h;exact h
    rw [if_neg (by omega)];have:=toldL_len f (u / 10) (digC (u % 10)::l) h1;simp at this;omega
theorem atoi_itoa (n:Nat) (h:n<1000000000000000000):Lib.atoiAll (Lib.itoa (n:Int))= .ok (n:Int):=by
 rw [Lib.itoa_nonneg];have hd:=decFrom_dec 17 n h;have hl:(Lib.decDigits n).length≤18:=by
  rw [←told_dec n (by omega)];have hln:=toldL_len 17 n [] h;rw [told_dec n (by omega)];rw [toldL_dec 17 n [] h] at hln;simpa using hln
 rw [Lib.atoiAll_short _ hl];obtain⟨d,r,h1,h2⟩:=dec_head n;rw [h2] at hd ⊢;have e:(UInt8.ofNat (48+d)).toNat=48+d:=by rw [UInt8.toNat_ofNat'];omega
 have e1:(UInt8.ofNat (48+d)== 45)=false:=by
  rw [beq_eq_false_iff_ne];intro q;rw [q] at e;simp at e;omega
 have e2:(UInt8.ofNat (48+d)== 43)=false:=by
  rw [beq_eq_false_iff_ne];intro q;rw [q] at e;simp at e;omega
 simp only [Lib.atoi,e1,e2,Lib.decNat,List.isEmpty_cons,Bool.false_eq_true,if_false,hd,Option.map_some,Lib.NumEnd.ofOption]
def JV.kind:JV→Int
 | .mk k _ _ _ _ _ _=>k
def JV.text:JV→B
 | .mk _ _ t _ _ _ _=>t
def JV.names:JV→List B
 | .mk _ _ _ _ _ _ ns=>ns
def JV.parts:JV→List JV
 | .mk _ _ _ _ _ ls _=>ls
def cutL_k:B→List B
 | []=>[[]]
 |b::l=>if b=46 then []::cutL_k l else match cutL_k l with
  | []=>[[b]]
  |p::r=>(b::p)::r
theorem cutL_ne_k (l:B):cutL_k l≠ []:=by
 cases l with
 |nil=>simp [cutL_k]
 |cons b l=>unfold cutL_k;split <;> (try split) <;> simp
theorem cutL_none_k:∀ l:B,(∀ x∈l,x≠46)→cutL_k l= [l]
 | [],_=>rfl
 |b::l,h=>by
  rw [cutL_k,if_neg (h b (by simp)),cutL_none_k l (fun x hx=>h x (by simp [hx]))]
theorem cutL_at_k:∀ (p l:B),(∀ x∈p,x≠46)→cutL_k (p++46::l)=p::cutL_k l
 | [],l,_=>by rw [List.nil_append,cutL_k,if_pos rfl]
 |b::p,l,h=>by
  rw [List.cons_append,cutL_k,if_neg (h b (by simp)),cutL_at_k p l (fun x hx=>h x (by simp [hx]))]
theorem cutL_len_k:∀ l:B,(cutL_k l).length≤l.length+1
 | []=>by simp [cutL_k]
 |b::l=>by
  have:=cutL_len_k l;unfold cutL_k;split
  · simp;omega
  · split
    · simp
    · rename_i h
      rw [h] at this;simp at this ⊢;omega
theorem cutL_piece:∀ (l p:B),p∈cutL_k l→p.length≤l.length
 | [],p,h=>by simp [cutL_k] at h;simp [h]
 |b::l,p,h=>by
  unfold cutL_k at h;split at h
  · rcases List.mem_cons.1 h with rfl|h
    · simp
    · have:=cutL_piece l p h;simp;omega
  · split at h
    · simp at h;subst h;simp
    · rename_i q r hq
      rcases List.mem_cons.1 h with rfl|h
      · have:=cutL_piece l q (by rw [hq];simp);simp;omega
      · have:=cutL_piece l p (by rw [hq];simp [h]);simp;omega
theorem cutL_join:∀ a b:B,cutL_k (a++46::b)=cutL_k a++cutL_k b
 | [],b=>by simp [cutL_k]
 |c::a,b=>by
  have e:∀ l:B,cutL_k (c::l)=if c=46 then []::cutL_k l else match cutL_k l with
   | []=>[[c]]
   |p::r=>(c::p)::r:=fun l=>by rw [cutL_k]
  rw [List.cons_append,e,e,cutL_join a b];by_cases hc:c=46
  · rw [if_pos hc,if_pos hc,List.cons_append]
  · rw [if_neg hc,if_neg hc];cases h:cutL_k a with
    |nil=>exact absurd h (cutL_ne_k a)
    |cons p r=>simp
def steps (p:B):List B:=if p= [] then [] else cutL_k p
theorem byte_miss_k:∀ l:B,Lib.indexByte l 46= -1→∀ x∈l,x≠46
 | [],_,x,hx=>by simp at hx
 |b::l,h,x,hx=>by
  unfold Lib.indexByte at h;split at h
  · simp at h
  · rename_i hb
    split at h
    · rename_i h2
      rcases List.mem_cons.1 hx with rfl|hx
      · simpa using hb
      · exact byte_miss_k l (by simpa using h2) x hx
    · rename_i h2
      have:=Lib.indexByte_ge l 46;simp at h2;omega
theorem byte_hit_k:∀ (l:B) (i:Nat),Lib.indexByte l 46=i→(∀ x∈l.take i,x≠46)∧l=l.take i++46::l.drop (i+1)
 | [],i,h=>by simp [Lib.indexByte] at h
 |b::l,i,h=>by
  unfold Lib.indexByte at h;split at h
  · rename_i hb
    have hi:i=0:=by omega
    subst hi;have hb':b=46:=by simpa using hb
    subst hb';simp
  · rename_i hb
    split at h
    · omega
    · rename_i h2
      have:=Lib.indexByte_ge l 46;simp at h2;obtain⟨j,rfl⟩:∃ j,i=j+1:=⟨i-1,by omega⟩;obtain⟨h3,h4⟩:=byte_hit_k l j (by omega);refine⟨?_,?_⟩
      · intro x hx;rw [List.take_succ_cons] at hx;rcases List.mem_cons.1 hx with rfl|hx
        · simpa using hb
        · exact h3 x hx
      · rw [List.take_succ_cons,List.drop_succ_cons,List.cons_append,←h4]
def point:ByteArray:={data:=#[46]}
theorem split_cut_k:∀ (n:Nat) (s:ByteArray),Lib.countB s point=n→(Lib.splitB point 0 n s).map (fun p=>p.data.toList)=cutL_k s.data.toList
 |n,s,h=>by
  have hx:Lib.indexB s point=Lib.indexByte s.data.toList 46:=Lib.index_one s.data.toList 46;by_cases hm:Lib.indexB s point= -1
  · rw [Lib.splitB_miss _ _ _ _ hm];rw [hx] at hm;rw [cutL_none_k _ (byte_miss_k _ hm)];rfl
  · have hge:=Lib.indexByte_ge s.data.toList 46;obtain⟨i,hi⟩:∃ i:Nat,Lib.indexB s point=i:=⟨(Lib.indexB s point).toNat,by omega⟩;have hc:=Lib.countB_hit s point i (by decide) hi;obtain⟨m,rfl⟩:∃ m,n=m+1:=⟨n-1,by omega⟩;rw [Lib.splitB_hit _ _ _ _ _ hi];have hrec:=split_cut_k m (s.extract (i+point.size) s.size) (by omega);rw [List.map_cons,hrec];rw [hx] at hi;obtain⟨h1,h2⟩:=byte_hit_k _ _ hi;have e:=cutL_at_k (s.data.toList.take i) (s.data.toList.drop (i+1)) h1;rw [←h2] at e;rw [e];have e1:(s.extract 0 (i+0)).data.toList=s.data.toList.take i:=by simp
    have e2:(s.extract (i+point.size) s.size).data.toList=s.data.toList.drop (i+1):=by
     rw [show point.size=1 from rfl];simp;rw [List.take_of_length_le (by simp)]
    rw [e1,e2]
def numAt (n:Nat) (s:B):Option Nat:=match Lib.atoiAll s with
 | .ok v=>if 0≤v∧v<n∧Lib.itoa v=s then some v.toNat else none
 |_=>none
theorem numAt_of {n i:Nat} (h:i<n) (hn:n≤1099511627776):numAt n (Lib.itoa (i:Int))=some i:=by
 unfold numAt;rw [atoi_itoa i (by omega)];show (if 0≤(i:Int)∧(i:Int)<n∧Lib.itoa (i:Int)=Lib.itoa (i:Int) then some (i:Int).toNat else none)=some i;rw [if_pos ⟨by omega,by omega,rfl⟩];simp
theorem numAt_spec {n:Nat}{s:B}{i:Nat} (h:numAt n s=some i):i<n∧Lib.itoa (i:Int)=s:=by
 unfold numAt at h;split at h
 · rename_i v hv
   split at h
   · rename_i hc
     simp only [Option.some.injEq] at h;have e:(i:Int)=v:=by omega
     rw [e];exact⟨by omega,hc.2.2⟩
   · cases h
 · cases h
def nameAt (m:Nat) (ns:List B) (s:B):Option Nat:=if ns.idxOf s<ns.length∧ns.idxOf s<m then some (ns.idxOf s) else none
def placeN:JV→B→Option Nat
 | .mk k _ _ _ _ ls ns,s=>if s= [] then none else if k=6 then nameAt ls.length ns s else if k=5 then numAt ls.length s else none
theorem place_nil (t:JV):placeN t []=none:=by
 cases t;simp [placeN]
theorem place_obj {b:Bool}{t:B}{n:Int}{h:Bool}{ls:List JV}{ns:List B}{s:B} (h0:s≠ []):placeN (.mk 6 b t n h ls ns) s=nameAt ls.length ns s:=by simp [placeN,h0]
theorem place_list {b:Bool}{t:B}{n:Int}{h:Bool}{ls:List JV}{ns:List B}{s:B} (h0:s≠ []):placeN (.mk 5 b t n h ls ns) s=numAt ls.length s:=by simp [placeN,h0]
theorem place_else {k:Int}{b:Bool}{t:B}{n:Int}{h:Bool}{ls:List JV}{ns:List B}{s:B} (h6:k≠6) (h5:k≠5):placeN (.mk k b t n h ls ns) s=none:=by simp [placeN,h6,h5]
theorem placeN_lt {k:Int}{b:Bool}{t:B}{n:Int}{h:Bool}{ls:List JV}{ns:List B}{s:B}{i:Nat} (hp:placeN (.mk k b t n h ls ns) s=some i):i<ls.length:=by
 simp only [placeN] at hp;split at hp
 · cases hp
 split at hp
 · unfold nameAt at hp;split at hp
   · simp only [Option.some.injEq] at hp;omega
   · cases hp
 split at hp
 · exact(numAt_spec hp).1
 · cases hp
def goto:JV→List B→Option JV
 |t,[]=>some t
 |t,s::r=>match placeN t s with
  |none=>none
  |some i=>match t.parts[i]? with
   |none=>none
   |some x=>goto x r
theorem goto_append:∀ (a b:List B) (t:JV),goto t (a++b)=(goto t a).bind fun x=>goto x b
 | [],b,t=>rfl
 |s::r,b,t=>by
  simp only [List.cons_append,goto];cases placeN t s with
  |none=>rfl
  |some i=>
   simp only;cases t.parts[i]? with
   |none=>rfl
   |some x=>exact goto_append r b x
theorem goto_none {t:JV}{s:B}{r:List B} (h:placeN t s=none):goto t (s::r)=none:=by simp only [goto,h]
theorem goto_some {t x:JV}{s:B}{r:List B}{i:Nat} (h:placeN t s=some i) (hx:t.parts[i]?=some x):goto t (s::r)=goto x r:=by simp only [goto,h,hx]
def codeN (r:Option JV):Nat:=if r.isSome then 0 else 8
def ofKind (k:Int) (r:Option JV):JV×Nat:=match r with
 |none=>(.zero,8)
 |some x=>if x.kind=k then (x,0) else (.zero,7)
def onlyN (r:JV×Nat) (names:List B):Nat:=if r.2≠0 then r.2 else if r.1.names.all (names.contains ·) then 0 else 10
end Go.Proofs.YtlmefgjhbohjlaaGreatDoor
