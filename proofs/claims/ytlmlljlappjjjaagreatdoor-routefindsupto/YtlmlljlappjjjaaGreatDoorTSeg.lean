/- Small functions of the program: how texts begin, which bytes they have, which segment a text is. -/
import Derived.Test.YtlmlljlappjjjaaGreatDoorTJoin
namespace Go.Proofs.YtlmlljlappjjjaaGreatDoor
set_option maxRecDepth 20000
set_option maxHeartbeats 4000000
open Go.RowKit
def begB (x:UInt8) (s:B):Bool:=match s with
 |c::_=>decide (c=x)
 | []=>false
theorem hasp_lite (x:UInt8) (s:B) (hs:s.length≤140737488355328) (w:World):Calls Tryz.prog 127 #[.string (str s),.string ⟨#[x]⟩] w fun e w'=>e= .returned (.bool (begB x s))∧w'=w:=by
 cases s with
 |nil=>
  show Calls Tryz.prog 127 #[.string ⟨#[]⟩,.string ⟨#[x]⟩] w _;have hz:(⟨#[x]⟩:ByteArray).size=1:=rfl;obtain⟨X,hX⟩:∃ X:ByteArray,⟨#[x]⟩=X:=⟨_,rfl⟩;rw [hX] at hz ⊢;clear hX;go_enter Tryz.func127,Tryz.ntmps127;go_wp2;go_ret;exact⟨rfl,rfl⟩
 |cons b t=>
  obtain⟨m,hm⟩:∃ m,t.length=m:=⟨_,rfl⟩;have hm2:m≤140737488355328:=by rw [←hm];simp at hs;omega
  obtain⟨S,hS⟩:∃ S,str (b::t)=S:=⟨_,rfl⟩;have hSn:S.size=m+1:=by rw [←hS,str_size,←hm];rfl
  have hx1:S.extract 0 1=str [b]:=by rw [←hS,ext_str];rfl
  obtain⟨X,hX⟩:∃ X:ByteArray,⟨#[x]⟩=X:=⟨_,rfl⟩;have hz:X.size=1:=by rw [←hX];rfl
  by_cases hc:b=x
  · have hx2:S.extract 0 1=X:=by rw [hx1,hc];exact hX
    have hv:begB x (b::t)=true:=decide_eq_true hc;rw [hv,hS,hX];clear hS hX hc hv hm hx1;go_enter Tryz.func127,Tryz.ntmps127;go_wp2;go_ret;exact⟨rfl,rfl⟩
  · have hx2:¬S.extract 0 1=X:=fun e=>hc (by
     rw [hx1,←hX] at e;have:=congrArg (fun a:ByteArray=>a.data.toList) e;simpa using this)
    have hx3:((S.extract 0 1).toList== X.toList)=false:=ne_list hx2;have hv:begB x (b::t)=false:=decide_eq_false hc;rw [hv,hS,hX];clear hS hX hc hv hm hx1;go_enter Tryz.func127,Tryz.ntmps127;go_wp2;go_ret;exact⟨rfl,rfl⟩
theorem hasp_any (x:UInt8) (s:B) (hs:s.length≤140737488355328) (w:World):Calls Tryz.prog 87 #[.string (str s),.string ⟨#[x]⟩] w fun e w'=>e= .returned (.bool (begB x s))∧w'=w:=by
 have HL:=hid (fun W:World=>hasp_lite x s hs W);obtain⟨S,hS⟩:∃ S,str s=S:=⟨_,rfl⟩;obtain⟨X,hX⟩:∃ X:ByteArray,⟨#[x]⟩=X:=⟨_,rfl⟩;rw [hS,hX] at HL ⊢;go_enter Tryz.func87,Tryz.ntmps87;go_wp2_with (go_at_call 127;(with_reducible refine(HL.out _).mono ?_);rintro e w1 ⟨rfl,hw1⟩;subst w1);go_ret;exact⟨rfl,rfl⟩
theorem begins_any (s:B) (hs:s.length≤140737488355328) (w:World):Calls Tryz.prog 109 #[.string (str s)] w fun e w'=>e= .returned (.bool (begB 47 s))∧w'=w:=by
 have HL:=hid (fun W:World=>hasp_any 47 s hs W);obtain⟨S,hS⟩:∃ S,str s=S:=⟨_,rfl⟩;rw [hS] at HL ⊢;go_enter Tryz.func109,Tryz.ntmps109;go_wp2_with (go_at_call 87;(with_reducible refine(HL.out _).mono ?_);rintro e w1 ⟨rfl,hw1⟩;subst w1);go_ret;exact⟨rfl,rfl⟩
def cutP (x:UInt8) (s:B):B:=if begB x s then s.tail else s
theorem cutp_lite (x:UInt8) (s:B) (hs:s.length≤140737488355328) (w:World):Calls Tryz.prog 176 #[.string (str s),.string ⟨#[x]⟩] w fun e w'=>e= .returned (.tuple #[.string (str (cutP x s)),.bool (begB x s)])∧w'=w:=by
 have HL:=hid (fun W:World=>hasp_lite x s hs W);obtain⟨n,hn⟩:∃ n,s.length=n:=⟨_,rfl⟩;obtain⟨S,hS⟩:∃ S,str s=S:=⟨_,rfl⟩;have hSn:S.size=n:=by rw [←hS,str_size,hn]
 obtain⟨X,hX⟩:∃ X:ByteArray,⟨#[x]⟩=X:=⟨_,rfl⟩;have hz:X.size=1:=by rw [←hX];rfl
 cases hb:begB x s with
 |false=>
  have e1:str (cutP x s)=S:=by unfold cutP;rw [hb,if_neg (by decide)];exact hS
  rw [hb] at HL;rw [e1];rw [hS,hX] at HL ⊢;clear hS hX hb e1;go_enter Tryz.func176,Tryz.ntmps176;go_wp2_with (go_at_call 127;(with_reducible refine(HL.out _).mono ?_);rintro e w1 ⟨rfl,hw1⟩;subst w1);go_ret2;exact⟨rfl,rfl⟩
 |true=>
  have h1:1≤n:=by
   rw [←hn];cases s with
   |nil=>cases hb
   |cons _ _=>simp
  have HE:=hid (show S.extract 1 n=str (cutP x s) from by rw [←hS,ext_drop s 1 n hn];unfold cutP;rw [hb,if_pos rfl,List.drop_one]);obtain⟨T,hT⟩:∃ T,str (cutP x s)=T:=⟨_,rfl⟩;have hn2:n≤140737488355328:=by omega
  rw [hT] at HE ⊢;rw [hb] at HL;rw [hS,hX] at HL ⊢;have he:=HE.out;clear hS hX hb hT hn HE;go_enter Tryz.func176,Tryz.ntmps176;go_wp2_with (go_at_call 127;(with_reducible refine(HL.out _).mono ?_);rintro e w1 ⟨rfl,hw1⟩;subst w1);go_ret2;exact⟨rfl,rfl⟩
theorem cutp_any (x:UInt8) (s:B) (hs:s.length≤140737488355328) (w:World):Calls Tryz.prog 155 #[.string (str s),.string ⟨#[x]⟩] w fun e w'=>e= .returned (.tuple #[.string (str (cutP x s)),.bool (begB x s)])∧w'=w:=by
 have HL:=hid (fun W:World=>cutp_lite x s hs W);obtain⟨S,hS⟩:∃ S,str s=S:=⟨_,rfl⟩;obtain⟨X,hX⟩:∃ X:ByteArray,⟨#[x]⟩=X:=⟨_,rfl⟩;rw [hS,hX] at HL ⊢;go_enter Tryz.func155,Tryz.ntmps155;go_wp2_with (go_at_call 176;(with_reducible refine(HL.out _).mono ?_);rintro e w1 ⟨rfl,hw1⟩;subst w1);go_ret2;exact⟨rfl,rfl⟩
def visU (c:UInt8):Bool:=visB (c.toNat:Int)
def tokT (s:B):Bool:=isTok (str s)
theorem vis_stop {s:B}{k:Nat} (h:k<s.length) (hv:visU s[k]=false):s.all visU=false:=by
 rw [List.all_eq_false];exact⟨s[k],List.getElem_mem h,by simp [hv]⟩
theorem isvis_any (s:B) (hs:s.length≤140737488355328) (w:World):Calls Tryz.prog 156 #[.string (str s)] w fun e w'=>e= .returned (.bool (s.all visU))∧w'=w:=by
 obtain⟨n,hn⟩:∃ n,s.length=n:=⟨_,rfl⟩;have HN:=hid hn;obtain⟨S,hS⟩:∃ S,str s=S:=⟨_,rfl⟩;have hSn:S.size=n:=by rw [←hS,str_size,hn]
 have HByte:=hid (show ∀ (k:Nat) (h:k<s.length) (h2:k<S.size),S[k]'h2=s[k]'h from fun k h h2=>by subst hS;rfl);have hn2:n≤140737488355328:=by omega
 rw [hS];clear hS hn hs;go_enter Tryz.func156,Tryz.ntmps156;go_wp2;go_loop [6] (fun i=>∃ k:Nat,k≤n∧i= .int .i64 k∧(s.take k).all visU=true) (fun i=>n-(intOf i).toNat)
 case atStart=>exact⟨0,Nat.zero_le _,rfl,rfl⟩
 case round=>
  obtain⟨k,hk,rfl,hall⟩:=hrel;by_cases hlt:k<n
  · have h3:k<s.length:=by rw [HN.out];exact hlt
    obtain⟨y,hy⟩:∃ y,s[k]=y:=⟨_,rfl⟩;obtain⟨Y,hY⟩:∃ Y:Nat,y.toNat=Y:=⟨_,rfl⟩;have hY256:Y<256:=by rw [←hY];exact y.toNat_lt
    have hbyte:∀ h:k<S.size,(S[k]'h).toNat=Y:=fun h=>by rw [HByte.out k h3 h,hy,hY]
    have hvy:visU y=visB (Y:Int):=by unfold visU;rw [hY]
    have HA:=hid hall;have HT:=hid (show (s.take (k+1)).all visU=(visB (Y:Int)) from by rw [List.take_succ_eq_append_getElem h3,List.all_append,hall,hy];simp [hvy]);have HF:=hid (show visB (Y:Int)=false→s.all visU=false from fun h=>vis_stop h3 (by rw [hy,hvy];exact h));clear hy hY hall hvy;cases hv:visB (Y:Int) with
    |true=>
     go_wp2_with (go_at_call 177;refine(visible_any _ _ (by omega) (by omega)).mono ?_;rintro e w' ⟨rfl,rfl⟩);go_round
     case rel=>exact⟨k+1,by omega,by go_num,by rw [HT.out,hv]⟩
     case measure=>simp [intOf];omega
    |false=>
     go_wp2_with (go_at_call 177;refine(visible_any _ _ (by omega) (by omega)).mono ?_;rintro e w' ⟨rfl,rfl⟩);go_ret;exact⟨ret_bool (HF.out hv).symm,rfl⟩
  · obtain rfl:n=k:=by omega
    have HA:=hid (show s.all visU=true from by rw [List.take_of_length_le (by rw [HN.out];exact Nat.le_refl _)] at hall;exact hall);clear hall;go_wp2;go_ret;exact⟨ret_bool HA.out.symm,rfl⟩
def segX (x:B):B:=if kindT x=0 then x else x.tail
def okS (x:B):Bool:=if kindT x=0 then x.all visU else tokT x.tail
theorem beg_colon (x:B):begB 58 x=decide (kindT x=1):=by
 unfold begB kindT;split
 · rename_i c t
   by_cases h:c=58
   · simp [h]
   · by_cases h2:c=42 <;> simp [h,h2]
 · rfl
theorem beg_star {x:B} (h1:¬kindT x=1):begB 42 x=decide (kindT x=2):=by
 unfold begB;unfold kindT at h1 ⊢;split
 · rename_i c t
   by_cases h:c=58
   · simp [h] at h1
   · by_cases h2:c=42 <;> simp [h,h2]
 · rfl
theorem seg_size:(Tryz.prog.info? 174).map (·.size)=some 2:=by kernel_rfl
theorem results_seg {fn:Func}{p u:Tmp} (h:fn.results= #[.cell p 174,.tmp u]) (tmps:Array Value) (w:World) (g:Nat) (t:TypeId) (cs:Array Value) (fr:Nat×Nat)
  (hp:tmps.getD p undef= .pointer (some ⟨g,0,none⟩)) (hg:w.heap[g]?=some (.cells cs t fr)) (hs:cs.size=2):(results fn tmps).run Tryz.prog w= .ok (.tuple #[.agg cs,tmps.getD u undef]) w:=by
 have hl:=run_loadVar_row (P:=Tryz.prog) w g t 174 cs fr _ hg Tryz.underlying174 rfl (by rw [seg_size,hs]);rw [results_cell_tmp h,hp];simp [asAddr,Result.andThen,hl]
theorem segof_any (x:B) (hx:x.length≤140737488355328) (w:World):Calls Tryz.prog 134 #[.string (str x)] w fun e w'=>e= .returned (.tuple #[.agg #[.int .i64 (kindT x:Int),.string (str (segX x))],.bool (okS x)])∧Below w.heap.size w w':=by
 have HC:=hid (fun W:World=>cutp_any 58 x hx W);have HC2:=hid (fun W:World=>cutp_any 42 x hx W);have HV:=hid (fun W:World=>isvis_any x hx W);have HT:=hid (fun W:World=>istoken_any (str x.tail) W (by rw [str_size,List.length_tail];unfold maxLen;omega));rw [beg_colon] at HC;unfold cutP at HC HC2;rw [beg_colon] at HC;have hk:=kindT_le x;by_cases h1:kindT x=1
 · have e1:segX x=x.tail:=by unfold segX;rw [if_neg (by omega)]
   have e2:okS x=isTok (str x.tail):=by unfold okS;rw [if_neg (by omega)];rfl
   rw [e1,e2,h1];rw [decide_eq_true h1,if_pos rfl] at HC;obtain⟨S,hS⟩:∃ S,str x=S:=⟨_,rfl⟩;obtain⟨T,hT⟩:∃ T,str x.tail=T:=⟨_,rfl⟩;rw [hS,hT] at HC;rw [hT] at HT;rw [hS,hT];clear hS hT HC2 HV e1 e2 h1 hk;go_enter Tryz.func134,Tryz.ntmps134;go_wp2_with (first|(go_at_call 155;(with_reducible refine(HC.out _).mono ?_);rintro e w1 ⟨rfl,hw1⟩;subst w1)|(go_at_call 40;(with_reducible refine(HT.out _).mono ?_);rintro e w1 ⟨rfl,hw1⟩;subst w1));refine bodyPost_ret (results_seg rfl _ _ _ 174 _ (0,0) rfl (heap_alloc_new w _) rfl) rfl ?_;exact⟨rfl,below_new w _⟩
 · rw [beg_star h1] at HC2;rw [decide_eq_false h1,if_neg (by decide)] at HC;by_cases h2:kindT x=2
   · have e1:segX x=x.tail:=by unfold segX;rw [if_neg (by omega)]
     have e2:okS x=isTok (str x.tail):=by unfold okS;rw [if_neg (by omega)];rfl
     rw [e1,e2,h2];rw [decide_eq_true h2,if_pos rfl] at HC2;obtain⟨S,hS⟩:∃ S,str x=S:=⟨_,rfl⟩;obtain⟨T,hT⟩:∃ T,str x.tail=T:=⟨_,rfl⟩;rw [hS] at HC;rw [hS,hT] at HC2;rw [hT] at HT;rw [hS,hT];clear hS hT HV e1 e2 h1 h2 hk;go_enter Tryz.func134,Tryz.ntmps134;go_wp2_with (first|(go_at_call 155;first|((with_reducible refine(HC.out _).mono ?_);rintro e w1 ⟨rfl,hw1⟩;subst w1)|((with_reducible refine(HC2.out _).mono ?_);rintro e w1 ⟨rfl,hw1⟩;subst w1))|(go_at_call 40;(with_reducible refine(HT.out _).mono ?_);rintro e w1 ⟨rfl,hw1⟩;subst w1));refine bodyPost_ret (results_seg rfl _ _ _ 174 _ (0,0) rfl (heap_alloc_new w _) rfl) rfl ?_;exact⟨rfl,below_new w _⟩
   · have h0:kindT x=0:=by omega
     have e1:segX x=x:=by unfold segX;rw [if_pos h0]
     have e2:okS x=x.all visU:=by unfold okS;rw [if_pos h0]
     rw [e1,e2,h0];rw [decide_eq_false h2,if_neg (by decide)] at HC2;obtain⟨S,hS⟩:∃ S,str x=S:=⟨_,rfl⟩;obtain⟨bv,hbv⟩:∃ bv,x.all visU=bv:=⟨_,rfl⟩;rw [hS] at HC HC2 HV;rw [hbv] at HV ⊢;rw [hS];clear hS hbv e1 e2 h1 h2 h0 hk HT;go_enter Tryz.func134,Tryz.ntmps134;go_wp2_with (first|(go_at_call 155;first|((with_reducible refine(HC.out _).mono ?_);rintro e w1 ⟨rfl,hw1⟩;subst w1)|((with_reducible refine(HC2.out _).mono ?_);rintro e w1 ⟨rfl,hw1⟩;subst w1))|(go_at_call 156;(with_reducible refine(HV.out _).mono ?_);rintro e w1 ⟨rfl,hw1⟩;subst w1));refine bodyPost_ret (results_seg rfl _ _ _ 174 _ (0,0) rfl (heap_alloc_new w _) rfl) rfl ?_;exact⟨rfl,below_new w _⟩
theorem index_any (l:List B) (p:Option Addr) (n c:Nat) (hn:l.length=n) (hnn:n≤140737488355328) (y:B) (w:World) (hT:TxAt w p l):Calls Tryz.prog 75 #[.slice p n c,.string (str y)] w fun e w'=>(∃ r:Int,e= .returned (.int .i64 r)∧decide (0≤r)=l.contains y)∧w'=w:=by
 have HN:=hid hn;have HT:=hid hT;obtain⟨Y,hY⟩:∃ Y,str y=Y:=⟨_,rfl⟩;have HY:=hid hY;rw [hY];clear hn hT hY;go_enter Tryz.func75,Tryz.ntmps75;go_wp2;go_loopg [8] (n+1) (fun gk s8 wr=>∃ i:Nat,i≤n∧gk=n-i+1∧s8= .int .i64 (i:Int)∧(l.take i).contains y=false∧wr=w)
 case atStart=>exact⟨0,by omega,rfl,rfl,rfl,rfl⟩
 case round=>
  obtain⟨i,hi,rfl,rfl,hno,rfl⟩:=hrel;have HNo:=hid hno;clear hno;by_cases hin:i<n
  · obtain⟨a,ha⟩:∃ a,l[i]?=some a:=⟨_,List.getElem?_eq_getElem (by rw [HN.out];exact hin)⟩;obtain⟨g,o,rfl,hc⟩:=HT.out i a ha;obtain⟨Sa,hSa⟩:∃ S,str a=S:=⟨_,rfl⟩;rw [hSa] at hc;have HA:=hid ha;by_cases hab:y=a
    · obtain rfl:Sa=Y:=by rw [←hSa,←HY.out,hab]
      have HR:=hid (show l.contains y=true from by rw [List.contains_iff_mem,hab];exact List.mem_of_getElem? ha);clear ha hSa hab;go_wp2;go_ret;exact⟨⟨_,rfl,by rw [HR.out];exact decide_eq_true (by omega)⟩,rfl⟩
    · have hS:¬Y=Sa:=fun h=>hab (str_inj (by rw [HY.out,hSa,h]))
      have hS4:(Y.toList== Sa.toList)=false:=ne_list hS;have HR:=hid (show (l.take (i+1)).contains y=false from by
       rw [List.take_add_one,ha];have h1:=HNo.out;rw [List.contains_eq_mem,decide_eq_false_iff_not] at h1 ⊢;simp;exact⟨h1,hab⟩)
      clear ha hSa hab;go_wp2;go_roundg (n-(i+1)+1)
      case measure=>omega
      case rel=>exact⟨i+1,by omega,rfl,by push_cast;go_num,HR.out,rfl⟩
  · obtain rfl:n=i:=by omega
    have HR:=hid (show l.contains y=false from by have h1:=HNo.out;rw [List.take_of_length_le (by rw [HN.out];exact Nat.le_refl _)] at h1;exact h1);go_wp2;go_ret;exact⟨⟨-1,rfl,by rw [HR.out];rfl⟩,rfl⟩
theorem contains_any (l:List B) (p:Option Addr) (n c:Nat) (hn:l.length=n) (hnn:n≤140737488355328) (y:B) (w:World) (hT:TxAt w p l):Calls Tryz.prog 41 #[.slice p n c,.string (str y)] w fun e w'=>e= .returned (.bool (l.contains y))∧w'=w:=by
 have HI:=hid (index_any l p n c hn hnn y w hT);obtain⟨Y,hY⟩:∃ Y,str y=Y:=⟨_,rfl⟩;rw [hY] at HI ⊢;obtain⟨v,hv⟩:∃ v,l.contains y=v:=⟨_,rfl⟩;rw [hv] at HI ⊢;clear hv hY hT hn;go_enter Tryz.func41,Tryz.ntmps41;go_wp2_with (go_at_call 75;(with_reducible refine HI.out.mono ?_);rintro e w1 ⟨⟨r,rfl,hr⟩,hw1⟩;subst w1);go_ret;exact⟨rfl,rfl⟩
end Go.Proofs.YtlmlljlappjjjaaGreatDoor
