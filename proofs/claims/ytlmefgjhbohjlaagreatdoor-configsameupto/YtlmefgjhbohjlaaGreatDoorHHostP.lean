/- A text without the blanks at its ends, of package chars and the document's. -/
import Derived.Test.YtlmefgjhbohjlaaGreatDoorShelf
import Derived.Test.YtlmefgjhbohjlaaGreatDoorSPlain
namespace Go.Proofs.YtlmefgjhbohjlaaGreatDoor
set_option maxRecDepth 20000
set_option maxHeartbeats 8000000
open Go.RowKit
def blankB (c:Int):Bool:=decide (c=32∨c=9)
def bl (b:UInt8):Bool:=blankB (b.toNat:Int)
def trimL (l:List UInt8):List UInt8:=((l.dropWhile bl).reverse.dropWhile bl).reverse
theorem clone_any (s:ByteArray) (w:World) (hs:s.size≤281474976710656):
 Calls Tryz.prog 200 #[.string s] w fun e w'=>e= .returned (.string s)∧Below w.heap.size w w':=by
 go_enter Tryz.func200,Tryz.ntmps200;go_wp2_with (go_at_call 251;refine(Tryz.stringslite_Clone _ _ hs).mono ?_;rintro e w' ⟨rfl,hb⟩);go_ret;exact⟨rfl,by assumption⟩
theorem info9:(Tryz.prog.info? 9).map (fun i=>(i.zero,i.size,i.bytes))=some (some (.string ByteArray.empty),1,16):=by kernel_rfl
def strVL (s:ByteArray):Value:=.string s
theorem own_over {w w':World}{B n:Nat}{e:TypeId}{size:Nat}{v:Value}{xs:List Value} (h:w.ownsRow B e size v n xs) (hb:Below w.heap.size w w'):w'.ownsRow B e size v n xs:=by
 refine⟨h.1,?_⟩;rcases h.2 with h'|⟨g,cap,cur,e1,e2,e3,e4⟩
 · exact .inl h'
 · exact .inr ⟨g,cap,cur,e1,e2,(hb.block g (by
    rcases Nat.lt_or_ge g w.heap.size with h|h
    · exact h
    · rw [Array.getElem?_eq_none h] at e3;cases e3)).trans e3,e4⟩
theorem own_cellL {W:World}{B n:Nat}{v:Value}{L:List ByteArray} (h:W.ownsRow B 9 1 v n (L.map strVL)) (h0:0<n):∃ g cap,v= .slice (some ⟨g,0,none⟩) n cap∧∀ j p,L[j]?=some p→W.cell? ⟨g,j,none⟩=some (.string p):=by
 have hl:L.length=n:=by have:=h.1;simpa using this
 rcases h.2 with ⟨_,h'⟩|⟨g,cap,cur,rfl,_⟩
 · omega
 · refine⟨g,cap,rfl,fun j p hp=>?_⟩;have hj:j<L.length:=by
    rcases Nat.lt_or_ge j L.length with h'|h'
    · exact h'
    · rw [List.getElem?_eq_none h'] at hp;cases hp
   rw [h.cellAt j (by omega)];simp [hp,strVL]
def sameB (a b:ByteArray):Bool:=decide (lowS a=lowS b)
theorem lowL_len (a:ByteArray):(lowL a).length=a.size:=by simp [lowL]
theorem lowL_at (a:ByteArray) (k:Nat) (h:k<a.size):(lowL a)[k]?=some (smallU a[k]):=by
 unfold lowL;rw [List.getElem?_map,List.getElem?_eq_getElem (by simpa using h)];rfl
theorem lowS_inj {a b:ByteArray}:lowS a=lowS b↔lowL a=lowL b:=by
 constructor
 · intro h;have:=congrArg (fun x:ByteArray=>x.data.toList) h;simpa [lowS] using this
 · intro h;unfold lowS;rw [h]
theorem small_eq_iff (x y:UInt8):smallV (x.toNat:Int)=smallV (y.toNat:Int)↔smallU x=smallU y:=by
 rw [←smallU_val,←smallU_val];constructor
 · intro h;exact UInt8.toNat_inj.1 (by omega)
 · intro h;rw [h]
theorem same_size {a b:ByteArray} (h:¬a.size=b.size):sameB a b=false:=by
 unfold sameB;rw [decide_eq_false_iff_not,lowS_inj];intro e;have:=congrArg List.length e;rw [lowL_len,lowL_len] at this;exact h this
theorem same_stop {a b:ByteArray}{k:Nat} (ha:k<a.size) (hb:k<b.size) (h:¬smallV (a[k].toNat:Int)=smallV (b[k].toNat:Int)):sameB a b=false:=by
 unfold sameB;rw [decide_eq_false_iff_not,lowS_inj];intro e;have:=congrArg (·[k]?) e;simp only [lowL_at a k ha,lowL_at b k hb,Option.some.injEq] at this;exact h ((small_eq_iff _ _).2 this)
def likeTo (a b:ByteArray) (k:Nat):Prop:=(lowL a).take k=(lowL b).take k
theorem likeTo_step {a b:ByteArray}{k:Nat} (ha:k<a.size) (hb:k<b.size) (h:smallV (a[k].toNat:Int)=smallV (b[k].toNat:Int)) (hl:likeTo a b k):likeTo a b (k+1):=by
 unfold likeTo at*;rw [List.take_add_one,List.take_add_one,hl,lowL_at a k ha,lowL_at b k hb,(small_eq_iff _ _).1 h]
theorem likeTo_end {a b:ByteArray} (hs:a.size=b.size) (hl:likeTo a b a.size):sameB a b=true:=by
 unfold likeTo at hl;rw [List.take_of_length_le (by rw [lowL_len];omega),List.take_of_length_le (by rw [lowL_len];omega)] at hl;unfold sameB;rw [decide_eq_true_eq,lowS_inj];exact hl
theorem same_any (a b:ByteArray) (w:World) (ha:a.size≤maxLen) (hb:b.size≤maxLen):
 Calls Tryz.prog 373 #[.string a,.string b] w fun e w'=>e= .returned (.bool (sameB a b))∧∃ m,w'=w.drewN m:=by
 unfold maxLen at ha hb;by_cases hs:a.size=b.size
 · have hs':(a.size:Int)=(b.size:Int):=by omega
   have HS:=Lib.hid hs;have hle:b.size≤a.size:=by omega
   go_enter Tryz.func373,Tryz.ntmps373;go_wp2;clear hs hs';go_loopw [13] (fun i W=>∃ k m:Nat,k≤b.size∧i= .int .i64 k∧W=w.drewN m∧likeTo a b k) (fun i _=>b.size-(intOf i).toNat)
   case atStart=>exact⟨0,0,Nat.zero_le _,rfl,rfl,rfl⟩
   case round=>
    obtain⟨k,m,hk,rfl,hW,hl⟩:=hrel
    rename World=>wr
    have HW:=Lib.hid hW;clear hW;by_cases hlt:k<b.size
    · have hlta:k<a.size:=by omega
      have hlti:(k:Int)<(a.size:Int):=by omega
      have hba:=a[k].toNat_lt;have hbb:=b[k].toNat_lt;by_cases he:smallV (a[k].toNat:Int)=smallV (b[k].toNat:Int)
      · have hl':=likeTo_step hlta hlt he hl;have he':=Lib.hid he;have hbe:(smallV (a[k].toNat:Int)== smallV (b[k].toNat:Int))=true:=by simpa using he
        clear he hl;go_wp2;go_quiet ((go_at_call 337;exact Calls.quiet_of_same (small_any _ _ (by omega) (by omega))));go_wp2;go_roundw
        case rel=>exact⟨k+1,m+nq,by omega,by go_num,by rw [HW.out,World.drewN_drewN],hl'⟩
        case measure=>simp [intOf];omega
      · have hF:=Lib.hid (same_stop hlta hlt he);have hbe:(smallV (a[k].toNat:Int)== smallV (b[k].toNat:Int))=false:=by simpa using he
        go_wp2;go_quiet ((go_at_call 337;exact Calls.quiet_of_same (small_any _ _ (by omega) (by omega))));go_wp2;go_ret;exact⟨ret_bool hF.out.symm,m+nq,by rw [HW.out,World.drewN_drewN]⟩
    · have hT:=Lib.hid (likeTo_end HS.out (by rw [HS.out,show b.size=k by omega];exact hl));go_wp2;go_ret;exact⟨ret_bool hT.out.symm,m,HW.out⟩
 · have hF:=Lib.hid (same_size hs);have hs':¬(a.size:Int)=(b.size:Int):=by omega
   have hb':=hb;go_enter Tryz.func373,Tryz.ntmps373;go_wp2;go_ret;exact⟨ret_bool hF.out.symm,0,rfl⟩
def clsB (k:Nat) (c:UInt8):Bool:=if k=1 then visB (c.toNat:Int) else if k=2 then valB (c.toNat:Int) else tokB (c.toNat:Int)
def allB (k:Nat) (s:B):Bool:=s.all (clsB k)
def ver0:B:=[72,84,84,80,47,49,46,48]
def ver1:B:=[72,84,84,80,47,49,46,49]
def beginsB (s:B) (whole:Bool):Bool:=if s.length > 8∨(whole=true∧s.length≠8) then false else (ver0.take s.length== s || ver1.take s.length== s)
def fieldB (s:B) (whole:Bool):Bool:=if (cutF 58 s).2.2 then decide (0<(cutF 58 s).1.length) && allB 0 (cutF 58 s).1 && allB 2 (cutF 58 s).2.1 else !whole && allB 0 s
def restB (t:B) (whole:Bool):Bool:=if (cutF 32 t).2.2 then decide (0<(cutF 32 t).1.length) && allB 1 (cutF 32 t).1 && beginsB (cutF 32 t).2.1 whole else !whole && allB 1 t
def requestB (s:B) (whole:Bool):Bool:=if (cutF 32 s).2.2 then decide (0<(cutF 32 s).1.length) && allB 0 (cutF 32 s).1 && restB (cutF 32 s).2.1 whole else !whole && allB 0 s
def okD (i:Nat) (c:UInt8):Bool:=digB (c.toNat:Int) && !(decide (i=9) && (decide (c.toNat=48) || decide (53<c.toNat)))
def okB (s:B):Bool:=[9,10,11].all fun i=>(s[i]?.map (okD i)).getD true
def statusB (s:B) (whole:Bool):Bool:=if s.length≤8 then !whole && beginsB s false else if beginsB (s.take 8) true=false∨s[8]? ≠some 32 then false else if okB s=false then false else if s.length<13 then !whole else decide (s[12]?=some 32) && allB 2 (s.drop 13)
def goesB (resp:Bool) (ln:Nat) (s:B) (wh:Bool):Bool:=if 0<ln then fieldB s wh else if resp then statusB s wh else requestB s wh
structure HS where
 resp:Bool
 most:Int
 lines:List B
 line:B
 len:Nat
 done:Bool
 err:Nat
theorem has_seven {w:World}{g:Nat}{T:TypeId}{fr:Nat×Nat}{x0 x1 x2 x3 x4 x5 x6:Value} (h:w.heap[g]?=some (.cells #[x0,x1,x2,x3,x4,x5,x6] T fr)):∃ cs:Array Value,cs.size=7∧w.heap[g]?=some (.cells cs T fr):=⟨_,rfl,h⟩
theorem seven_put {w:World}{g:Nat}{T:TypeId}{fr:Nat×Nat} (h:∃ cs:Array Value,cs.size=7∧w.heap[g]?=some (.cells cs T fr)) (c0 c1 c2 c3 c4 c5 c6:Value):
 (((((((w.setCell ⟨g,0,none⟩ c0).setCell ⟨g,1,none⟩ c1).setCell ⟨g,2,none⟩ c2).setCell ⟨g,3,none⟩ c3).setCell ⟨g,4,none⟩ c4).setCell ⟨g,5,none⟩ c5).setCell ⟨g,6,none⟩ c6).heap[g]?=some (.cells #[c0,c1,c2,c3,c4,c5,c6] T fr):=by
 obtain⟨⟨l⟩,hs,h⟩:=h;rcases l with _|⟨x0,_|⟨x1,_|⟨x2,_|⟨x3,_|⟨x4,_|⟨x5,_|⟨x6,_|⟨x7,r⟩⟩⟩⟩⟩⟩⟩⟩ <;> simp at hs
 · simp [World.setCell,Array.getElem?_modify,h]
def okDg (base c:Int):Bool:=hexB c && decide (hexV c<base)
def digTo (base:Int) (s:ByteArray) (k:Nat):Bool:=(s.data.toList.take k).all fun b=>okDg base (b.toNat:Int)
def digAll (base:Int) (s:ByteArray):Bool:=decide (s.size≠0) && digTo base s s.size
def numL (base most:Int):List UInt8→Int→Option Int
 | [],n=>some n
 |b::r,n=>if hexV (b.toNat:Int) > most∨n > (most-hexV (b.toNat:Int)) / base then .none else numL base most r (n*base+hexV (b.toNat:Int))
def numN (base most:Int) (s:ByteArray):Int:=
 if most<0 then 0 else if digAll base s=false then 0 else (numL base most s.data.toList 0).getD 0
def numE (base most:Int) (s:ByteArray):Int:=
 if most<0 then 1 else if digAll base s=false then 3 else if (numL base most s.data.toList 0).isNone then 4 else 0
def errV (k:Int):Value:=if k=0 then .nilIface else .iface 63 (.int .i64 k)
theorem digTo_snoc (base:Int) (s:ByteArray) (k:Nat) (h:k<s.size):digTo base s (k+1)=(digTo base s k && okDg base (s[k].toNat:Int)):=by
 unfold digTo;rw [take_snoc s k h];simp
theorem digTo_stop (base:Int) (s:ByteArray) (k:Nat) (h:k<s.size) (ht:okDg base (s[k].toNat:Int)=false):digAll base s=false:=by
 unfold digAll digTo;have:((s.data.toList.take s.size).all fun b=>okDg base (b.toNat:Int))=false:=by
  rw [List.all_eq_false];refine⟨s[k],?_,by simp [ht]⟩;rw [List.take_of_length_le (by simp)];exact List.getElem_mem (by simpa using h)
 rw [this];simp
theorem hexV_bd (c:Int):0≤hexV c∧hexV c≤15:=by
 unfold hexV;(repeat' split) <;> omega
theorem drop_cons (s:ByteArray) (k:Nat) (h:k<s.size):s.data.toList.drop k=s[k]::s.data.toList.drop (k+1):=by
 rw [List.drop_eq_getElem_cons (by simpa using h)];rfl
theorem numL_stop {base most n:Int}{s:ByteArray}{k:Nat} (h:k<s.size) (hl:numL base most (s.data.toList.drop k) n=numL base most s.data.toList 0)
 (hb:hexV (s[k].toNat:Int) > most∨n > (most-hexV (s[k].toNat:Int)) / base):numL base most s.data.toList 0= .none:=by
 rw [←hl,drop_cons s k h,numL,if_pos hb]
theorem numL_step {base most n:Int}{s:ByteArray}{k:Nat} (h:k<s.size) (hl:numL base most (s.data.toList.drop k) n=numL base most s.data.toList 0)
 (hb:¬(hexV (s[k].toNat:Int) > most∨n > (most-hexV (s[k].toNat:Int)) / base)):numL base most (s.data.toList.drop (k+1)) (n*base+hexV (s[k].toNat:Int))=numL base most s.data.toList 0:=by
 rw [←hl,drop_cons s k h,numL,if_neg hb]
theorem numL_end {base most n:Int}{s:ByteArray}{k:Nat} (h:¬k<s.size) (hl:numL base most (s.data.toList.drop k) n=numL base most s.data.toList 0):numL base most s.data.toList 0=some n:=by
 rw [←hl,List.drop_eq_nil_of_le (by simp;omega),numL]
theorem way_neg {base most:Int} (s:ByteArray) (h:most<0):numN base most s=0∧numE base most s=1:=by simp [numN,numE,h]
theorem way_form {base most:Int}{s:ByteArray} (h:0≤most) (hd:digAll base s=false):numN base most s=0∧numE base most s=3:=by simp [numN,numE,Int.not_lt.2 h,hd]
theorem way_range {base most:Int}{s:ByteArray} (h:0≤most) (hd:digAll base s=true) (hl:numL base most s.data.toList 0= .none):numN base most s=0∧numE base most s=4:=by simp [numN,numE,Int.not_lt.2 h,hd,hl]
theorem way_ok {base most n:Int}{s:ByteArray} (h:0≤most) (hd:digAll base s=true) (hl:numL base most s.data.toList 0=some n):numN base most s=n∧numE base most s=0:=by simp [numN,numE,Int.not_lt.2 h,hd,hl]
theorem end_iv {base most n k:Int}{s:ByteArray}{v:Value}{w w':World} (hv:v=errV k) (hw:w'=w) (h:numN base most s=n∧numE base most s=k):
 Ending.returned (.tuple #[.int .i64 n,v])= .returned (.tuple #[.int .i64 (numN base most s),errV (numE base most s)])∧w'=w:=by rw [h.1,h.2,hv];exact⟨rfl,hw⟩
theorem digits10_any (s:ByteArray) (w:World) (hs:s.size≤maxLen):
 Calls Tryz.prog 389 #[.string s,.int .i64 10] w fun e w'=>e= .returned (.bool (digAll 10 s))∧w'=w:=by
 unfold maxLen at hs;go_enter Tryz.func389,Tryz.ntmps389;go_wp2;go_loop [10] (fun i=>∃ k:Nat,k≤s.size∧i= .int .i64 k∧digTo 10 s k=true) (fun i=>s.size-(intOf i).toNat)
 case atStart=>exact⟨0,Nat.zero_le _,rfl,rfl⟩
 case round=>
  obtain⟨k,hk,rfl,hall⟩:=hrel;by_cases hlt:k<s.size
  · have hb:=s[k].toNat_lt;have hv:=hexV_bd (s[k].toNat:Int);by_cases hx:hexB (s[k].toNat:Int)=true
    · by_cases hd:hexV (s[k].toNat:Int)<10
      · go_wp2_with (go_at_call 390;refine(hex_any _ _ (by omega) (by omega)).mono ?_;rintro e w' ⟨rfl,rfl⟩);go_round
        case rel=>exact⟨k+1,by omega,by go_num,by rw [digTo_snoc 10 s k hlt,hall];simp [okDg,hx,hd]⟩
        case measure=>simp [intOf];omega
      · go_wp2_with (go_at_call 390;refine(hex_any _ _ (by omega) (by omega)).mono ?_;rintro e w' ⟨rfl,rfl⟩);go_ret;exact⟨ret_bool (digTo_stop 10 s k hlt (by simp [okDg,hx];omega)).symm,rfl⟩
    · go_wp2_with (go_at_call 390;refine(hex_any _ _ (by omega) (by omega)).mono ?_;rintro e w' ⟨rfl,rfl⟩);go_ret;exact⟨ret_bool (digTo_stop 10 s k hlt (by simp [okDg,hx])).symm,rfl⟩
  · go_wp2;go_ret;have hk':k=s.size:=by omega
    exact⟨ret_bool (by unfold digAll;rw [←hk',hall,empty_size,←hk'];simp),rfl⟩
theorem number10_any (s:ByteArray) (most:Int) (w:World) (hs:s.size≤maxLen) (hm:most≤9223372036854775807) (hm0: -9223372036854775808≤most):
 Calls Tryz.prog 374 #[.string s,.int .i64 10,.int .i64 most] w fun e w'=>e= .returned (.tuple #[.int .i64 (numN 10 most s),errV (numE 10 most s)])∧w'=w:=by
 have hs2:=hs;unfold maxLen at hs;by_cases hneg:most<0
 · have hW:Hid (numN 10 most s=0∧numE 10 most s=1):=way_neg s hneg;go_enter Tryz.func374,Tryz.ntmps374;go_wp2;go_ret2;exact end_iv rfl rfl hW.out
 have hH:Hid (0≤most):=Int.not_lt.1 hneg;by_cases hdig:digAll 10 s=false
 · have hW:Hid (numN 10 most s=0∧numE 10 most s=3):=way_form hH.out hdig;go_enter Tryz.func374,Tryz.ntmps374;go_wp2_with (go_at_call 389;refine(digits10_any _ _ hs2).mono ?_;rintro e w' ⟨rfl,rfl⟩);go_ret2;exact end_iv rfl rfl hW.out
 have hdig':digAll 10 s=true:=by simpa using hdig
 have hD:Hid (digAll 10 s=true):=hdig';go_enter Tryz.func374,Tryz.ntmps374;go_wp2_with (go_at_call 389;refine(digits10_any _ _ hs2).mono ?_;rintro e w' ⟨rfl,rfl⟩);go_loop [8,22] (fun t i=>∃ (k:Nat) (n:Int),k≤s.size∧i= .int .i64 k∧t= .int .i64 n∧0≤n∧n≤most∧Hid (numL 10 most (s.data.toList.drop k) n=numL 10 most s.data.toList 0)) (fun _ i=>s.size-(intOf i).toNat)
 case atStart=>exact⟨0,0,Nat.zero_le _,rfl,rfl,by omega,by omega,rfl⟩
 case round=>
  obtain⟨k,n,hk,rfl,rfl,hn0,hn1,hl⟩:=hrel;by_cases hlt:k<s.size
  · have hb:=s[k].toNat_lt;have hv:=hexV_bd (s[k].toNat:Int);by_cases hx:hexV (s[k].toNat:Int) > most
    · have hW:Hid (numN 10 most s=0∧numE 10 most s=4):=way_range hH.out hD.out (numL_stop hlt hl.out (.inl hx));go_wp2_with (go_at_call 390;refine(hex_any _ _ (by omega) (by omega)).mono ?_;rintro e w' ⟨rfl,rfl⟩);go_ret2;exact end_iv rfl rfl hW.out
    · by_cases hd:n > (most-hexV (s[k].toNat:Int)) / 10
      · have hW:Hid (numN 10 most s=0∧numE 10 most s=4):=way_range hH.out hD.out (numL_stop hlt hl.out (.inr hd));go_wp2_with (go_at_call 390;refine(hex_any _ _ (by omega) (by omega)).mono ?_;rintro e w' ⟨rfl,rfl⟩);go_ret2;exact end_iv rfl rfl hW.out
      · have hle:n*10+hexV (s[k].toNat:Int)≤most:=by omega
        have hst:Hid (numL 10 most (s.data.toList.drop (k+1)) (n*10+hexV (s[k].toNat:Int))=numL 10 most s.data.toList 0):=numL_step hlt hl.out (by omega);go_wp2_with (go_at_call 390;refine(hex_any _ _ (by omega) (by omega)).mono ?_;rintro e w' ⟨rfl,rfl⟩);go_round
        case rel=>exact⟨k+1,n*10+hexV (s[k].toNat:Int),by omega,by go_num,rfl,by omega,by omega,hst⟩
        case measure=>simp [intOf];omega
  · have hW:Hid (numN 10 most s=n∧numE 10 most s=0):=way_ok hH.out hD.out (numL_end hlt hl.out);go_wp2;go_ret2;exact end_iv rfl rfl hW.out
theorem decimal_any (s:ByteArray) (most:Int) (w:World) (hs:s.size≤maxLen) (hm:most≤9223372036854775807) (hm0: -9223372036854775808≤most):
 Calls Tryz.prog 341 #[.string s,.int .i64 most] w fun e w'=>e= .returned (.tuple #[.int .i64 (numN 10 most s),errV (numE 10 most s)])∧w'=w:=by
 go_enter Tryz.func341,Tryz.ntmps341;go_wp2_with (go_at_call 374;refine(number10_any _ _ _ hs hm hm0).mono ?_;rintro e w' ⟨rfl,rfl⟩);go_ret2;exact⟨rfl,rfl⟩
structure PS where
 resp:Bool
 most:Int
 taken:Nat
 err:Nat
 st:Nat
 part:B
 fn:B
 fv:B
 method:B
 target:B
 reason:B
 minor:Int
 status:Int
 fields:List (B×B)
def minorOf (t:B):Int:=((((t.getD 7 48).toNat+208) % 256:Nat):Int)
def statusOf (t:B):Int:=numN 10 599 ⟨t.toArray⟩
def keepP (s:PS):PS:=
 if s.st=0 then {s with part:=[],method:=s.part}
 else if s.st=1 then {s with part:=[],target:=s.part}
 else if s.st=2∨s.st=3 then {s with part:=[],minor:=minorOf s.part}
 else if s.st=4 then {s with part:=[],status:=statusOf s.part}
 else if s.st=5 then {s with part:=[],reason:=s.part}
 else if s.st=7 then {s with part:=[],fn:=s.part}
 else if s.st=8 then {s with part:=[],fv:=trimL s.part}
 else {s with part:=[]}
def rowP (s:PS) (c:UInt8) (may:Bool) (x:UInt8) (done:Bool) (next:Nat):Option PS:=
 if c=x∧done=true then some {keepP s with st:=next}
 else if may=true then some {s with part:=s.part++ [c]} else none
def endP (s:PS) (c:UInt8) (next:Nat):Option PS:=
 if c=10 then some {s with fields:=if s.st=9 then s.fields++ [(s.fn,s.fv)] else s.fields,st:=next} else none
def verAt (n:Nat) (c:UInt8):Bool:=if n<7 then decide (ver0[n]?=some c) else decide (n<8) && (decide (c=48) || decide (c=49))
def staAt (n:Nat) (c:UInt8):Bool:=if n=0 then decide (49≤c.toNat∧c.toNat≤53) else decide (n<3) && digB (c.toNat:Int)
def stepP (s:PS) (c:UInt8):Option PS:=
 if s.st=0 then rowP s c (clsB 0 c) 32 (decide (0<s.part.length)) 1
 else if s.st=1 then rowP s c (clsB 1 c) 32 (decide (0<s.part.length)) 2
 else if s.st=2 then rowP s c (verAt s.part.length c) 13 (decide (s.part.length=8)) 6
 else if s.st=3 then rowP s c (verAt s.part.length c) 32 (decide (s.part.length=8)) 4
 else if s.st=4 then rowP s c (staAt s.part.length c) 32 (decide (s.part.length=3)) 5
 else if s.st=5 then rowP s c (clsB 2 c) 13 true 6
 else if s.st=6 then endP s c 7
 else if s.st=7 then (if s.part.length=0∧c=13 then some {s with st:=10} else rowP s c (clsB 0 c) 58 (decide (0<s.part.length)) 8)
 else if s.st=8 then rowP s c (clsB 2 c) 13 true 9
 else if s.st=9 then endP s c 7
 else if s.st=10 then endP s c 11
 else none
def verP (p:B):Prop:=p.length≤8∧(ver0.take p.length=p∨ver1.take p.length=p)
def staP (p:B):Prop:=p.length≤3∧∀ i c,p[i]?=some c→staAt i c=true
inductive LineR:Bool→Bool→B→PS→Prop
 |m0 {s:PS}:s.st=0→allB 0 s.part=true→LineR false true s.part s
 |t1 {s:PS}:s.st=1→s.method≠ []→allB 0 s.method=true→allB 1 s.part=true→LineR false true (s.method++32::s.part) s
 |v2 {s:PS}:s.st=2→s.method≠ []→allB 0 s.method=true→s.target≠ []→allB 1 s.target=true→verP s.part→LineR false true (s.method++32::(s.target++32::s.part)) s
 |e6 {s:PS}{v:B}:s.st=6→s.part= []→s.method≠ []→allB 0 s.method=true→s.target≠ []→allB 1 s.target=true→verP v→v.length=8→s.minor=minorOf v→LineR false true ((s.method++32::(s.target++32::v))++ [13]) s
 |v3 {s:PS}:s.st=3→verP s.part→LineR true true s.part s
 |s4 {s:PS}{v:B}:s.st=4→verP v→v.length=8→s.minor=minorOf v→staP s.part→LineR true true (v++32::s.part) s
 |r5 {s:PS}{v d:B}:s.st=5→verP v→v.length=8→s.minor=minorOf v→staP d→d.length=3→s.status=statusOf d→allB 2 s.part=true→LineR true true (v++32::(d++32::s.part)) s
 |e6r {s:PS}{v d:B}:s.st=6→s.part= []→verP v→v.length=8→s.minor=minorOf v→staP d→d.length=3→s.status=statusOf d→allB 2 s.reason=true→LineR true true ((v++32::(d++32::s.reason))++ [13]) s
 |n7 {r:Bool}{s:PS}:s.st=7→allB 0 s.part=true→LineR r false s.part s
 |f8 {r:Bool}{s:PS}:s.st=8→s.fn≠ []→allB 0 s.fn=true→allB 2 s.part=true→LineR r false (s.fn++58::s.part) s
 |e9 {r:Bool}{s:PS}{q:B}:s.st=9→s.part= []→s.fn≠ []→allB 0 s.fn=true→allB 2 q=true→s.fv=trimL q→LineR r false ((s.fn++58::q)++ [13]) s
 |e10 {r:Bool}{s:PS}:s.st=10→s.part= []→LineR r false [13] s
def docStep (resp:Bool) (nl:Nat) (line:B) (c:UInt8):Option B:=
 if c=10 then none
 else if c=13 then (if goesB resp nl line true=true∨(line= []∧0<nl) then some (line++ [13]) else none)
 else if goesB resp nl (line++ [c]) false=true then some (line++ [c]) else none
structure Held (first:Bool) (s s':PS):Prop where
 resp:s'.resp=s.resp
 most:s'.most=s.most
 taken:s'.taken=s.taken
 err:s'.err=s.err
 fields:s'.fields=s.fields
 st:s'.st≠11
 rest:first=false→s'.method=s.method∧s'.target=s.target∧s'.reason=s.reason∧s'.minor=s.minor∧s'.status=s.status
def Both (resp first:Bool) (nl:Nat) (line:B) (c:UInt8) (s:PS):Prop:=
 (docStep resp nl line c=none∧stepP s c=none)∨∃ l' s',docStep resp nl line c=some l'∧stepP s c=some s'∧LineR resp first l' s'∧Held first s s'
def FAt (w:World) (p:Option Addr) (fs:List (B×B)):Prop:=∀ j f,fs[j]?=some f→∃ g o,p=some ⟨g,o,none⟩∧w.cell? ⟨g,o+j*2,none⟩=some (.string (str f.1))∧w.cell? ⟨g,o+j*2+1,none⟩=some (.string (str f.2))
theorem FAt.next {w w':World}{p:Option Addr}{fs:List (B×B)} (h:FAt w p fs) (hb:Below w.heap.size w w'):FAt w' p fs:=by
 intro j f hj;obtain⟨g,o,e,h1,h2⟩:=h j f hj;exact⟨g,o,e,cell_keep hb h1,cell_keep hb h2⟩
def valsB (fs:List (B×B)) (nm:ByteArray):List ByteArray:=(fs.filter (fun f=>sameB (str f.1) nm)).map (fun f=>str f.2)
theorem vals_le (fs:List (B×B)) (nm:ByteArray):(valsB fs nm).length≤fs.length:=by unfold valsB;rw [List.length_map];exact List.length_filter_le _ _
theorem vals_take (fs:List (B×B)) (nm:ByteArray) (i:Nat):(valsB (fs.take i) nm).length≤i:=Nat.le_trans (vals_le _ _) (by rw [List.length_take];omega)
theorem take_snocF {fs:List (B×B)}{i:Nat}{f:B×B} (h:fs[i]?=some f):fs.take (i+1)=fs.take i++ [f]:=by rw [List.take_add_one,h];rfl
theorem vals_yes {fs:List (B×B)}{nm:ByteArray}{i:Nat}{f:B×B} (h:fs[i]?=some f) (hs:sameB (str f.1) nm=true):valsB (fs.take (i+1)) nm=valsB (fs.take i) nm++ [str f.2]:=by
 rw [take_snocF h];unfold valsB;simp [hs]
theorem vals_no {fs:List (B×B)}{nm:ByteArray}{i:Nat}{f:B×B} (h:fs[i]?=some f) (hs:sameB (str f.1) nm=false):valsB (fs.take (i+1)) nm=valsB (fs.take i) nm:=by
 rw [take_snocF h];unfold valsB;simp [hs]
theorem same_bel (a b:ByteArray) (w:World) (ha:a.size≤1048576) (hb:b.size≤1048576):Calls Tryz.prog 373 #[.string a,.string b] w fun e w'=>e= .returned (.bool (sameB a b))∧Below w.heap.size w w':=
 (same_any a b w (Nat.le_trans ha (by decide)) (Nat.le_trans hb (by decide))).mono (fun e w' ⟨h1,m,h2⟩=>⟨h1,by rw [h2];exact below_drew (Below.refl _ _) m⟩)
def RowB (W:World) (b:Nat) (v:Value) (L:List ByteArray):Prop:=W.ownsRow b 9 1 v L.length (L.map strVL)
theorem RowB.nil (W:World) (b:Nat):RowB W b (.slice none 0 0) []:=⟨rfl,.inl ⟨rfl,rfl⟩⟩
theorem box2 {V:World}{g:Nat}{a b:Value}{T:TypeId} (h:V.heap[g]?=some (.cells #[a,b] T (0,0))):V.cell? ⟨g,0,none⟩=some a∧V.cell? ⟨g,1,none⟩=some b:=by
 constructor <;> simp [World.cell?,h]
def szB (fs:List (B×B)):Prop:=∀ f∈fs,f.1.length≤1048576∧f.2.length≤1048576
theorem pvals (fs:List (B×B)) (p:Option Addr) (n c:Nat) (hn:fs.length=n) (nm:ByteArray) (w:World) (hF:FAt w p fs) (hsz:szB fs) (hnm:nm.size≤1048576) (hnn:n≤1048576):
 Calls Tryz.prog 338 #[.slice p n c,.string nm] w fun e w'=>∃ v,e= .returned v∧RowB w' w.heap.size v (valsB fs nm)∧Below w.heap.size w w':=by
 obtain⟨i0,hi,hz0,hz1,hz2⟩:=info_parts info9;have HF:=hid hF;have HN:=hid hn;have HZ:=hid hsz;clear hF hn hsz;go_enter Tryz.func338,Tryz.ntmps338;go_wp2;go_loopg [5,10] (n+1) (fun gk s5 s10 wr=>∃ (i:Nat) (q:Option Addr) (m d:Nat),s5= .slice q m d∧s10= .int .i64 (i:Int)∧i≤n∧gk=n-i+1∧m=(valsB (fs.take i) nm).length∧RowB wr w.heap.size (.slice q m d) (valsB (fs.take i) nm)∧Below w.heap.size w wr)
 case atStart=>exact⟨0,none,0,0,rfl,rfl,by omega,rfl,rfl,RowB.nil _ _,Below.refl _ _⟩
 case round=>
  obtain⟨i,q,m,d,rfl,rfl,hin,rfl,hm,ho,hb⟩:=hrel;have hmi:=vals_take fs nm i;rw [←hm] at hmi;have HB:=hid hb;have HO:=hid (show wr.ownsRow w.heap.size 9 1 (.slice q m d) m ((valsB (fs.take i) nm).map strVL) from by unfold RowB at ho;rw [←hm] at ho;exact ho);have HM:=hid hm;clear hb ho hm;by_cases hlt:i<n
  · obtain⟨f,hf⟩:∃ f,fs[i]?=some f:=⟨fs[i]'(by rw [HN.out];exact hlt),List.getElem?_eq_getElem (by rw [HN.out];exact hlt)⟩;obtain⟨g,o,hp,c0,c1⟩:=(HF.out.next HB.out) i f hf;subst hp;have hltI:(i:Int)<(n:Int):=by omega
    obtain⟨z1,z2⟩:=HZ.out f (List.mem_of_getElem? hf);have HSm:=hid (show ∀ W:World,_ from fun W=>same_bel (str f.1) nm W (by rw [str_size];omega) (by omega));have HCl:=hid (show ∀ W:World,_ from fun W=>clone_any (str f.2) W (by rw [str_size];omega));cases hS:sameB (str f.1) nm with
    |true=>
     have HY:=hid (vals_yes hf hS);rw [hS] at HSm;obtain⟨N,hN⟩:∃ N,str f.1=N:=⟨_,rfl⟩;obtain⟨V,hV⟩:∃ V,str f.2=V:=⟨_,rfl⟩;rw [hN] at c0 HSm;rw [hV] at c1 HCl HY;clear hf hS hN hV;go_wp2_with (first|(go_at_call 373;(with_reducible refine(HSm.out _).mono ?_);rintro e w2 ⟨rfl,hb⟩;have hbx:=below_new wr (.cells #[.string N,.string V] 318 (0,0));have HB2:=hid (below_out (below_out HB.out hbx) hb);have HO2:=hid (own_over (own_over HO.out hbx) hb);obtain⟨y0,y1⟩:=box2 ((hb.block _ (lt_of_heap (heap_alloc_new wr (.cells #[.string N,.string V] 318 (0,0))))).trans (heap_alloc_new wr (.cells #[.string N,.string V] 318 (0,0))));clear hb hbx HSm)|(go_at_call 200;(with_reducible refine(HCl.out _).mono ?_);rintro e w3 ⟨rfl,hb⟩;have HB3:=hid (below_out HB2.out hb);have HO3:=hid (own_over HO2.out hb);clear hb HCl y0 y1)|(at_builtin;refine wpList_append_own_at _ rfl (.tmp 18) (.tmp 22) 52 rfl w.heap.size 9 i0 _ 1 16 Tryz.underlying52 hi hz0 hz1 hz2 rfl (by decide) (.slice q m d) m ((valsB (fs.take i) nm).map strVL) (by go_simp) (HO3.out.alloc _) ⟨w3.heap.size,0,none⟩ 1 1 [.string V] (by go_simp) rfl (cells_new w3 _ _) (by simp [Value.oneCell']) (by unfold maxLen;omega) (by omega) (Nat.le_trans HB3.out.size (below_new _ _).size) ?_;intro v' w4 hown' hgrow _ _;have HB4:=hid (app_belowL HB3.out HO3.out hgrow);obtain⟨q',d',rfl⟩:=own_slice hown';have HO4:=hid hown';clear hown' hgrow));go_roundg (n-(i+1)+1)
     case measure=>omega
     case rel=>exact⟨i+1,q',m+1,d',rfl,by go_num,by omega,rfl,(by rw [HY.out,List.length_append,←HM.out];rfl),(by unfold RowB;rw [HY.out,List.length_append,←HM.out,List.map_append];exact HO4.out),HB4.out⟩
    |false=>
     have HY:=hid (vals_no hf hS);rw [hS] at HSm;obtain⟨N,hN⟩:∃ N,str f.1=N:=⟨_,rfl⟩;obtain⟨V,hV⟩:∃ V,str f.2=V:=⟨_,rfl⟩;rw [hN] at c0 HSm;rw [hV] at c1 HCl;clear hf hS hN hV;go_wp2_with (first|(go_at_call 373;(with_reducible refine(HSm.out _).mono ?_);rintro e w2 ⟨rfl,hb⟩;have hbx:=below_new wr (.cells #[.string N,.string V] 318 (0,0));have HB2:=hid (below_out (below_out HB.out hbx) hb);have HO2:=hid (own_over (own_over HO.out hbx) hb);obtain⟨y0,y1⟩:=box2 ((hb.block _ (lt_of_heap (heap_alloc_new wr (.cells #[.string N,.string V] 318 (0,0))))).trans (heap_alloc_new wr (.cells #[.string N,.string V] 318 (0,0))));clear hb hbx HSm));go_roundg (n-(i+1)+1)
     case measure=>omega
     case rel=>exact⟨i+1,q,m,d,rfl,by go_num,by omega,rfl,(by rw [HY.out];exact HM.out),(by unfold RowB;rw [HY.out,←HM.out];exact HO2.out),HB2.out⟩
  · obtain rfl:i=n:=by omega
    have hltI:¬(i:Int)<(i:Int):=by omega
    have HT:=hid (show fs.take i=fs from List.take_of_length_le (by rw [HN.out];exact Nat.le_refl _));clear hlt;go_wp2;go_ret;exact⟨_,rfl,(by unfold RowB;have h1:=HO.out;have h2:=HM.out;rw [HT.out] at h1 h2;rw [←h2];exact h1),HB.out⟩
def oneB (L:List ByteArray):ByteArray×Nat:=match L with| []=>(⟨#[]⟩,8)| [x]=>(x,0)|_=>(⟨#[]⟩,6)
theorem row_see {W:World}{b:Nat}{v:Value}{L:List ByteArray} (h:RowB W b v L) (n:Nat) (hn:L.length=n):∃ q d,v= .slice q n d∧∀ j x,L[j]?=some x→∃ g,q=some ⟨g,0,none⟩∧W.cell? ⟨g,j,none⟩=some (.string x):=by
 unfold RowB at h;by_cases h0:0<L.length
 · obtain⟨g,cap,e,hc⟩:=own_cellL h h0;exact⟨_,cap,by rw [e,hn],fun j x hj=>⟨g,rfl,hc j x hj⟩⟩
 · obtain⟨q,d,e⟩:=own_slice h;refine⟨q,d,by rw [e,hn],fun j x hj=>?_⟩;have:=(List.getElem?_eq_some_iff.1 hj).1;omega
theorem vals_small {fs:List (B×B)}{nm x:ByteArray} (hz:szB fs) (h:x∈valsB fs nm):x.size≤1048576:=by
 unfold valsB at h;obtain⟨f,hf,rfl⟩:=List.mem_map.1 h;rw [str_size];exact(hz f (List.mem_filter.1 hf).1).2
theorem pone (fs:List (B×B)) (p:Option Addr) (n c:Nat) (hn:fs.length=n) (nm:ByteArray) (w:World) (hF:FAt w p fs) (hsz:szB fs) (hnm:nm.size≤1048576) (hnn:n≤1048576):
 Calls Tryz.prog 301 #[.slice p n c,.string nm] w fun e w'=>e= .returned (.tuple #[.string (oneB (valsB fs nm)).1,errOf (oneB (valsB fs nm)).2])∧Below w.heap.size w w':=by
 have hV0:=pvals fs p n c hn nm w hF hsz hnm hnn;have HV:=hid (show ∀ _:Unit,_ from fun _=>hV0);clear hV0;obtain⟨L,hL⟩:∃ L,valsB fs nm=L:=⟨_,rfl⟩;rw [hL] at HV ⊢;clear hL hF hsz hn;rcases L with _|⟨x,_|⟨y,r⟩⟩
 · go_enter Tryz.func301,Tryz.ntmps301;go_wp2_with (go_at_call 338;(with_reducible refine(HV.out ()).mono ?_);rintro e w1 ⟨v,rfl,ho,hb⟩;obtain⟨q,d,rfl,hq⟩:=row_see ho 0 rfl;  have HB:=hid hb;clear hb ho hq);go_ret2;exact⟨rfl,HB.out⟩
 · go_enter Tryz.func301,Tryz.ntmps301;go_wp2_with (go_at_call 338;(with_reducible refine(HV.out ()).mono ?_);rintro e w1 ⟨v,rfl,ho,hb⟩;obtain⟨q,d,rfl,hq⟩:=row_see ho 1 rfl;obtain⟨g,rfl,x0⟩:=hq 0 x rfl;have HB:=hid hb;clear hb ho hq);go_ret2;exact⟨rfl,HB.out⟩
 · obtain⟨k,hk⟩:∃ k,(x::y::r).length=k:=⟨_,rfl⟩;have HK:=hid hk;have h2:2≤k:=by rw [←hk];simp
   have hk0:((k:Int)== 0)=false:=by simp;omega
   have hk1:((k:Int)== 1)=false:=by simp;omega
   have hk2:¬(k:Int)=0:=by omega
   have hk3:¬(k:Int)=1:=by omega
   have HR:=hid (show oneB (x::y::r)=(⟨#[]⟩,6) from rfl);rw [HR.out];clear hk;go_enter Tryz.func301,Tryz.ntmps301;go_wp2_with (go_at_call 338;(with_reducible refine(HV.out ()).mono ?_);rintro e w1 ⟨v,rfl,ho,hb⟩;obtain⟨q,d,rfl,hq⟩:=row_see ho k HK.out;  have HB:=hid hb;clear hb ho hq);go_ret2;exact⟨rfl,HB.out⟩
def hostB (c:UInt8):Bool:=(97≤c.toNat && c.toNat≤122) || (65≤c.toNat && c.toNat≤90) || (48≤c.toNat && c.toNat≤57) || c== 45 || c== 46 || c== 95
def hostP (ok:B→Bool) (v:B):Option (B×B):=
 let h:=v.takeWhile (fun c=>c != 58)
 let p:=v.drop (h.length+1)
 if h≠ []∧h.all hostB=true∧(p= []∨ok p=true) then some (h,p) else none
end Go.Proofs.YtlmefgjhbohjlaaGreatDoor
