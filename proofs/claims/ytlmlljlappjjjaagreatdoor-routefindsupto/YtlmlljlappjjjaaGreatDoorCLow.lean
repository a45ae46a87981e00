/- Patterns by their keys, plain: what a tree of them finds is the best one. -/
import Derived.Test.YtlmlljlappjjjaaGreatDoorTCheckP
import Derived.Lib.ItoaMem
namespace Go.Proofs.YtlmlljlappjjjaaGreatDoor
set_option maxRecDepth 20000
set_option maxHeartbeats 1000000
inductive Ky where
 |plain (s:B)
 |par
 |rest
 deriving DecidableEq
def keyT (x:B):Ky:=if kindT x=0 then .plain x else if kindT x=1 then .par else .rest
def keysT (l:List B):List Ky:=l.map keyT
def Ky.kind:Ky→Nat
 | .plain _=>0
 | .par=>1
 | .rest=>2
theorem keyT_kind (x:B):(keyT x).kind=kindT x:=by
 have:=kindT_le x;unfold keyT;split
 · rename_i h;rw [h];rfl
 · split
   · rename_i h;rw [h];rfl
   · show 2=_;omega
theorem keyT_eq {x y:B}:keyT x=keyT y↔kindT x=kindT y∧(kindT x≠0∨x=y):=by
 constructor
 · intro h;have hk:kindT x=kindT y:=by rw [←keyT_kind,←keyT_kind,h]
   refine⟨hk,?_⟩;by_cases h0:kindT x=0
   · right;have h1:kindT y=0:=by omega
     unfold keyT at h;rw [if_pos h0,if_pos h1] at h;injection h
   · exact .inl h0
 · rintro ⟨hk,h|h⟩
   · have h':¬kindT y=0:=by omega
     unfold keyT;rw [if_neg h,if_neg h',hk]
   · rw [h]
theorem alike_keys:∀ a b:List B,alikeT a b=true↔keysT a=keysT b
 | [],[]=>by simp [alikeT,keysT]
 | [],y::b=>by simp [alikeT,keysT]
 |x::a,[]=>by simp [alikeT,keysT]
 |x::a,y::b=>by
  have ih:=alike_keys a b;unfold alikeT;show _↔keyT x::keysT a=keyT y::keysT b;rw [Bool.and_eq_true,Bool.and_eq_true,List.cons.injEq,ih,keyT_eq];simp
def fitsK:List Ky→List B→Bool
 | [],[]=>true
 | [],_::_=>false
 |_::_,[]=>false
 | .rest::_,_::_=>true
 | .par::l,y::r=>decide (y≠ []) && fitsK l r
 | .plain x::l,y::r=>decide (x=y) && fitsK l r
theorem fits_keys:∀ (a:List B) (r:List B),(fitsT a r).isSome=fitsK (keysT a) r
 | [],[]=>rfl
 | [],_::_=>rfl
 |_::_,[]=>rfl
 |x::a,y::r=>by
  have ih:=fits_keys a r;have hk:=kindT_le x;show (fitsT (x::a) (y::r)).isSome=fitsK (keyT x::keysT a) (y::r);unfold keyT fitsT;by_cases h0:kindT x=0
  · rw [if_neg (by omega),if_neg (by omega),if_pos h0];by_cases e:x=y
    · rw [if_pos e,ih];simp [fitsK,e]
    · rw [if_neg e];simp [fitsK,e]
  · by_cases h1:kindT x=1
    · rw [if_neg (by omega),if_pos h1,if_neg h0,if_pos h1];by_cases e:y= []
      · rw [if_pos e];simp [fitsK,e]
      · rw [if_neg e,Option.isSome_map,ih];simp [fitsK,e]
    · rw [if_pos (by omega),if_neg h0,if_neg h1];rfl
def betterK:List Ky→List Ky→Bool
 |x::l,y::r=>if x.kind=y.kind then betterK l r else decide (x.kind<y.kind)
 |_,_=>false
theorem better_keys:∀ a b:List B,betterT a b=betterK (keysT a) (keysT b)
 | [],[]=>rfl
 | [],_::_=>rfl
 |_::_,[]=>rfl
 |x::a,y::b=>by
  show (if kindT x=kindT y then betterT a b else decide (kindT x<kindT y))=if (keyT x).kind=(keyT y).kind then betterK (keysT a) (keysT b) else decide ((keyT x).kind<(keyT y).kind)
  rw [keyT_kind,keyT_kind,better_keys a b]
def behK {α:Type} (E:List Ky→Option α):List B→List Ky→Option α
 | [],k=>E k
 |x::r,k=>((behK E r (k++ [.plain x])).orElse fun _=>if x= [] then none else behK E r (k++ [.par])).orElse fun _=>E (k++ [.rest])
theorem behK_none {α:Type}{E:List Ky→Option α}:∀ (r:List B) (k:List Ky),(∀ q,E (k++q)=none)→behK E r k=none
 | [],k,h=>by have:=h [];rwa [List.append_nil] at this
 |x::r,k,h=>by
  unfold behK;have h1:=behK_none (E:=E) r (k++ [.plain x]) (fun q=>by rw [List.append_assoc];exact h _);have h2:=behK_none (E:=E) r (k++ [.par]) (fun q=>by rw [List.append_assoc];exact h _);rw [h1,h2,h];simp
theorem fitsK_nil {q:List Ky} (h:fitsK q []=true):q= []:=by
 cases q with
 |nil=>rfl
 |cons y l=>cases y <;> simp [fitsK] at h
theorem behK_best {α:Type}{E:List Ky→Option α} (hr:∀ k q,E (k++ .rest::q)≠none→q= []):∀ (r:List B) (k:List Ky),
  match behK E r k with
  |none=>∀ q,E (k++q)≠none→fitsK q r=false
  |some e=>∃ q,E (k++q)=some e∧fitsK q r=true∧∀ q',E (k++q')≠none→fitsK q' r=true→q'=q∨betterK q q'=true
 | [],k=>by
  unfold behK;cases h:E k with
  |none=>
   intro q hq;cases hf:fitsK q [] with
   |false=>rfl
   |true=>
    rw [fitsK_nil hf,List.append_nil] at hq;exact absurd h hq
  |some e=>exact⟨[],by rw [List.append_nil];exact h,rfl,fun q' _ hf=>.inl (fitsK_nil hf)⟩
 |x::r,k=>by
  have h1:=behK_best hr r (k++ [.plain x]);have h2:=behK_best hr r (k++ [.par]);have e0:behK E (x::r) k=((behK E r (k++ [.plain x])).orElse fun _=>if x= [] then none else behK E r (k++ [.par])).orElse fun _=>E (k++ [.rest]):=rfl
  rw [e0];cases e1:behK E r (k++ [.plain x]) with
  |some e=>
   rw [e1] at h1;obtain⟨q,a1,a2,a3⟩:=h1;rw [List.append_assoc] at a1;refine⟨.plain x::q,a1,by simp [fitsK,a2],fun q' hq' hf=>?_⟩;cases q' with
   |nil=>simp [fitsK] at hf
   |cons y l=>
    cases y with
    |plain z=>
     simp [fitsK] at hf;obtain⟨rfl,hf⟩:=hf;rcases a3 l (by rw [List.append_assoc];exact hq') hf with h|h
     · exact .inl (by rw [h])
     · right;show (if _ then _ else _)=true;rw [if_pos rfl];exact h
    |par=>exact .inr rfl
    |rest=>exact .inr rfl
  |none=>
   rw [e1] at h1;have n1:∀ z l,E (k++ .plain z::l)≠none→fitsK (.plain z::l) (x::r)=false:=by
    intro z l hz;cases hf:fitsK (.plain z::l) (x::r) with
    |false=>rfl
    |true=>
     simp [fitsK] at hf;obtain⟨rfl,hf⟩:=hf;have:=h1 l (by rw [List.append_assoc];exact hz);rw [hf] at this;cases this
   simp only [Option.orElse_none];by_cases hx:x= []
   · rw [if_pos hx];simp only [Option.orElse_none];have n2:∀ l,fitsK (.par::l) (x::r)=false:=fun l=>by simp [fitsK,hx]
     cases e3:E (k++ [.rest]) with
     |none=>
      intro q hq;cases q with
      |nil=>rfl
      |cons y l=>
       cases y with
       |plain z=>exact n1 z l hq
       |par=>exact n2 l
       |rest=>
        rw [hr k l hq] at hq;exact absurd e3 hq
     |some e=>
      refine⟨[.rest],e3,rfl,fun q' hq' hf=>?_⟩;cases q' with
      |nil=>simp [fitsK] at hf
      |cons y l=>
       cases y with
       |plain z=>rw [n1 z l hq'] at hf;cases hf
       |par=>rw [n2 l] at hf;cases hf
       |rest=>exact .inl (by rw [hr k l hq'])
   · rw [if_neg hx];cases e2:behK E r (k++ [.par]) with
     |some e=>
      rw [e2] at h2;obtain⟨q,a1,a2,a3⟩:=h2;rw [List.append_assoc] at a1;refine⟨.par::q,a1,by simp [fitsK,a2,hx],fun q' hq' hf=>?_⟩;cases q' with
      |nil=>simp [fitsK] at hf
      |cons y l=>
       cases y with
       |plain z=>rw [n1 z l hq'] at hf;cases hf
       |par=>
        simp [fitsK] at hf;rcases a3 l (by rw [List.append_assoc];exact hq') hf.2 with h|h
        · exact .inl (by rw [h])
        · right;show (if _ then _ else _)=true;rw [if_pos rfl];exact h
       |rest=>exact .inr rfl
     |none=>
      rw [e2] at h2;simp only [Option.orElse_none];have n2:∀ l,E (k++ .par::l)≠none→fitsK (.par::l) (x::r)=false:=by
       intro l hz;have:=h2 l (by rw [List.append_assoc];exact hz);simp [fitsK,this]
      cases e3:E (k++ [.rest]) with
      |none=>
       intro q hq;cases q with
       |nil=>rfl
       |cons y l=>
        cases y with
        |plain z=>exact n1 z l hq
        |par=>exact n2 l hq
        |rest=>
         rw [hr k l hq] at hq;exact absurd e3 hq
      |some e=>
       refine⟨[.rest],e3,rfl,fun q' hq' hf=>?_⟩;cases q' with
       |nil=>simp [fitsK] at hf
       |cons y l=>
        cases y with
        |plain z=>rw [n1 z l hq'] at hf;cases hf
        |par=>rw [n2 l hq'] at hf;cases hf
        |rest=>exact .inl (by rw [hr k l hq'])
open Go.RowKit
def digB (c:Int):Bool:=decide (48≤c∧c≤57)
def letB (c:Int):Bool:=decide ((97≤c∧c≤122)∨(65≤c∧c≤90))
def othB (c:Int):Bool:=decide (c=33∨c=35∨c=36∨c=37∨c=38∨c=39∨c=42∨c=43∨c=45∨c=46∨c=94∨c=95∨c=96∨c=124∨c=126)
def tokB (c:Int):Bool:=othB c || letB c || digB c
def visB (c:Int):Bool:=decide (33≤c∧c≤126)
theorem digit_any (c:Int) (w:World) (h0:0≤c) (h1:c≤255):
  Calls Tryz.prog 116 #[.int .u8 c] w fun e w'=>e= .returned (.bool (digB c))∧w'=w:=by
 go_enter Tryz.func116,Tryz.ntmps116;go_wp2;all_goals
  go_ret;exact⟨ret_bool (by rw [Bool.eq_iff_iff];simp [digB];try omega),rfl⟩
theorem rdigit_any (c:Int) (w:World) (h0:0≤c) (h1:c≤255):
  Calls Tryz.prog 94 #[.int .u8 c] w fun e w'=>e= .returned (.bool (digB c))∧w'=w:=by
 go_enter Tryz.func94,Tryz.ntmps94;go_wp2;all_goals
  go_ret;exact⟨ret_bool (by rw [Bool.eq_iff_iff];simp [digB];try omega),rfl⟩
theorem visible_any (c:Int) (w:World) (h0:0≤c) (h1:c≤255):
  Calls Tryz.prog 177 #[.int .u8 c] w fun e w'=>e= .returned (.bool (visB c))∧w'=w:=by
 go_enter Tryz.func177,Tryz.ntmps177;go_wp2;all_goals
  go_ret;exact⟨ret_bool (by rw [Bool.eq_iff_iff];simp [visB];try omega),rfl⟩
theorem rvisible_any (c:Int) (w:World) (h0:0≤c) (h1:c≤255):
  Calls Tryz.prog 63 #[.int .u8 c] w fun e w'=>e= .returned (.bool (visB c))∧w'=w:=by
 go_enter Tryz.func63,Tryz.ntmps63;go_wp2;all_goals
  go_ret;exact⟨ret_bool (by rw [Bool.eq_iff_iff];simp [visB];try omega),rfl⟩
theorem rletter_any (c:Int) (w:World) (h0:0≤c) (h1:c≤255):
  Calls Tryz.prog 117 #[.int .u8 c] w fun e w'=>e= .returned (.bool (letB c))∧w'=w:=by
 go_enter Tryz.func117,Tryz.ntmps117;go_wp2;all_goals
  go_ret;exact⟨ret_bool (by rw [Bool.eq_iff_iff];simp [letB];try omega),rfl⟩
def smallV (c:Int):Int:=if 65≤c∧c≤90 then c+32 else c
theorem ret_int {k:IntKind}{a b:Int} (h:a=b):Ending.returned (.int k a)= .returned (.int k b):=by rw [h]
theorem ret_ib {k:IntKind}{a b:Int}{x y:Bool} (h:a=b) (g:x=y):Ending.returned (.tuple #[.int k a,.bool x])= .returned (.tuple #[.int k b,.bool y]):=by rw [h,g]
theorem small_any (c:Int) (w:World) (h0:0≤c) (h1:c≤255):
  Calls Tryz.prog 135 #[.int .u8 c] w fun e w'=>e= .returned (.int .u8 (smallV c))∧w'=w:=by
 by_cases h:65≤c∧c≤90
 · obtain⟨ha,hb⟩:=h;go_enter Tryz.func135,Tryz.ntmps135;go_wp2;go_ret;exact⟨ret_int (by unfold smallV;rw [if_pos ⟨ha,hb⟩]),rfl⟩
 · go_enter Tryz.func135,Tryz.ntmps135;go_wp2;all_goals
    go_ret;exact⟨ret_int (by unfold smallV;rw [if_neg h]),rfl⟩
theorem letter_any (c:Int) (w:World) (h0:0≤c) (h1:c≤255):
  Calls Tryz.prog 115 #[.int .u8 c] w fun e w'=>e= .returned (.bool (letB c))∧w'=w:=by
 go_enter Tryz.func115,Tryz.ntmps115;go_wp2;all_goals
  go_ret;exact⟨ret_bool (by rw [Bool.eq_iff_iff];simp [letB];try omega),rfl⟩
theorem token_any (c:Int) (w:World) (h0:0≤c) (h1:c≤255):
  Calls Tryz.prog 74 #[.int .u8 c] w fun e w'=>e= .returned (.bool (tokB c))∧w'=w:=by
 go_enter Tryz.func74,Tryz.ntmps74;go_wp2_with (first|(go_at_call 115;refine(letter_any _ _ (by omega) (by omega)).mono ?_;rintro e w' ⟨rfl,rfl⟩)|(go_at_call 116;refine(digit_any _ _ (by omega) (by omega)).mono ?_;rintro e w' ⟨rfl,rfl⟩));all_goals
  go_ret;exact⟨ret_bool (by(try simp only [beq_iff_eq,beq_eq_false_iff_ne,ne_eq,letB,decide_eq_true_eq] at*);rw [Bool.eq_iff_iff];simp [tokB,othB,letB,digB];try omega),rfl⟩
def othS:ByteArray:={data:=#[33,35,36,37,38,39,42,43,45,46,94,95,124,126]}
def othAt (k:Nat):Int:=((othS.data.toList.getD k 0).toNat:Int)
theorem oth_all:∀ k:Nat,(h:k<14)→othB (({data:=#[33,35,36,37,38,39,42,43,45,46,94,95,124,126]}:ByteArray)[k].toNat:Int)=true:=by decide
theorem oth_hit {k:Nat}{c:Int} (h:k<14) (e:((({data:=#[33,35,36,37,38,39,42,43,45,46,94,95,124,126]}:ByteArray)[k].toNat:Int)== c)=true):tokB c=true:=by
 have:=oth_all k h;rw [eq_of_beq e] at this;simp [tokB,this]
theorem othAt_eq:∀ k:Nat,(h:k<14)→othAt k=(({data:=#[33,35,36,37,38,39,42,43,45,46,94,95,124,126]}:ByteArray)[k].toNat:Int):=by decide
theorem oth_miss {k:Nat}{c:Int} (h:k<14) (hno:∀ j:Nat,j<k→othAt j≠c) (e:((({data:=#[33,35,36,37,38,39,42,43,45,46,94,95,124,126]}:ByteArray)[k].toNat:Int)== c)=false):∀ j:Nat,j<k+1→othAt j≠c:=by
 intro j hj;by_cases hjk:j=k
 · subst hjk;rw [othAt_eq j h];exact ne_of_beq_false e
 · exact hno j (by omega)
theorem oth_none {c:Int} (hd:¬digB c=true) (hl:¬letB c=true) (h96:¬c=96) (hno:∀ j:Nat,j<14→othAt j≠c):tokB c=false:=by
 have e0:=hno 0 (by omega);have e1:=hno 1 (by omega);have e2:=hno 2 (by omega);have e3:=hno 3 (by omega);have e4:=hno 4 (by omega);have e5:=hno 5 (by omega);have e6:=hno 6 (by omega);have e7:=hno 7 (by omega);have e8:=hno 8 (by omega);have e9:=hno 9 (by omega);have e10:=hno 10 (by omega);have e11:=hno 11 (by omega);have e12:=hno 12 (by omega);have e13:=hno 13 (by omega);simp [othAt,othS] at e0 e1 e2 e3 e4 e5 e6 e7 e8 e9 e10 e11 e12 e13;simp [tokB,othB,hd,hl];omega
theorem rtoken_any (c:Int) (w:World) (h0:0≤c) (h1:c≤255):
  Calls Tryz.prog 76 #[.int .u8 c] w fun e w'=>e= .returned (.bool (tokB c))∧w'=w:=by
 by_cases hd:digB c=true
 · go_enter Tryz.func76,Tryz.ntmps76;go_wp2_with (first|(go_at_call 117;refine(rletter_any _ _ (by omega) (by omega)).mono ?_;rintro e w' ⟨rfl,rfl⟩)|(go_at_call 94;refine(rdigit_any _ _ (by omega) (by omega)).mono ?_;rintro e w' ⟨rfl,rfl⟩));go_ret;exact⟨ret_bool (by simp [tokB,hd]),rfl⟩
 by_cases hl:letB c=true
 · go_enter Tryz.func76,Tryz.ntmps76;go_wp2_with (first|(go_at_call 117;refine(rletter_any _ _ (by omega) (by omega)).mono ?_;rintro e w' ⟨rfl,rfl⟩)|(go_at_call 94;refine(rdigit_any _ _ (by omega) (by omega)).mono ?_;rintro e w' ⟨rfl,rfl⟩));go_ret;exact⟨ret_bool (by simp [tokB,hl]),rfl⟩
 by_cases h96:c=96
 · subst h96;go_enter Tryz.func76,Tryz.ntmps76;go_wp2;go_ret;exact⟨rfl,rfl⟩
 go_enter Tryz.func76,Tryz.ntmps76;go_wp2_with (first|(go_at_call 117;refine(rletter_any _ _ (by omega) (by omega)).mono ?_;rintro e w' ⟨rfl,rfl⟩)|(go_at_call 94;refine(rdigit_any _ _ (by omega) (by omega)).mono ?_;rintro e w' ⟨rfl,rfl⟩));go_loop [3] (fun i=>∃ k:Nat,k≤14∧i= .int .i64 k∧∀ j:Nat,j<k→othAt j≠c) (fun i=>14-(intOf i).toNat)
 case atStart=>exact⟨0,Nat.zero_le _,rfl,fun j hj=>absurd hj (Nat.not_lt_zero _)⟩
 case round=>
  obtain⟨k,hk,rfl,hno⟩:=hrel;by_cases hlt:k<14
  · go_wp2
    · go_ret;exact⟨ret_bool (oth_hit hlt ‹_›).symm,rfl⟩
    · go_round
      case rel=>exact⟨k+1,by omega,by go_num,oth_miss hlt hno ‹_›⟩
      case measure=>simp [intOf];omega
  · go_wp2;go_ret;exact⟨ret_bool (oth_none hd hl h96 (fun j hj=>hno j (by omega))).symm,rfl⟩
def allTo (s:ByteArray) (k:Nat):Bool:=(s.data.toList.take k).all fun b=>tokB (b.toNat:Int)
def isTok (s:ByteArray):Bool:=decide (s.size≠0) && allTo s s.size
theorem empty_size (s:ByteArray):s.toList.isEmpty=decide (s.size=0):=by
 rw [Lib.toList_data,Bool.eq_iff_iff,List.isEmpty_iff_length_eq_zero];simp
theorem take_snoc (s:ByteArray) (k:Nat) (h:k<s.size):s.data.toList.take (k+1)=s.data.toList.take k++ [s[k]]:=by
 rw [List.take_succ_eq_append_getElem (by simpa using h)];rfl
theorem allTo_snoc (s:ByteArray) (k:Nat) (h:k<s.size):allTo s (k+1)=(allTo s k && tokB (s[k].toNat:Int)):=by
 unfold allTo;rw [take_snoc s k h];simp
theorem allTo_stop (s:ByteArray) (k:Nat) (h:k<s.size) (ht:tokB (s[k].toNat:Int)=false):allTo s s.size=false:=by
 unfold allTo;rw [List.all_eq_false];refine⟨s[k],?_,by simp [ht]⟩;rw [List.take_of_length_le (by simp)];exact List.getElem_mem (by simpa using h)
theorem isTok_stop (s:ByteArray) (k:Nat) (h:k<s.size) (ht:tokB (s[k].toNat:Int)=false):isTok s=false:=by
 unfold isTok;rw [allTo_stop s k h ht];simp
theorem istoken_any (s:ByteArray) (w:World) (hs:s.size≤maxLen):
  Calls Tryz.prog 40 #[.string s] w fun e w'=>e= .returned (.bool (isTok s))∧w'=w:=by
 unfold maxLen at hs;go_enter Tryz.func40,Tryz.ntmps40;go_wp2;go_loop [6] (fun i=>∃ k:Nat,k≤s.size∧i= .int .i64 k∧allTo s k=true) (fun i=>s.size-(intOf i).toNat)
 case atStart=>exact⟨0,Nat.zero_le _,rfl,rfl⟩
 case round=>
  obtain⟨k,hk,rfl,hall⟩:=hrel;by_cases hlt:k<s.size
  · have hb:=s[k].toNat_lt;by_cases ht:tokB (s[k].toNat:Int)=true
    · go_wp2_with (go_at_call 74;refine(token_any _ _ (by omega) (by omega)).mono ?_;rintro e w' ⟨rfl,rfl⟩);go_round
      case rel=>exact⟨k+1,by omega,by go_num,by rw [allTo_snoc s k hlt,hall,ht];rfl⟩
      case measure=>simp [intOf];omega
    · go_wp2_with (go_at_call 74;refine(token_any _ _ (by omega) (by omega)).mono ?_;rintro e w' ⟨rfl,rfl⟩);go_ret;exact⟨ret_bool (isTok_stop s k hlt (by simpa using ht)).symm,rfl⟩
  · go_wp2;go_ret;have hk':k=s.size:=by omega
    exact⟨ret_bool (by first|(unfold isTok;rw [←hk',hall,empty_size,←hk'];simp)|(unfold isTok;rw [←hk',hall];rw [Bool.eq_iff_iff];simp;omega)),rfl⟩
theorem ristoken_any (s:ByteArray) (w:World) (hs:s.size≤maxLen):
  Calls Tryz.prog 42 #[.string s] w fun e w'=>e= .returned (.bool (isTok s))∧w'=w:=by
 unfold maxLen at hs;go_enter Tryz.func42,Tryz.ntmps42;go_wp2;go_loop [3] (fun i=>∃ k:Nat,k≤s.size∧i= .int .i64 k∧allTo s k=true) (fun i=>s.size-(intOf i).toNat)
 case atStart=>exact⟨0,Nat.zero_le _,rfl,rfl⟩
 case round=>
  obtain⟨k,hk,rfl,hall⟩:=hrel;by_cases hlt:k<s.size
  · have hb:=s[k].toNat_lt;by_cases ht:tokB (s[k].toNat:Int)=true
    · go_wp2_with (go_at_call 76;refine(rtoken_any _ _ (by omega) (by omega)).mono ?_;rintro e w' ⟨rfl,rfl⟩);go_round
      case rel=>exact⟨k+1,by omega,by go_num,by rw [allTo_snoc s k hlt,hall,ht];rfl⟩
      case measure=>simp [intOf];omega
    · go_wp2_with (go_at_call 76;refine(rtoken_any _ _ (by omega) (by omega)).mono ?_;rintro e w' ⟨rfl,rfl⟩);go_ret;exact⟨ret_bool (isTok_stop s k hlt (by simpa using ht)).symm,rfl⟩
  · go_wp2;go_ret;have hk':k=s.size:=by omega
    exact⟨ret_bool (by first|(unfold isTok;rw [←hk',hall,empty_size,←hk'];simp)|(unfold isTok;rw [←hk',hall];rw [Bool.eq_iff_iff];simp;omega)),rfl⟩
def smallU (b:UInt8):UInt8:=if 65≤b.toNat∧b.toNat≤90 then UInt8.ofNat (b.toNat+32) else b
theorem smallU_val (b:UInt8):((smallU b).toNat:Int)=smallV (b.toNat:Int):=by
 unfold smallU smallV;by_cases h:65≤b.toNat∧b.toNat≤90
 · rw [if_pos h,if_pos (by omega)];rw [UInt8.toNat_ofNat'];omega
 · rw [if_neg h,if_neg (by omega)]
def lowL (s:ByteArray):List UInt8:=s.data.toList.map smallU
def lowS (s:ByteArray):ByteArray:=⟨(lowL s).toArray⟩
def lowA (s:ByteArray) (k cap:Nat):Array Value:=
 (((s.data.toList.take k).map smallU++s.data.toList.drop k).map (fun b:UInt8=>Value.int .u8 (b.toNat:Int))++List.replicate (cap-s.size) (Value.int .u8 0)).toArray
theorem lowA_zero (s:ByteArray) (cap:Nat):bytesRow s cap=lowA s 0 cap:=by
 apply Array.toList_inj.1;simp [lowA,bytesRow]
theorem lowA_size (s:ByteArray) (k cap:Nat) (h:k≤s.size):(lowA s k cap).size=s.size+(cap-s.size):=by
 simp [lowA];omega
theorem lowA_at (s:ByteArray) (k cap:Nat) (h:k<s.size):(lowA s k cap)[k]?=some (.int .u8 (s[k].toNat:Int)):=by
 simp only [lowA,List.getElem?_toArray];rw [List.getElem?_append_left (by simp;omega),List.getElem?_map,List.getElem?_append_right (by simp;omega),List.getElem?_drop];have:k+(k-((s.data.toList.take k).map smallU).length)=k:=by simp;omega
 rw [this,List.getElem?_eq_getElem (by simpa using h)];rfl
theorem lowA_set (s:ByteArray) (k cap:Nat) (h:k<s.size):(lowA s k cap).setIfInBounds k (.int .u8 (smallV (s[k].toNat:Int)))=lowA s (k+1) cap:=by
 apply Array.toList_inj.1;rw [←smallU_val];simp only [lowA,Array.toList_setIfInBounds];have e1:s.data.toList.drop k=s[k]::s.data.toList.drop (k+1):=by
  rw [List.drop_eq_getElem_cons (by simpa using h)];rfl
 rw [e1,take_snoc s k h,List.set_append_left _ _ (by simp;omega)];congr 1;simp only [List.map_append,List.map_cons,List.map_nil,List.append_assoc];rw [List.set_append_right _ _ (by simp;omega)];have:k-(((s.data.toList.take k).map smallU).map fun b=>Value.int .u8 (b.toNat:Int)).length=0:=by simp;omega
 rw [this];simp
theorem lowA_end (s:ByteArray) (cap j:Nat) (h:j<(lowL s).length):(lowA s s.size cap)[j]?=some (.int .u8 (((lowL s)[j]).toNat:Int)):=by
 have hj:j<s.size:=by simpa [lowL] using h
 simp only [lowA,List.getElem?_toArray];rw [List.getElem?_append_left (by simp;omega),List.getElem?_map,List.take_of_length_le (by simp),List.drop_eq_nil_of_le (by simp),List.append_nil];show ((lowL s)[j]?).map _=_;rw [List.getElem?_eq_getElem h];rfl
theorem mk_cell (w:World) (A:Array Value) (e:TypeId) (fz:Nat×Nat) (j:Nat):(w.alloc (.cells A e fz)).cell? ⟨w.heap.size,j,none⟩=A[j]?:=
 cell_of_row _ _ _ _ _ _ (heap_alloc_new w _)
theorem mk_frozen (w:World) (A:Array Value) (e:TypeId) (z y j:Nat) (h:j<z):(w.alloc (.cells A e (z,y))).frozen? ⟨w.heap.size,j,none⟩=false:=by
 simp only [World.frozen?,heap_alloc_new w _];simp;omega
theorem mk_set (w:World) (A:Array Value) (e:TypeId) (fz:Nat×Nat) (j:Nat) (v:Value):(w.alloc (.cells A e fz)).setCell ⟨w.heap.size,j,none⟩ v=w.alloc (.cells (A.setIfInBounds j v) e fz):=by
 unfold World.setCell World.alloc;congr 1;apply Array.ext_getElem?;intro k;rw [Array.getElem?_modify];by_cases hk:w.heap.size=k
 · subst hk;simp
 · have hk':k≠w.heap.size:=fun e=>hk e.symm
   simp [hk,hk',Array.getElem?_push]
theorem lower_any (s:ByteArray) (w:World) (hs:s.size≤maxLen):
  Calls Tryz.prog 100 #[.string s] w fun e w'=>e= .returned (.string (lowS s))∧Below w.heap.size w w':=by
 unfold maxLen at hs;have hcv:=run_bytes_of_string (P:=Tryz.prog) w 9 138 5 s Tryz.underlying9 Tryz.underlying138 Tryz.underlying5;generalize grownCap w s.size 0 5=cap at hcv;rw [lowA_zero,lowA_size s 0 cap (Nat.zero_le _)] at hcv;generalize hz:s.size+(cap-s.size)=z at hcv;go_enter Tryz.func100,Tryz.ntmps100;go_wp2;clear hcv;go_loopw [10] (fun i W=>∃ k:Nat,k≤s.size∧i= .int .i64 k∧W=(w.alloc (.cells (lowA s k cap) 5 (z,z+1))).drew) (fun i _=>s.size-(intOf i).toNat)
 case atStart=>exact⟨0,Nat.zero_le _,rfl,rfl⟩
 case round=>
  obtain⟨k,hk,rfl,rfl⟩:=hrel;by_cases hlt:k<s.size
  · have hb:=s[k].toNat_lt;have hcell:=(mk_cell w (lowA s k cap) 5 (z,z+1) k).trans (lowA_at s k cap hlt);have hfr:=mk_frozen w (lowA s k cap) 5 z (z+1) k (by omega);have hst:=(mk_set w (lowA s k cap) 5 (z,z+1) k (.int .u8 (smallV (s[k].toNat:Int)))).trans (by rw [lowA_set s k cap hlt]);go_wp2_with (go_at_call 135;refine(small_any _ _ (by omega) (by omega)).mono ?_;rintro e w' ⟨rfl,rfl⟩);go_roundw
    case rel=>exact⟨k+1,by omega,by go_num,rfl⟩
    case measure=>simp [intOf];omega
  · have hk':k=s.size:=by omega
    subst hk';have hcv:∀ W,W=(w.alloc (.cells (lowA s s.size cap) 5 (z,z+1))).drew→(convert 138 9 (.slice (some ⟨w.heap.size,0,none⟩) s.size cap)).run Tryz.prog W= .ok (.string (lowS s)) W:=fun W hW=>by
     have:=run_convert_bytes_back (P:=Tryz.prog) W 138 9 5 ⟨w.heap.size,0,none⟩ cap (lowL s) Tryz.underlying138 Tryz.underlying5 Tryz.underlying9 (fun j hj=>by
      rw [Lib.add_plain,hW,World.cell?_drew,Nat.zero_add,mk_cell];exact lowA_end s cap j hj)
     rw [show (lowL s).length=s.size by simp [lowL]] at this;exact this
    have hcv':=hcv _ rfl;clear hcv;go_wp2;go_ret;exact⟨rfl,((Below.refl _ _).alloc (Nat.le_refl _) _).drew⟩
theorem info5:(Tryz.prog.info? 5).map (fun i=>(i.zero,i.size,i.bytes))=some (some (.int .u8 0),1,1):=by kernel_rfl
def lowV (b:UInt8):Value:=.int .u8 (b.toNat:Int)
def lowT (s:ByteArray) (k:Nat):List Value:=((s.data.toList.take k).map smallU).map lowV
theorem lowT_snoc (s:ByteArray) (k:Nat) (h:k<s.size):lowT s (k+1)=lowT s k++ [.int .u8 (smallV (s[k].toNat:Int))]:=by
 unfold lowT;rw [take_snoc s k h,←smallU_val];simp [lowV]
theorem one_cellL (w:World) (x:Value) (e:TypeId):∀ j u,[x][j]?=some u→(w.alloc (.cells #[x] e)).cell? ((⟨w.heap.size,0,none⟩:Addr).add j)=some u:=by
 intro j u hj
 match j,hj with
 |0,hj=>simp at hj;subst hj;simp [Addr.add]
theorem one_plainL (k:IntKind) (x:Int):∀ u,u∈ [Value.int k x]→u.oneCell'=true:=by
 intro u hu;simp at hu;subst hu;rfl
theorem app_belowL {w wr w1:World}{o:Obj}{v:Value}{e:TypeId}{size k:Nat}{xs:List Value} (hbel:Below w.heap.size w wr) (hown:wr.ownsRow w.heap.size e size v k xs) (hg:(wr.alloc o).grownBy w1 v.ownBlock):Below w.heap.size w w1:=
  (hbel.alloc hbel.size o).grown hg (by have h1:=hbel.size;have h2:wr.heap.size≤(wr.alloc o).heap.size:=by simp
                                        omega) (fun k hk=>(hown.lt k hk).1)
theorem lowT_all (s:ByteArray):lowT s s.size=(lowL s).map lowV:=by
 unfold lowT lowL;rw [List.take_of_length_le (by simp)]
theorem own_bytesL {W:World}{B n:Nat}{v:Value}{l:List UInt8} (h:W.ownsRow B 5 1 v n (l.map lowV)):(convert 138 9 v).run Tryz.prog W= .ok (.string ⟨l.toArray⟩) W:=by
 have hn:l.length=n:=by have:=h.1;simpa using this
 rcases h.2 with ⟨rfl,rfl⟩|⟨g,cap,cur,rfl,_⟩
 · have hl:l= []:=List.eq_nil_of_length_eq_zero hn;subst hl;exact run_convert_bytes_nil W 138 5 Tryz.underlying138 Tryz.underlying5 0 0 9 Tryz.underlying9
 · subst hn;refine run_convert_bytes_back W 138 9 5 ⟨g,0,none⟩ cap l Tryz.underlying138 Tryz.underlying5 Tryz.underlying9 (fun j hj=>?_);rw [Lib.add_plain,Nat.zero_add,h.cellAt j (by omega)];simp [hj,lowV]
theorem own_string {W:World}{B:Nat}{v:Value}{s:ByteArray} (h:W.ownsRow B 5 1 v s.size (lowT s s.size)):(convert 138 9 v).run Tryz.prog W= .ok (.string (lowS s)) W:=by
 rw [lowT_all] at h;exact own_bytesL h
theorem rlower_any (s:ByteArray) (w:World) (hs:s.size≤140737488351232):
  Calls Tryz.prog 69 #[.string s] w fun e w'=>e= .returned (.string (lowS s))∧Below w.heap.size w w':=by
 obtain⟨i0,hi,hz0,hz1,hz2⟩:=info_parts info5;go_enter Tryz.func69,Tryz.ntmps69;go_wp2;go_loopw [3,4] (fun v i W=>∃ k:Nat,k≤s.size∧i= .int .i64 k∧W.ownsRow w.heap.size 5 1 v k (lowT s k)∧Below w.heap.size w W) (fun _ i _=>s.size-(intOf i).toNat)
 case atStart=>exact⟨0,Nat.zero_le _,rfl,World.ownsRow_nil _ _ _ _,Below.refl _ _⟩
 case round=>
  obtain⟨k,hk,rfl,hown,hbel⟩:=hrel
  rename World=>wr
  by_cases hlt:k<s.size
  · have hb:=s[k].toNat_lt;have hsz:=hbel.size;by_cases hup:65≤(s[k].toNat:Int)∧(s[k].toNat:Int)≤90
    · obtain⟨hu1,hu2⟩:=hup;have hsn:=Lib.hid ((lowT_snoc s k hlt).trans (by rw [show smallV (s[k].toNat:Int)=(s[k].toNat:Int)-65+97 by unfold smallV;rw [if_pos ⟨hu1,hu2⟩];omega]));go_wp2_with (first
       |(at_builtin;refine wpList_append_own _ rfl _ _ 138 rfl w.heap.size 5 i0 (.int .u8 0) 1 1 Tryz.underlying138 hi hz0 hz1 hz2 rfl (by decide) _ _ _ rfl (hown.alloc _) ⟨wr.heap.size,0,none⟩ 1 1 [.int .u8 ((s[k].toNat:Int)-65+97)] rfl rfl (one_cellL _ _ _) (one_plainL _ _) (by unfold maxLen;omega) (by omega) (by simp;omega) ?_;intro v' w1 hown' hgrow _)
       |go_in)
      have hb1:=app_belowL hbel hown hgrow;rw [←hsn.out] at hown';clear hown hgrow hbel;go_wp2;go_roundw
      case rel=>exact⟨k+1,by omega,by go_num,hown',hb1⟩
      case measure=>simp [intOf];omega
    · have hsn:=Lib.hid ((lowT_snoc s k hlt).trans (by rw [show smallV (s[k].toNat:Int)=(s[k].toNat:Int) by unfold smallV;rw [if_neg hup]]));have hup':(s[k].toNat:Int)<65∨90<(s[k].toNat:Int):=by omega
      clear hup;rcases hup' with hup|hup
      · go_wp2_with (first
         |(at_builtin;refine wpList_append_own _ rfl _ _ 138 rfl w.heap.size 5 i0 (.int .u8 0) 1 1 Tryz.underlying138 hi hz0 hz1 hz2 rfl (by decide) _ _ _ rfl (hown.alloc _) ⟨wr.heap.size,0,none⟩ 1 1 [.int .u8 ((s[k].toNat:Int))] rfl rfl (one_cellL _ _ _) (one_plainL _ _) (by unfold maxLen;omega) (by omega) (by simp;omega) ?_;intro v' w1 hown' hgrow _)
         |go_in)
        have hb1:=app_belowL hbel hown hgrow;rw [←hsn.out] at hown';clear hown hgrow hbel;go_wp2;go_roundw
        case rel=>exact⟨k+1,by omega,by go_num,hown',hb1⟩
        case measure=>simp [intOf];omega
      · go_wp2_with (first
         |(at_builtin;refine wpList_append_own _ rfl _ _ 138 rfl w.heap.size 5 i0 (.int .u8 0) 1 1 Tryz.underlying138 hi hz0 hz1 hz2 rfl (by decide) _ _ _ rfl (hown.alloc _) ⟨wr.heap.size,0,none⟩ 1 1 [.int .u8 ((s[k].toNat:Int))] rfl rfl (one_cellL _ _ _) (one_plainL _ _) (by unfold maxLen;omega) (by omega) (by simp;omega) ?_;intro v' w1 hown' hgrow _)
         |go_in)
        have hb1:=app_belowL hbel hown hgrow;rw [←hsn.out] at hown';clear hown hgrow hbel;go_wp2;go_roundw
        case rel=>exact⟨k+1,by omega,by go_num,hown',hb1⟩
        case measure=>simp [intOf];omega
  · have hk':k=s.size:=by omega
    subst hk';have hcv:=own_string hown;go_wp2;go_ret;exact⟨rfl,hbel⟩
end Go.Proofs.YtlmlljlappjjjaaGreatDoor
