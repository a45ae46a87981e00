/- The classes of bytes of package chars, and the document's: each call returns the plain function's answer and leaves the world as it was; for every byte. -/
import Derived.Test.YtlmlljlappjjjaaGreatDoorTKey
import Derived.Lib.ItoaMem
import Derived.Laws.AppendOwnNone
namespace Go.Proofs.YtlmlljlappjjjaaGreatDoor
set_option maxHeartbeats 1000000
open Go.RowKit
def digB (c:Int):Bool:=decide (48≤c∧c≤57)
def letB (c:Int):Bool:=decide ((97≤c∧c≤122)∨(65≤c∧c≤90))
def othB (c:Int):Bool:=decide (c=33∨c=35∨c=36∨c=37∨c=38∨c=39∨c=42∨c=43∨c=45∨c=46∨c=94∨c=95∨c=96∨c=124∨c=126)
def tokB (c:Int):Bool:=othB c || letB c || digB c
def visB (c:Int):Bool:=decide (33≤c∧c≤126)
theorem digit_any (c:Int) (w:World) (h0:0≤c) (h1:c≤255):
  Calls Tryz.prog 116 #[.int .u8 c] w fun e w'=>e= .returned (.bool (digB c))∧w'=w:=by
 go_enter Tryz.func116,Tryz.ntmps116;go_wp2;all_goals
  go_ret;exact⟨ret_bool (by rw [Bool.eq_iff_iff];simp [digB];try omega),rfl⟩
theorem visible_any (c:Int) (w:World) (h0:0≤c) (h1:c≤255):
  Calls Tryz.prog 177 #[.int .u8 c] w fun e w'=>e= .returned (.bool (visB c))∧w'=w:=by
 go_enter Tryz.func177,Tryz.ntmps177;go_wp2;all_goals
  go_ret;exact⟨ret_bool (by rw [Bool.eq_iff_iff];simp [visB];try omega),rfl⟩
def smallV (c:Int):Int:=if 65≤c∧c≤90 then c+32 else c
theorem ret_int {k:IntKind}{a b:Int} (h:a=b):Ending.returned (.int k a)= .returned (.int k b):=by rw [h]
theorem ret_ib {k:IntKind}{a b:Int}{x y:Bool} (h:a=b) (g:x=y):Ending.returned (.tuple #[.int k a,.bool x])= .returned (.tuple #[.int k b,.bool y]):=by rw [h,g]
theorem small_any (c:Int) (w:World) (h0:0≤c) (h1:c≤255):
  Calls Tryz.prog 135 #[.int .u8 c] w fun e w'=>e= .returned (.int .u8 (smallV c))∧w'=w:=by
 by_cases h:65≤c∧c≤90
 · obtain⟨ha,hb⟩:=h;go_enter Tryz.func135,Tryz.ntmps135;go_wp2;go_ret;exact⟨ret_int (by unfold smallV;rw [if_pos ⟨ha,hb⟩]),rfl⟩
 · go_enter Tryz.func135,Tryz.ntmps135;go_wp2;all_goals
    go_ret;exact⟨ret_int (by unfold smallV;rw [if_neg h]),rfl⟩
theorem letter_any (c:Int) (w:World) (h0:0≤c) (h1:c≤255):
  Calls Tryz.prog 115 #[.int .u8 c] w fun e w'=>e= .returned (.bool (letB c))∧w'=w:=by
 go_enter Tryz.func115,Tryz.ntmps115;go_wp2;all_goals
  go_ret;exact⟨ret_bool (by rw [Bool.eq_iff_iff];simp [letB];try omega),rfl⟩
theorem token_any (c:Int) (w:World) (h0:0≤c) (h1:c≤255):
  Calls Tryz.prog 74 #[.int .u8 c] w fun e w'=>e= .returned (.bool (tokB c))∧w'=w:=by
 go_enter Tryz.func74,Tryz.ntmps74;go_wp2_with (first|(go_at_call 115;refine(letter_any _ _ (by omega) (by omega)).mono ?_;rintro e w' ⟨rfl,rfl⟩)|(go_at_call 116;refine(digit_any _ _ (by omega) (by omega)).mono ?_;rintro e w' ⟨rfl,rfl⟩));all_goals
  go_ret;exact⟨ret_bool (by(try simp only [beq_iff_eq,beq_eq_false_iff_ne,ne_eq,letB,decide_eq_true_eq] at*);rw [Bool.eq_iff_iff];simp [tokB,othB,letB,digB];try omega),rfl⟩
def allTo (s:ByteArray) (k:Nat):Bool:=(s.data.toList.take k).all fun b=>tokB (b.toNat:Int)
def isTok (s:ByteArray):Bool:=decide (s.size≠0) && allTo s s.size
theorem empty_size (s:ByteArray):s.toList.isEmpty=decide (s.size=0):=by
 rw [Lib.toList_data,Bool.eq_iff_iff,List.isEmpty_iff_length_eq_zero];simp
theorem take_snoc (s:ByteArray) (k:Nat) (h:k<s.size):s.data.toList.take (k+1)=s.data.toList.take k++ [s[k]]:=by
 rw [List.take_succ_eq_append_getElem (by simpa using h)];rfl
theorem allTo_snoc (s:ByteArray) (k:Nat) (h:k<s.size):allTo s (k+1)=(allTo s k && tokB (s[k].toNat:Int)):=by
 unfold allTo;rw [take_snoc s k h];simp
theorem allTo_stop (s:ByteArray) (k:Nat) (h:k<s.size) (ht:tokB (s[k].toNat:Int)=false):allTo s s.size=false:=by
 unfold allTo;rw [List.all_eq_false];refine⟨s[k],?_,by simp [ht]⟩;rw [List.take_of_length_le (by simp)];exact List.getElem_mem (by simpa using h)
theorem isTok_stop (s:ByteArray) (k:Nat) (h:k<s.size) (ht:tokB (s[k].toNat:Int)=false):isTok s=false:=by
 unfold isTok;rw [allTo_stop s k h ht];simp
theorem istoken_any (s:ByteArray) (w:World) (hs:s.size≤maxLen):
  Calls Tryz.prog 40 #[.string s] w fun e w'=>e= .returned (.bool (isTok s))∧w'=w:=by
 unfold maxLen at hs;go_enter Tryz.func40,Tryz.ntmps40;go_wp2;go_loop [6] (fun i=>∃ k:Nat,k≤s.size∧i= .int .i64 k∧allTo s k=true) (fun i=>s.size-(intOf i).toNat)
 case atStart=>exact⟨0,Nat.zero_le _,rfl,rfl⟩
 case round=>
  obtain⟨k,hk,rfl,hall⟩:=hrel;by_cases hlt:k<s.size
  · have hb:=s[k].toNat_lt;by_cases ht:tokB (s[k].toNat:Int)=true
    · go_wp2_with (go_at_call 74;refine(token_any _ _ (by omega) (by omega)).mono ?_;rintro e w' ⟨rfl,rfl⟩);go_round
      case rel=>exact⟨k+1,by omega,by go_num,by rw [allTo_snoc s k hlt,hall,ht];rfl⟩
      case measure=>simp [intOf];omega
    · go_wp2_with (go_at_call 74;refine(token_any _ _ (by omega) (by omega)).mono ?_;rintro e w' ⟨rfl,rfl⟩);go_ret;exact⟨ret_bool (isTok_stop s k hlt (by simpa using ht)).symm,rfl⟩
  · go_wp2;go_ret;have hk':k=s.size:=by omega
    exact⟨ret_bool (by first|(unfold isTok;rw [←hk',hall,empty_size,←hk'];simp)|(unfold isTok;rw [←hk',hall];rw [Bool.eq_iff_iff];simp;omega)),rfl⟩
def smallU (b:UInt8):UInt8:=if 65≤b.toNat∧b.toNat≤90 then UInt8.ofNat (b.toNat+32) else b
theorem smallU_val (b:UInt8):((smallU b).toNat:Int)=smallV (b.toNat:Int):=by
 unfold smallU smallV;by_cases h:65≤b.toNat∧b.toNat≤90
 · rw [if_pos h,if_pos (by omega)];rw [UInt8.toNat_ofNat'];omega
 · rw [if_neg h,if_neg (by omega)]
def lowL (s:ByteArray):List UInt8:=s.data.toList.map smallU
def lowS (s:ByteArray):ByteArray:=⟨(lowL s).toArray⟩
def lowA (s:ByteArray) (k cap:Nat):Array Value:=
 (((s.data.toList.take k).map smallU++s.data.toList.drop k).map (fun b:UInt8=>Value.int .u8 (b.toNat:Int))++List.replicate (cap-s.size) (Value.int .u8 0)).toArray
theorem lowA_zero (s:ByteArray) (cap:Nat):bytesRow s cap=lowA s 0 cap:=by
 apply Array.toList_inj.1;simp [lowA,bytesRow]
theorem lowA_size (s:ByteArray) (k cap:Nat) (h:k≤s.size):(lowA s k cap).size=s.size+(cap-s.size):=by
 simp [lowA];omega
theorem lowA_at (s:ByteArray) (k cap:Nat) (h:k<s.size):(lowA s k cap)[k]?=some (.int .u8 (s[k].toNat:Int)):=by
 simp only [lowA,List.getElem?_toArray];rw [List.getElem?_append_left (by simp;omega),List.getElem?_map,List.getElem?_append_right (by simp;omega),List.getElem?_drop];have:k+(k-((s.data.toList.take k).map smallU).length)=k:=by simp;omega
 rw [this,List.getElem?_eq_getElem (by simpa using h)];rfl
theorem lowA_set (s:ByteArray) (k cap:Nat) (h:k<s.size):(lowA s k cap).setIfInBounds k (.int .u8 (smallV (s[k].toNat:Int)))=lowA s (k+1) cap:=by
 apply Array.toList_inj.1;rw [←smallU_val];simp only [lowA,Array.toList_setIfInBounds];have e1:s.data.toList.drop k=s[k]::s.data.toList.drop (k+1):=by
  rw [List.drop_eq_getElem_cons (by simpa using h)];rfl
 rw [e1,take_snoc s k h,List.set_append_left _ _ (by simp;omega)];congr 1;simp only [List.map_append,List.map_cons,List.map_nil,List.append_assoc];rw [List.set_append_right _ _ (by simp;omega)];have:k-(((s.data.toList.take k).map smallU).map fun b=>Value.int .u8 (b.toNat:Int)).length=0:=by simp;omega
 rw [this];simp
theorem lowA_end (s:ByteArray) (cap j:Nat) (h:j<(lowL s).length):(lowA s s.size cap)[j]?=some (.int .u8 (((lowL s)[j]).toNat:Int)):=by
 have hj:j<s.size:=by simpa [lowL] using h
 simp only [lowA,List.getElem?_toArray];rw [List.getElem?_append_left (by simp;omega),List.getElem?_map,List.take_of_length_le (by simp),List.drop_eq_nil_of_le (by simp),List.append_nil];show ((lowL s)[j]?).map _=_;rw [List.getElem?_eq_getElem h];rfl
theorem mk_cell (w:World) (A:Array Value) (e:TypeId) (fz:Nat×Nat) (j:Nat):(w.alloc (.cells A e fz)).cell? ⟨w.heap.size,j,none⟩=A[j]?:=
 cell_of_row _ _ _ _ _ _ (heap_alloc_new w _)
theorem mk_frozen (w:World) (A:Array Value) (e:TypeId) (z y j:Nat) (h:j<z):(w.alloc (.cells A e (z,y))).frozen? ⟨w.heap.size,j,none⟩=false:=by
 simp only [World.frozen?,heap_alloc_new w _];simp;omega
theorem mk_set (w:World) (A:Array Value) (e:TypeId) (fz:Nat×Nat) (j:Nat) (v:Value):(w.alloc (.cells A e fz)).setCell ⟨w.heap.size,j,none⟩ v=w.alloc (.cells (A.setIfInBounds j v) e fz):=by
 unfold World.setCell World.alloc;congr 1;apply Array.ext_getElem?;intro k;rw [Array.getElem?_modify];by_cases hk:w.heap.size=k
 · subst hk;simp
 · have hk':k≠w.heap.size:=fun e=>hk e.symm
   simp [hk,hk',Array.getElem?_push]
theorem lower_any (s:ByteArray) (w:World) (hs:s.size≤maxLen):
  Calls Tryz.prog 100 #[.string s] w fun e w'=>e= .returned (.string (lowS s))∧Below w.heap.size w w':=by
 unfold maxLen at hs;have hcv:=run_bytes_of_string (P:=Tryz.prog) w 9 138 5 s Tryz.underlying9 Tryz.underlying138 Tryz.underlying5;generalize grownCap w s.size 0 5=cap at hcv;rw [lowA_zero,lowA_size s 0 cap (Nat.zero_le _)] at hcv;generalize hz:s.size+(cap-s.size)=z at hcv;go_enter Tryz.func100,Tryz.ntmps100;go_wp2;clear hcv;go_loopw [10] (fun i W=>∃ k:Nat,k≤s.size∧i= .int .i64 k∧W=(w.alloc (.cells (lowA s k cap) 5 (z,z+1))).drew) (fun i _=>s.size-(intOf i).toNat)
 case atStart=>exact⟨0,Nat.zero_le _,rfl,rfl⟩
 case round=>
  obtain⟨k,hk,rfl,rfl⟩:=hrel;by_cases hlt:k<s.size
  · have hb:=s[k].toNat_lt;have hcell:=(mk_cell w (lowA s k cap) 5 (z,z+1) k).trans (lowA_at s k cap hlt);have hfr:=mk_frozen w (lowA s k cap) 5 z (z+1) k (by omega);have hst:=(mk_set w (lowA s k cap) 5 (z,z+1) k (.int .u8 (smallV (s[k].toNat:Int)))).trans (by rw [lowA_set s k cap hlt]);go_wp2_with (go_at_call 135;refine(small_any _ _ (by omega) (by omega)).mono ?_;rintro e w' ⟨rfl,rfl⟩);go_roundw
    case rel=>exact⟨k+1,by omega,by go_num,rfl⟩
    case measure=>simp [intOf];omega
  · have hk':k=s.size:=by omega
    subst hk';have hcv:∀ W,W=(w.alloc (.cells (lowA s s.size cap) 5 (z,z+1))).drew→(convert 138 9 (.slice (some ⟨w.heap.size,0,none⟩) s.size cap)).run Tryz.prog W= .ok (.string (lowS s)) W:=fun W hW=>by
     have:=run_convert_bytes_back (P:=Tryz.prog) W 138 9 5 ⟨w.heap.size,0,none⟩ cap (lowL s) Tryz.underlying138 Tryz.underlying5 Tryz.underlying9 (fun j hj=>by
      rw [Lib.add_plain,hW,World.cell?_drew,Nat.zero_add,mk_cell];exact lowA_end s cap j hj)
     rw [show (lowL s).length=s.size by simp [lowL]] at this;exact this
    have hcv':=hcv _ rfl;clear hcv;go_wp2;go_ret;exact⟨rfl,((Below.refl _ _).alloc (Nat.le_refl _) _).drew⟩
def cutH:B→List B
 | []=>[[]]
 |c::s=>if c=46 then []::cutH s else match cutH s with
  | []=>[[c]]
  |x::l=>(c::x)::l
theorem cutH_ne (s:B):cutH s≠ []:=by
 cases s with
 |nil=>simp [cutH]
 |cons c s=>
  unfold cutH;split
  · simp
  · split <;> simp
theorem cutH_nodot:∀ (s:B) (x:B),x∈cutH s→(46:UInt8)∉x
 | [],x,h=>by
  simp [cutH] at h;subst h;simp
 |c::s,x,h=>by
  have ih:=cutH_nodot s;unfold cutH at h;split at h
  · rcases List.mem_cons.1 h with h1|h1
    · subst h1;simp
    · exact ih x h1
  · rename_i hc
    split at h
    · simp at h;subst h;simp;exact fun e=>hc e.symm
    · rename_i y l e
      rcases List.mem_cons.1 h with h1|h1
      · subst h1;have:=ih y (by rw [e];simp);simp;exact⟨fun e=>hc e.symm,this⟩
      · exact ih x (by rw [e];simp [h1])
theorem cutH_cons (c:UInt8) (s:B):cutH (c::s)=if c=46 then []::cutH s else match cutH s with
 | []=>[[c]]
 |x::l=>(c::x)::l:=rfl
theorem cutH_app:∀ (x s:B),(46:UInt8)∉x→cutH (x++46::s)=x::cutH s
 | [],s,_=>by
  show cutH (46::s)=_;rw [cutH_cons,if_pos rfl]
 |c::x,s,h=>by
  simp at h;have ih:=cutH_app x s h.2;show cutH (c::(x++46::s))=_;rw [cutH_cons,if_neg (fun e=>h.1 e.symm),ih]
theorem cutH_only:∀ (x:B),(46:UInt8)∉x→cutH x= [x]
 | [],_=>rfl
 |c::x,h=>by
  simp at h;have ih:=cutH_only x h.2;rw [cutH_cons,if_neg (fun e=>h.1 e.symm),ih]
theorem cutH_len:∀ s:B,(cutH s).length≤s.length+1
 | []=>Nat.le_refl _
 |c::s=>by
  have ih:=cutH_len s;rw [cutH_cons];split
  · simp;omega
  · split
    · simp
    · rename_i y l e
      rw [e] at ih;simp at ih ⊢;omega
def lowH (b:B):B:=b.map smallU
theorem lowS_strH (b:B):lowS (str b)=str (lowH b):=by
 unfold lowS lowL lowH str;simp
def hostI (c:Int):Bool:=(decide (97≤c) && decide (c≤122)) || (decide (65≤c) && decide (c≤90)) || digB c || decide (c=45) || decide (c=95)
def hostU (c:UInt8):Bool:=hostI (c.toNat:Int)
def okLab (wild:Bool) (l:B):Bool:=decide (1≤l.length) && decide (l.length≤63) && ((wild && decide (l= [42])) || l.all hostU)
def labsH (wild:Bool) (s:B):Option (List B):=if s= []∨253<s.length then none else if (cutH s).all (okLab wild) then some ((cutH s).map lowH) else none
def starL:B:=[42]
def fitsL:List B→List B→Bool
 | [],[]=>true
 |x::l,y::r=>(decide (x=starL) || decide (x=y)) && fitsL l r
 |_,_=>false
def aheadL:List B→List B→Bool
 |x::l,y::r=>if (x=starL)=(y=starL) then aheadL l r else decide (y=starL)
 |_,_=>false
def fitsS (p h:List B):Bool:=decide (p= []) || fitsL p h
def aheadS (a b:List B):Bool:=if a= []∨b= [] then decide (a≠ []) && decide (b= []) else aheadL a b
theorem aheadL_irrefl:∀ a:List B,aheadL a a=false
 | []=>rfl
 |x::l=>by
  unfold aheadL;rw [if_pos rfl];exact aheadL_irrefl l
theorem aheadL_trans:∀ {a b c:List B},aheadL a b=true→aheadL b c=true→aheadL a c=true
 | [],_,_,h,_=>by simp [aheadL] at h
 |_::_,[],_,h,_=>by simp [aheadL] at h
 |_::_,_::_,[],_,h=>by simp [aheadL] at h
 |x::a,y::b,z::c,h1,h2=>by
  unfold aheadL at h1 h2 ⊢;by_cases e1:(x=starL)=(y=starL)
  · rw [if_pos e1] at h1;by_cases e2:(y=starL)=(z=starL)
    · rw [if_pos e2] at h2;rw [if_pos (e1.trans e2)];exact aheadL_trans h1 h2
    · rw [if_neg e2] at h2;rw [if_neg (by rw [e1];exact e2)];exact h2
  · rw [if_neg e1] at h1;by_cases e2:(y=starL)=(z=starL)
    · rw [if_neg (by rw [←e2];exact e1)];have h9:=of_decide_eq_true h1;rw [e2] at h9;exact decide_eq_true h9
    · rw [if_neg e2] at h2;exfalso;have a1:=of_decide_eq_true h1;have a2:=of_decide_eq_true h2;exact e2 (propext ⟨fun _=>a2,fun _=>a1⟩)
theorem aheadL_total:∀ (a b h:List B),fitsL a h=true→fitsL b h=true→a=b∨aheadL a b=true∨aheadL b a=true
 | [],b,h,ha,hb=>by
  cases h with
  |nil=>
   cases b with
   |nil=>exact .inl rfl
   |cons z m=>simp [fitsL] at hb
  |cons y r=>simp [fitsL] at ha
 |x::l,b,[],ha,_=>by simp [fitsL] at ha
 |x::l,[],y::r,_,hb=>by simp [fitsL] at hb
 |x::l,z::m,y::r,ha,hb=>by
  simp [fitsL] at ha hb;by_cases e:(x=starL)=(z=starL)
  · have hs:aheadL (x::l) (z::m)=aheadL l m:=by
     rw [aheadL,if_pos e]
    have hs':aheadL (z::m) (x::l)=aheadL m l:=by
     rw [aheadL,if_pos e.symm]
    rw [hs,hs'];rcases aheadL_total l m r ha.2 hb.2 with h|h
    · left;subst h;by_cases e1:x=starL
      · have e2:z=starL:=by rw [←e];exact e1
        rw [e1,e2]
      · have e2:¬z=starL:=by rw [←e];exact e1
        have h1:=ha.1.resolve_left e1;have h2:=hb.1.resolve_left e2;rw [h1,h2]
    · exact .inr h
  · right;rw [aheadL,if_neg e,aheadL,if_neg (fun e'=>e e'.symm)];by_cases e1:x=starL
    · exact .inr (decide_eq_true e1)
    · refine .inl (decide_eq_true ?_);by_cases e2:z=starL
      · exact e2
      · exact absurd (propext ⟨fun h=>absurd h e1,fun h=>absurd h e2⟩) e
theorem aheadS_irrefl (a:List B):aheadS a a=false:=by
 unfold aheadS;split
 · cases a <;> rfl
 · exact aheadL_irrefl a
theorem aheadS_trans {a b c:List B} (h1:aheadS a b=true) (h2:aheadS b c=true):aheadS a c=true:=by
 unfold aheadS at h1 h2 ⊢;by_cases ea:a= [] <;> by_cases eb:b= [] <;> by_cases ec:c= [] <;> simp [ea,eb,ec] at h1 h2 ⊢
 exact aheadL_trans h1 h2
theorem aheadS_asymm {a b:List B} (h:aheadS a b=true):aheadS b a=false:=by
 cases e:aheadS b a with
 |false=>rfl
 |true=>
  have:=aheadS_trans h e;rw [aheadS_irrefl] at this;cases this
theorem aheadS_total (a b h:List B) (ha:fitsS a h=true) (hb:fitsS b h=true):a=b∨aheadS a b=true∨aheadS b a=true:=by
 unfold fitsS at ha hb;unfold aheadS;by_cases ea:a= [] <;> by_cases eb:b= [] <;> simp [ea,eb] at ha hb ⊢
 rcases aheadL_total a b h ha hb with h|h
 · exact .inl h
 · exact .inr h
theorem row_lenH {w:World}{b n sz L c:Nat}{T:TypeId}{p:Option Addr}{xs:List Value} (h:w.ownsRow b T sz (.slice p L c) n xs):L=n:=by
 rcases h.2 with ⟨h1,h2⟩|⟨g,cap,cur,h1,_⟩
 · injection h1 with _ h3;omega
 · injection h1
def LbAt (w:World) (p:Option Addr) (l:List B):Prop:=∀ (j:Nat) (t:B),l[j]?=some t→∃ g o,p=some ⟨g,o,none⟩∧w.cell? ⟨g,o+j,none⟩=some (.string (str t))
theorem OwnS.lb {w:World}{base n c:Nat}{p:Option Addr}{l:List B} (h:OwnS w base (.slice p n c) l):LbAt w p l:=fun _ _ hj=>h.at hj
theorem LbAt.next {w w':World}{p:Option Addr}{l:List B} (h:LbAt w p l) (hb:Below w.heap.size w w'):LbAt w' p l:=by
 intro j t hj;obtain⟨g,o,e,hc⟩:=h j t hj;exact⟨g,o,e,cell_keep hb hc⟩
theorem below_drewH (w:World) (n:Nat):Below w.heap.size w (w.drewN n):=⟨rfl,rfl,rfl,Nat.le_refl _,fun _ _=>rfl⟩
theorem labsH_some {wild:Bool}{s:B}{x:List B} (h:labsH wild s=some x):s≠ []∧s.length≤253∧x=(cutH s).map lowH∧x.length≤254∧x≠ []:=by
 unfold labsH at h;split at h
 · cases h
 · rename_i h1
   split at h
   · injection h with h
     subst h;have:=cutH_len s;refine⟨fun e=>h1 (.inl e),Nat.le_of_not_lt (fun e=>h1 (.inr e)),rfl,?_,?_⟩
     · rw [List.length_map];have h2:¬253<s.length:=fun e=>h1 (.inr e)
       omega
     · intro e;exact cutH_ne s (List.map_eq_nil_iff.1 e)
   · cases h
theorem fitsL_len:∀ {x y:List B},fitsL x y=true→x.length=y.length
 | [],[],_=>rfl
 | [],_::_,h=>by simp [fitsL] at h
 |_::_,[],h=>by simp [fitsL] at h
 |a::x,b::y,h=>by
  unfold fitsL at h;rw [Bool.and_eq_true] at h;rw [List.length_cons,List.length_cons,fitsL_len h.2]
theorem star_or (S:ByteArray) {a:B} (h:str a=S):(a=starL∧S=(⟨#[42]⟩:ByteArray))∨(¬a=starL∧¬S=(⟨#[42]⟩:ByteArray)):=by
 by_cases e:a=starL
 · exact .inl ⟨e,by rw [←h,e];rfl⟩
 · exact .inr ⟨e,fun h1=>e (str_inj (by rw [h,h1];rfl))⟩
theorem star_not {S:ByteArray} (h:¬S=(⟨#[42]⟩:ByteArray)):(S.toList== [42])=false:=by
 have h:=ne_list h;rw [ByteArray.toList_eq,ByteArray.toList_eq] at h;rw [ByteArray.toList_eq];exact h
def patH (p:B):Option (List B):=if p= [] then some [] else labsH true p
theorem patH_nil:patH []=some []:=rfl
theorem patH_ne {p:B} (h:p≠ []):patH p=labsH true p:=if_neg h
def fitsAns (p h:B):Option Bool:=match patH p,labsH false h with
 |some x,some y=>some (fitsS x y)
 |_,_=>none
theorem patH_some {p:B}{x:List B} (h:patH p=some x):(p= []∧x= [])∨(p≠ []∧labsH true p=some x∧x≠ []):=by
 by_cases e:p= []
 · subst e;rw [patH_nil] at h;injection h with h
   exact .inl ⟨rfl,h.symm⟩
 · rw [patH_ne e] at h;exact .inr ⟨e,h,(labsH_some h).2.2.2.2⟩
def aheadP (x y:List B):Bool:=aheadS x.reverse y.reverse
theorem fitsL_snoc:∀ (l r:List B) (a b:B),l.length=r.length→fitsL (l++ [a]) (r++ [b])=(fitsL l r && (decide (a=starL) || decide (a=b)))
 | [],[],a,b,_=>by simp [fitsL]
 | [],_::_,_,_,h=>by simp at h
 |_::_,[],_,_,h=>by simp at h
 |x::l,y::r,a,b,h=>by
  have ih:=fitsL_snoc l r a b (by simpa using h);rw [List.cons_append,List.cons_append,fitsL,ih,fitsL,Bool.and_assoc]
theorem fitsL_rev:∀ {x y:List B},fitsL x y=true→fitsL x.reverse y.reverse=true
 | [],[],_=>rfl
 | [],_::_,h=>by simp [fitsL] at h
 |_::_,[],h=>by simp [fitsL] at h
 |x::l,y::r,h=>by
  unfold fitsL at h;rw [Bool.and_eq_true] at h;rw [List.reverse_cons,List.reverse_cons,fitsL_snoc _ _ _ _ (by rw [List.length_reverse,List.length_reverse,fitsL_len h.2]),fitsL_rev h.2,h.1];rfl
theorem fitsS_rev {x y:List B} (h:fitsS x y=true):fitsS x.reverse y.reverse=true:=by
 unfold fitsS at h ⊢;rw [Bool.or_eq_true] at h ⊢;rcases h with h|h
 · have:=of_decide_eq_true h;subst this;exact .inl rfl
 · exact .inr (fitsL_rev h)
theorem aheadP_irrefl (a:List B):aheadP a a=false:=aheadS_irrefl _
theorem aheadP_trans {a b c:List B} (h1:aheadP a b=true) (h2:aheadP b c=true):aheadP a c=true:=aheadS_trans h1 h2
theorem aheadP_asymm {a b:List B} (h:aheadP a b=true):aheadP b a=false:=aheadS_asymm h
theorem aheadP_total (a b h:List B) (ha:fitsS a h=true) (hb:fitsS b h=true):a=b∨aheadP a b=true∨aheadP b a=true:=by
 rcases aheadS_total a.reverse b.reverse h.reverse (fitsS_rev ha) (fitsS_rev hb) with h|h
 · exact .inl (List.reverse_inj.1 h)
 · exact .inr h
end Go.Proofs.YtlmlljlappjjjaaGreatDoor
