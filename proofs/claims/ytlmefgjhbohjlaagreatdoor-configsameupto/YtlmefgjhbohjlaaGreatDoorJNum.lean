/- next, skip, blanks of a reader. -/
import Derived.Test.YtlmefgjhbohjlaaGreatDoorJBase
namespace Go.Proofs.YtlmefgjhbohjlaaGreatDoor
set_option maxRecDepth 100000
set_option maxHeartbeats 1000000
open Go.RowKit
theorem size_pos {s:ByteArray}{p:Nat}{c:UInt8} (h:s.data.toList[p]?=some c):p<s.size:=by
 have:=(List.getElem?_eq_some_iff.1 h).1;simpa using this
theorem getE {s:ByteArray}{p:Nat}{c:UInt8} (h:s.data.toList[p]?=some c) (hp:p<s.size):s[p]'hp=c:=by
 obtain⟨h1,h2⟩:=List.getElem?_eq_some_iff.1 h;rw [←h2];rfl
theorem drew_add (w:World) (m:Nat):∀ n,(w.drewN m).drewN n=w.drewN (m+n)
 |0=>rfl
 |n+1=>congrArg World.drew (drew_add w m n)
theorem next_any {w:World}{b:Nat}{s:ByteArray}{l:B}{d:Nat} (h:Rd w b s l d):
 Calls Tryz.prog 193 #[.pointer (some ⟨b,0,none⟩)] w fun e w'=>e= .returned (.int .u8 ((nx l).toNat:Int))∧∃ n,w'=w.drewN n:=by
 obtain⟨p,hA⟩:=h.at;have c0:=hA.c0;have c1:=hA.c1;cases l with
 |nil=>
  have hlen:=hA.len;have hle:=hA.le;have hp:p=s.size:=by simp at hlen;omega
  subst hp;clear hlen hle hA h;go_enter Tryz.func193,Tryz.ntmps193;go_wp2;go_quiet (fail);go_wp2;go_ret;exact⟨rfl,_,rfl⟩
 |cons c t=>
  have hb:=hA.byte;have hp:=size_pos hb;have hm:=hA.most;have hg:=getE hb hp;have hne:((p:Int)== (s.size:Int))=false:=by simp;omega
  clear hA h hb;go_enter Tryz.func193,Tryz.ntmps193;go_wp2;go_quiet (fail);go_wp2;go_quiet (fail);go_wp2;go_ret;exact⟨by simp [nx],_,drew_add _ _ _⟩
theorem sliteIndex_any (s:ByteArray) (c:Int) (w:World):
 Calls Tryz.prog 284 #[.string s,.int .u8 c] w fun e w'=>e= .returned (.int .i64 (Lib.indexByte s.data.toList c.toNat.toUInt8))∧w'=w:=by
 go_enter Tryz.func284,Tryz.ntmps284;go_wp2;rw [run_callFunc_extern Tryz.func320 (by kernel_rfl) (by kernel_rfl) (by kernel_rfl) (e:=Extern.BytealgIndexByte.indexByte) (by kernel_rfl),Lib.run_indexByteString];simp only [Result.andThen];rw [Oper.upon_value];go_wp2;go_ret;exact⟨rfl,rfl⟩
theorem index_any_j (s:ByteArray) (c:Int) (w:World):
 Calls Tryz.prog 241 #[.string s,.int .u8 c] w fun e w'=>e= .returned (.int .i64 (Lib.indexByte s.data.toList c.toNat.toUInt8))∧w'=w:=by
 go_enter Tryz.func241,Tryz.ntmps241;go_wp2_with (go_at_call 284;refine(sliteIndex_any _ _ _).mono ?_;rintro e w' ⟨rfl,hw⟩;have hw2:=hw.symm;subst hw2);go_ret;exact⟨rfl,rfl⟩
theorem index_neg (l:B) (c:UInt8):(Lib.indexByte l c<0)↔l.contains c=false:=by
 induction l with
 |nil=>simp [Lib.indexByte]
 |cons a l ih=>
  have h:=Lib.indexByte_ge l c;unfold Lib.indexByte;by_cases e:a== c
  · have:c=a:=by have:=beq_iff_eq.1 e;exact this.symm
    simp [this]
  · have e2:¬c=a:=fun x=>e (by rw [x];simp)
    rw [if_neg e,List.contains_cons];have e3:(c== a)=false:=by simp [e2]
    rw [e3,Bool.false_or];split
    · next h1=>
      have h1:=beq_iff_eq.1 h1;constructor
      · intro _;exact ih.1 (by omega)
      · intro _;omega
    · next h1=>
      have h1:¬Lib.indexByte l c= -1:=fun x=>h1 (by rw [x];rfl)
      constructor
      · intro h2;omega
      · intro h2;have:=ih.2 h2;omega
theorem toUInt8_toNat (c:UInt8):((c.toNat:Int)).toNat.toUInt8=c:=by simp
def Skips (some:B) (l:B) (b:Nat) (s:ByteArray) (d:Nat) (w:World) (e:Ending) (w':World):Prop:=
 match skip some l with
 | .some t=>e= .returned (.bool true)∧Rd w' b s t d∧Turn b w w'
 |none=>e= .returned (.bool false)∧Rd w' b s l d∧Turn b w w'
theorem skip_any {w:World}{b:Nat}{s:ByteArray}{l:B}{d:Nat} (h:Rd w b s l d) (S:ByteArray) (h0:S.data.toList.contains 0=false):
 Calls Tryz.prog 192 #[.pointer (some ⟨b,0,none⟩),.string S] w fun e w'=>Skips S.data.toList l b s d w e w':=by
 obtain⟨p,hA⟩:=h.at;have c1:=hA.c1;have fz:=hA.fz 1;have hm:=hA.most;have hle:=hA.le;have HA:=hid hA;have HR:=hid h;by_cases hc:S.data.toList.contains (nx l)=true
 · cases l with
   |nil=>simp [nx] at hc;simp at h0;exact absurd hc h0
   |cons c t=>
    have hn:¬(Lib.indexByte S.data.toList c<0):=by rw [index_neg];simpa [nx] using hc
    have hstep:=HA.out.step;have hsk:skip S.data.toList (c::t)=some t:=by simp only [skip];rw [if_pos (by simpa [nx] using hc)]
    have HS:=hid hstep;have HK:=hid hsk;clear hstep hsk hA h;obtain⟨I,hI⟩:∃ I,Lib.indexByte S.data.toList c=I:=⟨_,rfl⟩;rw [hI] at hn;go_enter Tryz.func192,Tryz.ntmps192;go_wp2_with (first
     |(go_at_call 193;refine(next_any HR.out).mono ?_;rintro e w' ⟨rfl,n,rfl⟩)
     |(go_at_call 241;refine(index_any_j _ _ _).mono ?_;rintro e w' ⟨rfl,hw⟩;have hw2:=hw.symm;subst hw2;rw [toUInt8_toNat,show nx (c::t)=c from rfl,hI]))
    go_ret;unfold Skips;rw [HK.out];refine⟨rfl,(HR.out.drewN n).moved _ (by push_cast;rfl) HS.out.2 HS.out.1,((Turn.refl _ _).drewN n).setCell _ _⟩
 · have hn:Lib.indexByte S.data.toList (nx l)<0:=by rw [index_neg];simpa using hc
   have hsk:skip S.data.toList l=none:=by
    cases l with
    |nil=>rfl
    |cons c t=>simp only [skip];rw [if_neg (by simpa [nx] using hc)]
   have HK:=hid hsk;clear hsk hA h;obtain⟨I,hI⟩:∃ I,Lib.indexByte S.data.toList (nx l)=I:=⟨_,rfl⟩;rw [hI] at hn;go_enter Tryz.func192,Tryz.ntmps192;go_wp2_with (first
    |(go_at_call 193;refine(next_any HR.out).mono ?_;rintro e w' ⟨rfl,n,rfl⟩)
    |(go_at_call 241;refine(index_any_j _ _ _).mono ?_;rintro e w' ⟨rfl,hw⟩;have hw2:=hw.symm;subst hw2;rw [toUInt8_toNat,hI]))
   go_ret;unfold Skips;rw [HK.out];exact⟨rfl,HR.out.drewN n,(Turn.refl _ _).drewN n⟩
abbrev errV_j (k:Nat):Value:=.iface 63 (.int .i64 k)
theorem skips_some {S l t:B} (h:skip S l=some t):skips S l=skips S t:=by
 cases l with
 |nil=>simp [skip] at h
 |cons c u=>
  simp only [skip] at h;split at h
  · next hc=>simp at h;subst h;simp only [skips];rw [if_pos hc]
  · simp at h
theorem skips_none {S l:B} (h:skip S l=none):skips S l=l:=by
 cases l with
 |nil=>rfl
 |cons c u=>
  simp only [skip] at h;split at h
  · simp at h
  · next hc=>simp only [skips];rw [if_neg hc]
theorem skip_length {S l t:B} (h:skip S l=some t):l.length=t.length+1:=by
 cases l with
 |nil=>simp [skip] at h
 |cons c u=>
  simp only [skip] at h;split at h
  · simp at h;subst h;rfl
  · simp at h
theorem skip_bl {w:World}{b:Nat}{s:ByteArray}{l:B}{d:Nat} (h:Rd w b s l d):Calls Tryz.prog 192 #[.pointer (some ⟨b,0,none⟩),.string ⟨#[32,9,10,13]⟩] w fun e w'=>Skips blanksL l b s d w e w':=skip_any h _ (by decide)
theorem skip_dg {w:World}{b:Nat}{s:ByteArray}{l:B}{d:Nat} (h:Rd w b s l d):Calls Tryz.prog 192 #[.pointer (some ⟨b,0,none⟩),.string ⟨#[48,49,50,51,52,53,54,55,56,57]⟩] w fun e w'=>Skips digitsL l b s d w e w':=skip_any h _ (by decide)
theorem skip_minus {w:World}{b:Nat}{s:ByteArray}{l:B}{d:Nat} (h:Rd w b s l d):Calls Tryz.prog 192 #[.pointer (some ⟨b,0,none⟩),.string ⟨#[45]⟩] w fun e w'=>Skips [45] l b s d w e w':=skip_any h _ (by decide)
theorem skip_nought {w:World}{b:Nat}{s:ByteArray}{l:B}{d:Nat} (h:Rd w b s l d):Calls Tryz.prog 192 #[.pointer (some ⟨b,0,none⟩),.string ⟨#[48]⟩] w fun e w'=>Skips [48] l b s d w e w':=skip_any h _ (by decide)
theorem skip_point {w:World}{b:Nat}{s:ByteArray}{l:B}{d:Nat} (h:Rd w b s l d):Calls Tryz.prog 192 #[.pointer (some ⟨b,0,none⟩),.string ⟨#[46]⟩] w fun e w'=>Skips [46] l b s d w e w':=skip_any h _ (by decide)
theorem skip_exp {w:World}{b:Nat}{s:ByteArray}{l:B}{d:Nat} (h:Rd w b s l d):Calls Tryz.prog 192 #[.pointer (some ⟨b,0,none⟩),.string ⟨#[101,69]⟩] w fun e w'=>Skips [101,69] l b s d w e w':=skip_any h _ (by decide)
theorem skip_sign {w:World}{b:Nat}{s:ByteArray}{l:B}{d:Nat} (h:Rd w b s l d):Calls Tryz.prog 192 #[.pointer (some ⟨b,0,none⟩),.string ⟨#[43,45]⟩] w fun e w'=>Skips [43,45] l b s d w e w':=skip_any h _ (by decide)
theorem skip_comma {w:World}{b:Nat}{s:ByteArray}{l:B}{d:Nat} (h:Rd w b s l d):Calls Tryz.prog 192 #[.pointer (some ⟨b,0,none⟩),.string ⟨#[44]⟩] w fun e w'=>Skips [44] l b s d w e w':=skip_any h _ (by decide)
theorem skip_colon {w:World}{b:Nat}{s:ByteArray}{l:B}{d:Nat} (h:Rd w b s l d):Calls Tryz.prog 192 #[.pointer (some ⟨b,0,none⟩),.string ⟨#[58]⟩] w fun e w'=>Skips [58] l b s d w e w':=skip_any h _ (by decide)
theorem skip_endl {w:World}{b:Nat}{s:ByteArray}{l:B}{d:Nat} (h:Rd w b s l d):Calls Tryz.prog 192 #[.pointer (some ⟨b,0,none⟩),.string ⟨#[93]⟩] w fun e w'=>Skips [93] l b s d w e w':=skip_any h _ (by decide)
theorem skip_endo {w:World}{b:Nat}{s:ByteArray}{l:B}{d:Nat} (h:Rd w b s l d):Calls Tryz.prog 192 #[.pointer (some ⟨b,0,none⟩),.string ⟨#[125]⟩] w fun e w'=>Skips [125] l b s d w e w':=skip_any h _ (by decide)
theorem skip_back {w:World}{b:Nat}{s:ByteArray}{l:B}{d:Nat} (h:Rd w b s l d):Calls Tryz.prog 192 #[.pointer (some ⟨b,0,none⟩),.string ⟨#[92]⟩] w fun e w'=>Skips [92] l b s d w e w':=skip_any h _ (by decide)
theorem skip_uu {w:World}{b:Nat}{s:ByteArray}{l:B}{d:Nat} (h:Rd w b s l d):Calls Tryz.prog 192 #[.pointer (some ⟨b,0,none⟩),.string ⟨#[117]⟩] w fun e w'=>Skips [117] l b s d w e w':=skip_any h _ (by decide)
theorem skip_dd {w:World}{b:Nat}{s:ByteArray}{l:B}{d:Nat} (h:Rd w b s l d):Calls Tryz.prog 192 #[.pointer (some ⟨b,0,none⟩),.string ⟨#[100,68]⟩] w fun e w'=>Skips [100,68] l b s d w e w':=skip_any h _ (by decide)
theorem skip_cf {w:World}{b:Nat}{s:ByteArray}{l:B}{d:Nat} (h:Rd w b s l d):Calls Tryz.prog 192 #[.pointer (some ⟨b,0,none⟩),.string ⟨#[99,100,101,102,67,68,69,70]⟩] w fun e w'=>Skips [99,100,101,102,67,68,69,70] l b s d w e w':=skip_any h _ (by decide)
theorem blanks_any {w:World}{b:Nat}{s:ByteArray}{l:B}{d:Nat} (h:Rd w b s l d):
 Calls Tryz.prog 120 #[.pointer (some ⟨b,0,none⟩)] w fun e w'=>e= .returned (.tuple #[])∧Rd w' b s (blanks l) d∧Turn b w w':=by
 obtain⟨L,HL⟩:∃ L,Hid (blanks l=L):=⟨_,rfl⟩;rw [HL.out];have HR:=hid h;clear h;go_enter Tryz.func120,Tryz.ntmps120;go_wp2;go_loopg [3] (l.length+1) (fun gk _ wr=>∃ t:B,t.length<gk∧blanks t=L∧Rd wr b s t d∧Turn b w wr)
 case atStart=>exact⟨l,by omega,HL.out,HR.out,Turn.refl _ _⟩
 case round=>
  obtain⟨t,h1,h2,h3,h4⟩:=hrel;have H:=hid (And.intro h2 (And.intro h3 h4));clear h2 h3 h4;cases hs:skip blanksL t with
  |none=>
   have HS:=hid hs;clear hs;go_wp2_with (go_at_call 192;(with_reducible refine(skip_bl H.out.2.1).mono ?_);intro e w1 hq;unfold Skips at hq;rw [HS.out] at hq;obtain⟨rfl,q2,q3⟩:=hq;have HQ:=hid (And.intro q2 q3);clear q2 q3);go_end0;refine⟨rfl,?_,H.out.2.2.trans HQ.out.2⟩;rw [←H.out.1,show blanks t=t from skips_none HS.out];exact HQ.out.1
  |some u=>
   have HS:=hid hs;clear hs;go_wp2_with (go_at_call 192;(with_reducible refine(skip_bl H.out.2.1).mono ?_);intro e w1 hq;unfold Skips at hq;rw [HS.out] at hq;obtain⟨rfl,q2,q3⟩:=hq;have HQ:=hid (And.intro q2 q3);clear q2 q3);go_roundg (u.length+1)
   case measure=>have:=skip_length HS.out;omega
   case rel=>exact⟨u,by omega,by rw [←H.out.1];exact(skips_some HS.out).symm,HQ.out.1,H.out.2.2.trans HQ.out.2⟩
end Go.Proofs.YtlmefgjhbohjlaaGreatDoor
