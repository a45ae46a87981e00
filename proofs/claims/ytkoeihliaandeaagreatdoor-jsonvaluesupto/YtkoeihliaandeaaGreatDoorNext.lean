/- next, skip, blanks of a reader. -/
import Derived.Test.YtkoeihliaandeaaGreatDoorBase
import Derived.Lib.Bytealg
namespace Go.Proofs.YtkoeihliaandeaaGreatDoor
open Go.RowKit

theorem size_pos {s : ByteArray} {p : Nat} {c : UInt8} (h : s.data.toList[p]? = some c) : p < s.size := by
  have := (List.getElem?_eq_some_iff.1 h).1
  simpa using this
theorem getE {s : ByteArray} {p : Nat} {c : UInt8} (h : s.data.toList[p]? = some c) (hp : p < s.size) : s[p]'hp = c := by
  obtain ⟨h1, h2⟩ := List.getElem?_eq_some_iff.1 h
  rw [← h2]
  rfl
theorem drew_add (w : World) (m : Nat) : ∀ n, (w.drewN m).drewN n = w.drewN (m + n)
  | 0 => rfl
  | n + 1 => congrArg World.drew (drew_add w m n)
set_option maxRecDepth 20000 in
set_option maxHeartbeats 1000000 in
theorem next_any {w : World} {b : Nat} {s : ByteArray} {l : B} {d : Nat} (h : Rd w b s l d) :
    Calls Tryz.prog 48 #[.pointer (some ⟨b, 0, none⟩)] w fun e w' => e = .returned (.int .u8 ((nx l).toNat : Int)) ∧ ∃ n, w' = w.drewN n := by
  obtain ⟨p, hA⟩ := h.at
  have c0 := hA.c0
  have c1 := hA.c1
  cases l with
  | nil =>
    have hlen := hA.len
    have hle := hA.le
    have hp : p = s.size := by simp at hlen; omega
    subst hp
    clear hlen hle hA h
    go_enter Tryz.func48, Tryz.ntmps48
    go_wp2
    go_quiet (fail)
    go_wp2
    go_ret
    exact ⟨rfl, _, rfl⟩
  | cons c t =>
    have hb := hA.byte
    have hp := size_pos hb
    have hm := hA.most
    have hg := getE hb hp
    have hne : ((p : Int) == (s.size : Int)) = false := by simp; omega
    clear hA h hb
    go_enter Tryz.func48, Tryz.ntmps48
    go_wp2
    go_quiet (fail)
    go_wp2
    go_quiet (fail)
    go_wp2
    go_ret
    exact ⟨by simp [nx], _, drew_add _ _ _⟩
set_option maxRecDepth 100000 in
set_option maxHeartbeats 1000000 in
theorem sliteIndex_any (s : ByteArray) (c : Int) (w : World) :
    Calls Tryz.prog 83 #[.string s, .int .u8 c] w fun e w' => e = .returned (.int .i64 (Lib.indexByte s.data.toList c.toNat.toUInt8)) ∧ w' = w := by
  go_enter Tryz.func83, Tryz.ntmps83
  go_wp2
  rw [run_callFunc_extern Tryz.func93 (by kernel_rfl) (by kernel_rfl) (by kernel_rfl) (e := Extern.BytealgIndexByte.indexByte) (by kernel_rfl), Lib.run_indexByteString]
  simp only [Result.andThen]
  rw [Oper.upon_value]
  go_wp2
  go_ret
  exact ⟨rfl, rfl⟩
set_option maxHeartbeats 1000000 in
theorem index_any (s : ByteArray) (c : Int) (w : World) :
    Calls Tryz.prog 67 #[.string s, .int .u8 c] w fun e w' => e = .returned (.int .i64 (Lib.indexByte s.data.toList c.toNat.toUInt8)) ∧ w' = w := by
  go_enter Tryz.func67, Tryz.ntmps67
  go_wp2_with (go_at_call 83; refine (sliteIndex_any _ _ _).mono ?_; rintro e w' ⟨rfl, hw⟩; have hw2 := hw.symm; subst hw2)
  go_ret
  exact ⟨rfl, rfl⟩
theorem index_neg (l : B) (c : UInt8) : (Lib.indexByte l c < 0) ↔ l.contains c = false := by
  induction l with
  | nil => simp [Lib.indexByte]
  | cons a l ih =>
    have h := Lib.indexByte_ge l c
    unfold Lib.indexByte
    by_cases e : a == c
    · have : c = a := by have := beq_iff_eq.1 e; exact this.symm
      simp [this]
    · have e2 : ¬ c = a := fun x => e (by rw [x]; simp)
      rw [if_neg e, List.contains_cons]
      have e3 : (c == a) = false := by simp [e2]
      rw [e3, Bool.false_or]
      split
      · next h1 =>
        have h1 := beq_iff_eq.1 h1
        constructor
        · intro _; exact ih.1 (by omega)
        · intro _; omega
      · next h1 =>
        have h1 : ¬ Lib.indexByte l c = -1 := fun x => h1 (by rw [x]; rfl)
        constructor
        · intro h2; omega
        · intro h2
          have := ih.2 h2
          omega
theorem toUInt8_toNat (c : UInt8) : ((c.toNat : Int)).toNat.toUInt8 = c := by simp
/-- What skip answers, and where the reader stands behind it. -/
def Skips (some : B) (l : B) (b : Nat) (s : ByteArray) (d : Nat) (w : World) (e : Ending) (w' : World) : Prop :=
  match skip some l with
  | .some t => e = .returned (.bool true) ∧ Rd w' b s t d ∧ Turn b w w'
  | none => e = .returned (.bool false) ∧ Rd w' b s l d ∧ Turn b w w'
set_option maxRecDepth 20000 in
set_option maxHeartbeats 1000000 in
theorem skip_any {w : World} {b : Nat} {s : ByteArray} {l : B} {d : Nat} (h : Rd w b s l d) (S : ByteArray) (h0 : S.data.toList.contains 0 = false) :
    Calls Tryz.prog 47 #[.pointer (some ⟨b, 0, none⟩), .string S] w fun e w' => Skips S.data.toList l b s d w e w' := by
  obtain ⟨p, hA⟩ := h.at
  have c1 := hA.c1
  have fz := hA.fz 1
  have hm := hA.most
  have hle := hA.le
  have HA := hid hA
  have HR := hid h
  by_cases hc : S.data.toList.contains (nx l) = true
  · cases l with
    | nil => simp [nx] at hc; simp at h0; exact absurd hc h0
    | cons c t =>
      have hn : ¬ (Lib.indexByte S.data.toList c < 0) := by rw [index_neg]; simpa [nx] using hc
      have hstep := HA.out.step
      have hsk : skip S.data.toList (c :: t) = some t := by simp only [skip]; rw [if_pos (by simpa [nx] using hc)]
      have HS := hid hstep
      have HK := hid hsk
      clear hstep hsk hA h
      obtain ⟨I, hI⟩ : ∃ I, Lib.indexByte S.data.toList c = I := ⟨_, rfl⟩
      rw [hI] at hn
      go_enter Tryz.func47, Tryz.ntmps47
      go_wp2_with (first
        | (go_at_call 48; refine (next_any HR.out).mono ?_; rintro e w' ⟨rfl, n, rfl⟩)
        | (go_at_call 67; refine (index_any _ _ _).mono ?_; rintro e w' ⟨rfl, hw⟩; have hw2 := hw.symm; subst hw2; rw [toUInt8_toNat, show nx (c :: t) = c from rfl, hI]))
      go_ret
      unfold Skips
      rw [HK.out]
      refine ⟨rfl, (HR.out.drewN n).moved _ (by push_cast; rfl) HS.out.2 HS.out.1, ((Turn.refl _ _).drewN n).setCell _ _⟩
  · have hn : Lib.indexByte S.data.toList (nx l) < 0 := by rw [index_neg]; simpa using hc
    have hsk : skip S.data.toList l = none := by
      cases l with
      | nil => rfl
      | cons c t => simp only [skip]; rw [if_neg (by simpa [nx] using hc)]
    have HK := hid hsk
    clear hsk hA h
    obtain ⟨I, hI⟩ : ∃ I, Lib.indexByte S.data.toList (nx l) = I := ⟨_, rfl⟩
    rw [hI] at hn
    go_enter Tryz.func47, Tryz.ntmps47
    go_wp2_with (first
      | (go_at_call 48; refine (next_any HR.out).mono ?_; rintro e w' ⟨rfl, n, rfl⟩)
      | (go_at_call 67; refine (index_any _ _ _).mono ?_; rintro e w' ⟨rfl, hw⟩; have hw2 := hw.symm; subst hw2; rw [toUInt8_toNat, hI]))
    go_ret
    unfold Skips
    rw [HK.out]
    exact ⟨rfl, HR.out.drewN n, (Turn.refl _ _).drewN n⟩
end Go.Proofs.YtkoeihliaandeaaGreatDoor
