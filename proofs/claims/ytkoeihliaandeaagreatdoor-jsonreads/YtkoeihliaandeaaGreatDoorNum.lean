/- blanks, word, digits, numbers of a reader. -/
import Derived.Test.YtkoeihliaandeaaGreatDoorNext
namespace Go.Proofs.YtkoeihliaandeaaGreatDoor
open Go.RowKit

/-- An error's value. -/
abbrev errV (k : Nat) : Value := .iface 43 (.int .i64 k)
theorem skips_some {S l t : B} (h : skip S l = some t) : skips S l = skips S t := by
  cases l with
  | nil => simp [skip] at h
  | cons c u =>
    simp only [skip] at h
    split at h
    · next hc => simp at h; subst h; simp only [skips]; rw [if_pos hc]
    · simp at h
theorem skips_none {S l : B} (h : skip S l = none) : skips S l = l := by
  cases l with
  | nil => rfl
  | cons c u =>
    simp only [skip] at h
    split at h
    · simp at h
    · next hc => simp only [skips]; rw [if_neg hc]
theorem skip_length {S l t : B} (h : skip S l = some t) : l.length = t.length + 1 := by
  cases l with
  | nil => simp [skip] at h
  | cons c u =>
    simp only [skip] at h
    split at h
    · simp at h; subst h; rfl
    · simp at h
theorem skip_bl {w : World} {b : Nat} {s : ByteArray} {l : B} {d : Nat} (h : Rd w b s l d) : Calls Tryz.prog 47 #[.pointer (some ⟨b, 0, none⟩), .string ⟨#[32, 9, 10, 13]⟩] w fun e w' => Skips blanksL l b s d w e w' := skip_any h _ (by decide)
theorem skip_dg {w : World} {b : Nat} {s : ByteArray} {l : B} {d : Nat} (h : Rd w b s l d) : Calls Tryz.prog 47 #[.pointer (some ⟨b, 0, none⟩), .string ⟨#[48, 49, 50, 51, 52, 53, 54, 55, 56, 57]⟩] w fun e w' => Skips digitsL l b s d w e w' := skip_any h _ (by decide)
theorem skip_minus {w : World} {b : Nat} {s : ByteArray} {l : B} {d : Nat} (h : Rd w b s l d) : Calls Tryz.prog 47 #[.pointer (some ⟨b, 0, none⟩), .string ⟨#[45]⟩] w fun e w' => Skips [45] l b s d w e w' := skip_any h _ (by decide)
theorem skip_nought {w : World} {b : Nat} {s : ByteArray} {l : B} {d : Nat} (h : Rd w b s l d) : Calls Tryz.prog 47 #[.pointer (some ⟨b, 0, none⟩), .string ⟨#[48]⟩] w fun e w' => Skips [48] l b s d w e w' := skip_any h _ (by decide)
theorem skip_point {w : World} {b : Nat} {s : ByteArray} {l : B} {d : Nat} (h : Rd w b s l d) : Calls Tryz.prog 47 #[.pointer (some ⟨b, 0, none⟩), .string ⟨#[46]⟩] w fun e w' => Skips [46] l b s d w e w' := skip_any h _ (by decide)
theorem skip_exp {w : World} {b : Nat} {s : ByteArray} {l : B} {d : Nat} (h : Rd w b s l d) : Calls Tryz.prog 47 #[.pointer (some ⟨b, 0, none⟩), .string ⟨#[101, 69]⟩] w fun e w' => Skips [101, 69] l b s d w e w' := skip_any h _ (by decide)
theorem skip_sign {w : World} {b : Nat} {s : ByteArray} {l : B} {d : Nat} (h : Rd w b s l d) : Calls Tryz.prog 47 #[.pointer (some ⟨b, 0, none⟩), .string ⟨#[43, 45]⟩] w fun e w' => Skips [43, 45] l b s d w e w' := skip_any h _ (by decide)
theorem skip_comma {w : World} {b : Nat} {s : ByteArray} {l : B} {d : Nat} (h : Rd w b s l d) : Calls Tryz.prog 47 #[.pointer (some ⟨b, 0, none⟩), .string ⟨#[44]⟩] w fun e w' => Skips [44] l b s d w e w' := skip_any h _ (by decide)
theorem skip_colon {w : World} {b : Nat} {s : ByteArray} {l : B} {d : Nat} (h : Rd w b s l d) : Calls Tryz.prog 47 #[.pointer (some ⟨b, 0, none⟩), .string ⟨#[58]⟩] w fun e w' => Skips [58] l b s d w e w' := skip_any h _ (by decide)
theorem skip_endl {w : World} {b : Nat} {s : ByteArray} {l : B} {d : Nat} (h : Rd w b s l d) : Calls Tryz.prog 47 #[.pointer (some ⟨b, 0, none⟩), .string ⟨#[93]⟩] w fun e w' => Skips [93] l b s d w e w' := skip_any h _ (by decide)
theorem skip_endo {w : World} {b : Nat} {s : ByteArray} {l : B} {d : Nat} (h : Rd w b s l d) : Calls Tryz.prog 47 #[.pointer (some ⟨b, 0, none⟩), .string ⟨#[125]⟩] w fun e w' => Skips [125] l b s d w e w' := skip_any h _ (by decide)
theorem skip_back {w : World} {b : Nat} {s : ByteArray} {l : B} {d : Nat} (h : Rd w b s l d) : Calls Tryz.prog 47 #[.pointer (some ⟨b, 0, none⟩), .string ⟨#[92]⟩] w fun e w' => Skips [92] l b s d w e w' := skip_any h _ (by decide)
theorem skip_uu {w : World} {b : Nat} {s : ByteArray} {l : B} {d : Nat} (h : Rd w b s l d) : Calls Tryz.prog 47 #[.pointer (some ⟨b, 0, none⟩), .string ⟨#[117]⟩] w fun e w' => Skips [117] l b s d w e w' := skip_any h _ (by decide)
theorem skip_dd {w : World} {b : Nat} {s : ByteArray} {l : B} {d : Nat} (h : Rd w b s l d) : Calls Tryz.prog 47 #[.pointer (some ⟨b, 0, none⟩), .string ⟨#[100, 68]⟩] w fun e w' => Skips [100, 68] l b s d w e w' := skip_any h _ (by decide)
theorem skip_cf {w : World} {b : Nat} {s : ByteArray} {l : B} {d : Nat} (h : Rd w b s l d) : Calls Tryz.prog 47 #[.pointer (some ⟨b, 0, none⟩), .string ⟨#[99, 100, 101, 102, 67, 68, 69, 70]⟩] w fun e w' => Skips [99, 100, 101, 102, 67, 68, 69, 70] l b s d w e w' := skip_any h _ (by decide)
set_option maxRecDepth 20000 in
set_option maxHeartbeats 1000000 in
theorem blanks_any {w : World} {b : Nat} {s : ByteArray} {l : B} {d : Nat} (h : Rd w b s l d) :
    Calls Tryz.prog 30 #[.pointer (some ⟨b, 0, none⟩)] w fun e w' => e = .returned (.tuple #[]) ∧ Rd w' b s (blanks l) d ∧ Turn b w w' := by
  obtain ⟨L, HL⟩ : ∃ L, Hid (blanks l = L) := ⟨_, rfl⟩
  rw [HL.out]
  have HR := hid h
  clear h
  go_enter Tryz.func30, Tryz.ntmps30
  go_wp2
  go_loopg [3] (l.length + 1) (fun gk _ wr => ∃ t : B, t.length < gk ∧ blanks t = L ∧ Rd wr b s t d ∧ Turn b w wr)
  case atStart => exact ⟨l, by omega, HL.out, HR.out, Turn.refl _ _⟩
  case round =>
    obtain ⟨t, h1, h2, h3, h4⟩ := hrel
    have H := hid (And.intro h2 (And.intro h3 h4))
    clear h2 h3 h4
    cases hs : skip blanksL t with
    | none =>
      have HS := hid hs
      clear hs
      go_wp2_with (go_at_call 47; (with_reducible refine (skip_bl H.out.2.1).mono ?_); intro e w1 hq; unfold Skips at hq; rw [HS.out] at hq; obtain ⟨rfl, q2, q3⟩ := hq; have HQ := hid (And.intro q2 q3); clear q2 q3)
      go_end0
      refine ⟨rfl, ?_, H.out.2.2.trans HQ.out.2⟩
      rw [← H.out.1, show blanks t = t from skips_none HS.out]
      exact HQ.out.1
    | some u =>
      have HS := hid hs
      clear hs
      go_wp2_with (go_at_call 47; (with_reducible refine (skip_bl H.out.2.1).mono ?_); intro e w1 hq; unfold Skips at hq; rw [HS.out] at hq; obtain ⟨rfl, q2, q3⟩ := hq; have HQ := hid (And.intro q2 q3); clear q2 q3)
      go_roundg (u.length + 1)
      case measure => have := skip_length HS.out; omega
      case rel => exact ⟨u, by omega, by rw [← H.out.1]; exact (skips_some HS.out).symm, HQ.out.1, H.out.2.2.trans HQ.out.2⟩
end Go.Proofs.YtkoeihliaandeaaGreatDoor
