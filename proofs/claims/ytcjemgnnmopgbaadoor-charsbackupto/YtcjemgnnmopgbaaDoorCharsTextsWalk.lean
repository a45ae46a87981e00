/- The law CharsTexts returns true for every two texts of at most 1048576 bytes; what was in memory stays; where strconv's table of powers of ten is laid and bytealg's MaxLen is a number. -/
import Derived.Test.YtcjemgnnmopgbaaDoorSame
import Derived.Test.YtcjemgnnmopgbaaDoorRList
import Derived.Test.YtcjemgnnmopgbaaDoorSure
namespace Go.Proofs.YtcjemgnnmopgbaaDoor
open Go.RowKit

/-- What the walks over texts ask of the package variables. -/
structure EnvT (w : World) : Prop where
  mx : ∃ m, w.cell? ⟨2, 0, none⟩ = some (.int .i64 m)
  tab : Lib.TabIs Tryd.prog w "internal/strconv.uint64pow10" .u64 Lib.pow10Tab
theorem lt_of_cell' {w : World} {b o : Nat} {v : Value} (h : w.cell? ⟨b, o, none⟩ = some v) : b < w.heap.size := by
  rcases Nat.lt_or_ge b w.heap.size with h' | h'
  · exact h'
  · simp [World.cell?, Array.getElem?_eq_none h'] at h
theorem EnvT.below {w w' : World} (h : EnvT w) (hb : Below w.heap.size w w') : EnvT w' :=
  ⟨by obtain ⟨m, hm⟩ := h.mx; exact ⟨m, (hb.cell (p := ⟨2, 0, none⟩) (lt_of_cell' hm)).trans hm⟩, Lib.tabBelow_of_tabIs h.tab _ hb⟩
structure SinceT (w0 w : World) : Prop where
  env : EnvT w
  below : Below w0.heap.size w0 w
theorem SinceT.next {w0 w w' : World} (h : SinceT w0 w) (hb : Below w.heap.size w w') : SinceT w0 w' :=
  ⟨h.env.below hb, h.below.trans (hb.mono h.below.size)⟩
theorem below_drawn (w : World) (n : Nat) : Below w.heap.size w (w.drewN n) := ⟨rfl, rfl, rfl, Nat.le_refl _, fun _ _ => rfl⟩

theorem same_below (a b : ByteArray) (w : World) (ha : a.size ≤ maxLen) (hb : b.size ≤ maxLen) :
    Calls Tryd.prog 31 #[.string a, .string b] w fun e w' => e = .returned (.bool (sameB a b)) ∧ Below w.heap.size w w' :=
  (same_any a b w ha hb).mono fun _ _ ⟨he, m, hw⟩ => ⟨he, by rw [hw]; exact below_drawn w m⟩
theorem texts_below (va vb : Value) (n B B' : Nat) (L : List ByteArray) (w : World) (hn : n ≤ 2097152) (ha : w.ownsRow B 9 1 va n (L.map strV)) (hb : w.ownsRow B' 9 1 vb n (L.map strV)) :
    Calls Tryd.prog 35 #[va, vb] w fun e w' => e = .returned (.bool true) ∧ Below w.heap.size w w' :=
  (texts_any va vb n B B' L w hn ha hb).mono fun _ _ ⟨he, m, hw⟩ => ⟨he, by rw [hw]; exact below_drawn w m⟩
theorem list_env (s : ByteArray) (w : World) (hs : s.size ≤ 1048576) (h : EnvT w) :
    Calls Tryd.prog 36 #[.string s] w fun e w' => ∃ v, e = .returned v ∧ w'.ownsRow w.heap.size 9 1 v (listS s).length ((listS s).map strV) ∧ Below w.heap.size w w' := by
  obtain ⟨m, hm⟩ := h.mx
  exact list_any s m w hs hm
theorem listL_len (l : List UInt8) : (listL l).length ≤ l.length + 1 := by
  unfold listL
  refine Nat.le_trans (List.length_filter_le _ _) ?_
  rw [List.length_map]
  induction l with
  | nil => simp [cutL]
  | cons b l ih =>
    unfold cutL
    split
    · simp; omega
    · split
      · simp
      · rename_i p r e
        rw [e] at ih
        simp at ih ⊢; omega
theorem listS_len (s : ByteArray) : (listS s).length ≤ s.size + 1 := by
  unfold listS; rw [List.length_map]; have := listL_len s.data.toList; simpa using this

set_option maxHeartbeats 2000000 in
theorem charsTexts_walk (a b : ByteArray) (w : World) (ha : a.size ≤ 1048576) (hb : b.size ≤ 1048576) (hE : EnvT w) :
    Calls Tryd.prog 5 #[.string a, .string b] w fun e w' => e = .returned (.bool true) ∧ Below w.heap.size w w' := by
  have hS : SinceT w w := ⟨hE, Below.refl _ _⟩
  have hm1 : a.size ≤ maxLen := by unfold maxLen; omega
  have hm2 : b.size ≤ maxLen := by unfold maxLen; omega
  have hl := listS_len a
  clear hE
  go_enter Tryd.func5, Tryd.ntmps5
  go_wp2_with (first
    | (go_at_call 29; refine (lower_any _ _ hm1).mono ?_; rintro e w' ⟨rfl, hbb⟩; replace hS := hS.next hbb; clear hbb)
    | (go_at_call 30; refine (rlower_any _ _ (by omega)).mono ?_; rintro e w' ⟨rfl, hbb⟩; replace hS := hS.next hbb; clear hbb)
    | (go_at_call 31; refine (same_below _ _ _ hm1 hm2).mono ?_; rintro e w' ⟨rfl, hbb⟩; replace hS := hS.next hbb; clear hbb)
    | (go_at_call 32; refine (rsame_any _ _ _ (by omega) (by omega)).mono ?_; rintro e w' ⟨rfl, hbb⟩; replace hS := hS.next hbb; clear hbb)
    | (go_at_call 33; refine (trim_any _ _ (by omega)).mono ?_; rintro e w' ⟨rfl, hbb⟩; replace hS := hS.next hbb; clear hbb)
    | (go_at_call 34; refine (rtrim_any _ _ (by omega)).mono ?_; rintro e w' ⟨rfl, rfl⟩)
    | (go_at_call 36; refine (list_env _ _ ha hS.env).mono ?_; rintro e w' ⟨v1, rfl, ho1, hbb⟩; replace hS := hS.next hbb; clear hbb)
    | (go_at_call 37; refine (rlist_any _ _ ha).mono ?_; rintro e w' ⟨v2, rfl, ho2, hbb⟩; replace hS := hS.next hbb; replace ho1 := own_over ho1 hbb; clear hbb)
    | (go_at_call 35; refine (texts_below _ _ _ _ _ _ _ (by omega) ho1 ho2).mono ?_; rintro e w' ⟨rfl, hbb⟩; replace hS := hS.next hbb; clear hbb ho1 ho2)
    | (go_at_call 19; refine (sure_any _ hS.env.tab).mono ?_; rintro e w' ⟨rfl, hbb⟩; replace hS := hS.next hbb; clear hbb))
  go_ret
  exact ⟨rfl, hS.below⟩
end Go.Proofs.YtcjemgnnmopgbaaDoor
