/- A chunk written: Encode. -/
import Derived.Test.YtjjalgnpppegnaaDoorKCalls
import Derived.Test.YtjjalgnpppegnaaDoorKHex
import Derived.Laws.MakeOwn
namespace Go.Proofs.YtjjalgnpppegnaaDoor
open Go.RowKit

theorem wpList_append_own_str {P : Program} {w : World} {ops : Array Oper} {rest : List Oper} {o : Oper} {a : Act} {Q : Exit → Act → World → Prop} (hgd : o.guard = none) (sl x : Operand) (t u : TypeId)
    (ho : o.op = .call { callee := .builtin .append, args := #[sl, x], argTypes := #[t, u] })
    (base : Nat) (e : TypeId) (i : TypeInfo) (ht : P.underlying t = some (.slice e)) (hu : P.underlying u = some .string) (hi : P.info? e = some i) (hz : i.zero = some (.int .u8 0))
    (hsize : i.size = 1) (hby : i.bytes = 1)
    (v : Value) (n : Nat) (xs : List Value) (hs : a.eval sl = v) (hown : w.ownsRow base e 1 v n xs) (s : ByteArray) (hx : a.eval x = .string s)
    (h63 : n + s.size ≤ maxLen) (hbytes : n + s.size ≤ 140737488355328) (hbase : base ≤ w.heap.size)
    (h : ∀ v' w', w'.ownsRow base e 1 v' (n + s.size) (xs ++ Lib.strCells s) → w.grownBy w' v.ownBlock → wpList P ops Q rest (a.put o.dst v') w') : wpList P ops Q (o :: rest) a w := by
  refine wpList_plain hgd fun K hK => ?_
  exact wp_append_own_string sl x t u ho base e i ht hu hi hz hsize hby v n xs hs hown s hx h63 hbytes hbase (fun v' w' h1 h2 => hK _ _ (h v' w' h1 h2))
theorem Own.app {w' : World} {base n : Nat} {v' : Value} {acc t : B} (hn : acc.length = n) (h : w'.ownsRow base 5 1 v' (n + (str t).size) (Lib.byteCells acc ++ Lib.strCells (str t))) : Own w' base v' (acc ++ t) := by
  unfold Own
  rw [cells_app, List.length_append, hn, ← strCells_str, ← str_size]
  exact h
theorem mk_row (w : World) (n : Nat) (hn : n ≤ 140737488355328) : ∃ w', (Instr.makeSlice 24 (.int .i64 0) (.int .i64 (n : Int))).run Tryd.prog w = .ok (.slice (some ⟨w.heap.size, 0, none⟩) 0 n) w' ∧ Own w' w.heap.size (.slice (some ⟨w.heap.size, 0, none⟩) 0 n) [] ∧ Below w.heap.size w w' := by
  obtain ⟨i0, hi0, hz0, hz1, hz2⟩ := info_parts infoB
  obtain ⟨w', h1, h2, h3⟩ := run_make_own (P := Tryd.prog) w w.heap.size 24 5 i0 _ 1 Tryd.underlying24 hi0 hz0 hz1 .i64 .i64 n (by rw [hz2]; omega) (by unfold maxLen; omega) (Nat.le_refl _)
  exact ⟨w', h1, h2, below_grown h3⟩
theorem own_base {w : World} {b b' : Nat} {v : Value} {acc : B} (h : Own w b v acc) (hb : b' ≤ b) : Own w b' v acc := by
  refine ⟨h.1, ?_⟩
  rcases h.2 with h1 | ⟨g, cap, cur, h1, h2, h3⟩
  · exact .inl h1
  · exact .inr ⟨g, cap, cur, h1, Nat.le_trans hb h2, h3⟩
/-- What the walks ask of the library's table. -/
structure EnvK (w : World) : Prop where
  bit : w.cell? ⟨2, 15, none⟩ = some (.int .u8 4)
theorem EnvK.next {w w' : World} (h : EnvK w) (hb : Below w.heap.size w w') : EnvK w' := ⟨cell_keep hb h.bit⟩
def encK (l : B) : B := if l = [] then [] else told 16 l.length ++ [13, 10] ++ l ++ [13, 10]
theorem toldL_len16 : ∀ (f n : Nat) (l : B), n < 16 ^ f → (toldL 16 f n l).length ≤ f + l.length
  | 0, n, l, _ => by simp [toldL]
  | f + 1, n, l, h => by
    rw [toldL]
    split
    · simp; omega
    · have h1 : n / 16 < 16 ^ f := by
        rw [Nat.div_lt_iff_lt_mul (by omega)]
        rw [Nat.pow_succ] at h
        exact h
      have := toldL_len16 f (n / 16) (digC (n % 16) :: l) h1
      rw [List.length_cons] at this
      omega
theorem told_len16 (n : Nat) (h : n < 9223372036854775808) : (told 16 n).length ≤ 64 := by
  have := toldL_len16 64 n [] (Nat.lt_trans h (by decide))
  simpa [told] using this
set_option maxRecDepth 20000 in
set_option maxHeartbeats 8000000 in
theorem enc_nil (p : Option Addr) (c : Nat) (w : World) : Calls Tryd.prog 8 #[.slice p 0 c] w fun e w' => e = .returned (.slice none 0 0) ∧ w' = w := by
  go_enter Tryd.func8, Tryd.ntmps8
  go_wp2
  go_ret
  exact ⟨rfl, rfl⟩
set_option maxRecDepth 20000 in
set_option maxHeartbeats 8000000 in
theorem enc_some (l : B) (ag ao : Nat) (n c : Nat) (hn : l.length = n) (hn0 : 0 < n) (hnn : n ≤ 1048576) (w : World) (ha : ArgAt w (some ⟨ag, ao, none⟩) l) (hE : EnvK w) :
    Calls Tryd.prog 8 #[.slice (some ⟨ag, ao, none⟩) n c] w fun e w' => ∃ q m d, e = .returned (.slice q m d) ∧ Own w' w.heap.size (.slice q m d) (encK l) ∧ Below w.heap.size w w' := by
  have HX := hid (hextext_any n w (by omega) hE.bit)
  have HA := hid ha
  have HN := hid hn
  have hT := told_len16 n (by omega)
  have HEn := hid (show encK l = ((told 16 n ++ [13, 10]) ++ l) ++ [13, 10] from by unfold encK; rw [if_neg (by rintro rfl; simp at hn; omega), hn])
  obtain ⟨T, hTe⟩ : ∃ T, told 16 n = T := ⟨_, rfl⟩
  rw [hTe] at HX hT HEn
  have HF1 := hid (show str T ++ ⟨#[13, 10]⟩ = str (T ++ [13, 10]) from str_app T [13, 10])
  have hsz : (str T).size = T.length := str_size T
  obtain ⟨tl, htl⟩ : ∃ tl, T.length = tl := ⟨_, rfl⟩
  have HTl := hid htl
  rw [htl] at hsz hT
  have HL2 := hid (show (T ++ [13, 10] : B).length = tl + 2 from by rw [List.length_append, htl]; rfl)
  have HL3 := hid (show (([] : B) ++ (T ++ [13, 10]) : B).length = tl + 2 from by rw [List.nil_append, List.length_append, htl]; rfl)
  have HL4 := hid (show ((([] : B) ++ (T ++ [13, 10])) ++ l : B).length = tl + 2 + n from by rw [List.nil_append, List.length_append, List.length_append, htl, hn]; rfl)
  obtain ⟨S, hS⟩ : ∃ S, str T = S := ⟨_, rfl⟩
  rw [hS] at HX HF1 hsz
  have hn0I : ((n : Int) == 0) = false := i_ne (b := 0) (by omega)
  have HMk := hid (fun W : World => mk_row W (tl + n + 4) (by omega))
  rw [show ((tl + n + 4 : Nat) : Int) = (tl : Int) + (n : Int) + 4 from by omega] at HMk
  obtain ⟨i0, hi0, hz0, hz1, hz2⟩ := info_parts infoB
  clear ha hn hTe htl hS hE
  go_enter Tryd.func8, Tryd.ntmps8
  go_wp2_with (first | (go_at_call 21; (with_reducible refine HX.out.mono ?_); rintro e w1 ⟨rfl, hb⟩; have HB := hid hb; obtain ⟨W2, hmk, hown2, hbel2⟩ := HMk.out w1; have HO2 := hid (own_base hown2 hb.size); have HB2 := hid (below_out hb hbel2); clear hb hown2 hbel2 HX) | (at_builtin; clear hmk; refine wpList_append_own_str rfl (.tmp 22) (.tmp 24) 24 9 rfl w.heap.size 5 i0 Tryd.underlying24 Tryd.underlying9 hi0 hz0 hz1 hz2 (.slice (some ⟨w1.heap.size, 0, none⟩) 0 (tl + n + 4)) 0 [] (by go_simp) HO2.out (str (T ++ [13, 10])) (by go_simp; rw [HF1.out]) (by rw [str_size, List.length_append, HTl.out]; unfold maxLen; simp; omega) (by rw [str_size, List.length_append, HTl.out]; simp; omega) HB2.out.size ?_; intro v' w3 hown hgr; have HO3 := hid (show Own w3 w.heap.size v' ([] ++ (T ++ [13, 10])) from Own.app rfl hown); have HB3 := hid (HB2.out.trans (Own.below HO2.out HB2.out.size hgr)); rw [Nat.zero_add, str_size, HL2.out] at hown; obtain ⟨q3, c3, rfl⟩ := own_slice hown; clear hown hgr HO2 HB2 HB HMk) | (at_builtin; clear HF1; refine wpList_append_own_at _ rfl (.tmp 26) (.tmp 27) 24 rfl w.heap.size 5 i0 _ 1 1 Tryd.underlying24 hi0 hz0 hz1 hz2 rfl (by decide) (.slice q3 (tl + 2) c3) (tl + 2) (Lib.byteCells ([] ++ (T ++ [13, 10]))) (by go_simp) (by have h8 := HO3.out; unfold Own at h8; rw [HL3.out] at h8; exact h8) ⟨ag, ao, none⟩ n c (Lib.byteCells l) (by go_simp) (by simp only [Lib.byteCells, List.length_map, HN.out, Nat.mul_one]) (arg_news (HA.out.next (HB3.out))) (byte_one _) (by unfold maxLen; omega) (by omega) HB3.out.size ?_; intro v' w4 hown hgr _ hblk; have HO4 := hid (show Own w4 w.heap.size v' (([] ++ (T ++ [13, 10])) ++ l) from Own.put (by rw [HL3.out]; exact hown) rfl HN.out); have HB4 := hid (HB3.out.trans (Own.below HO3.out HB3.out.size hgr)); obtain ⟨q4, c4, rfl⟩ := own_slice hown; clear hown hgr hblk HO3 HB3) | (at_builtin; refine wpList_append_own_str rfl (.tmp 29) (.const (.string ⟨#[13, 10]⟩)) 24 9 rfl w.heap.size 5 i0 Tryd.underlying24 Tryd.underlying9 hi0 hz0 hz1 hz2 (.slice q4 (tl + 2 + n) c4) (tl + 2 + n) (Lib.byteCells (([] ++ (T ++ [13, 10])) ++ l)) (by go_simp) (by have h8 := HO4.out; unfold Own at h8; rw [HL4.out] at h8; exact h8) (str [13, 10]) rfl (by rw [str_size]; unfold maxLen; simp; omega) (by rw [str_size]; simp; omega) HB4.out.size ?_; intro v' w5 hown hgr; have HO5 := hid (show Own w5 w.heap.size v' ((([] ++ (T ++ [13, 10])) ++ l) ++ [13, 10]) from Own.app HL4.out hown); have HB5 := hid (HB4.out.trans (Own.below HO4.out HB4.out.size hgr)); obtain ⟨q5, c5, rfl⟩ := own_slice hown; clear hown hgr))
  go_ret
  refine ⟨q5, _, c5, rfl, ?_, HB5.out⟩
  rw [HEn.out]
  exact HO5.out
theorem enc_any (l : B) (p : Option Addr) (n c : Nat) (hn : l.length = n) (hnn : n ≤ 1048576) (w : World) (ha : ArgAt w p l) (hE : EnvK w) :
    Calls Tryd.prog 8 #[.slice p n c] w fun e w' => ∃ q m d, e = .returned (.slice q m d) ∧ Own w' w.heap.size (.slice q m d) (encK l) ∧ Below w.heap.size w w' := by
  by_cases h0 : n = 0
  · subst h0
    obtain rfl : l = [] := List.eq_nil_of_length_eq_zero hn
    refine (enc_nil p c w).mono ?_
    rintro e w' ⟨rfl, rfl⟩
    exact ⟨none, 0, 0, rfl, Own.nil _ _, Below.refl _ _⟩
  · obtain ⟨g, o, e, _⟩ := ha 0 (l[0]'(by omega)) (List.getElem?_eq_getElem (by omega))
    subst e
    exact enc_some l g o n c hn (by omega) hnn w ha hE
end Go.Proofs.YtjjalgnpppegnaaDoor
