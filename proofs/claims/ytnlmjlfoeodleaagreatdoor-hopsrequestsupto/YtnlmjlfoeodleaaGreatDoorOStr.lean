/- What goes further, on both sides. -/
import Derived.Test.YtnlmjlfoeodleaaGreatDoorODNam
import Derived.Test.YtnlmjlfoeodleaaGreatDoorWGd
import Derived.Test.YtnlmjlfoeodleaaGreatDoorOrder
namespace Go.Proofs.YtnlmjlfoeodleaaGreatDoor
open Go.RowKit Go.Maps

theorem end_hop {ns : List B} {nm x : B} (h : lowB nm = x) (hx : hopB x = true) : endB ns nm = false := by
  unfold endB
  rw [h, if_pos hx]
theorem end_host {ns : List B} {nm : B} (h : lowB nm = hostB) : endB ns nm = true := by
  unfold endB
  rw [h, if_neg (by decide), if_pos rfl]
theorem end_else {ns : List B} {nm x : B} (h : lowB nm = x) (h1 : hopB x = false) (h2 : x ≠ hostB) : endB ns nm = !ns.contains x := by
  unfold endB
  rw [h, if_neg (by rw [h1]; decide), if_neg h2]
theorem beq_ne {a b : B} (h : a ≠ b) : (a == b) = false := by simpa using h
theorem tl_ne {S : ByteArray} {x c : B} (hS : str x = S) (h : x ≠ c) : (S.toList == (str c).toList) = false ∧ (S.toList == c) = false := by
  subst hS
  have e : ∀ l : B, (str l).toList = l := fun l => str_tl l
  exact ⟨by rw [e, e]; exact beq_ne h, by rw [e]; exact beq_ne h⟩
set_option maxRecDepth 20000 in
set_option maxHeartbeats 8000000 in
theorem pend (nm : B) (ns : List B) (m : Nat) (w : World) (hp : PlAt w m ns) (hz : nm.length ≤ 1048576) :
    Calls Tryz.prog 74 #[.string (str nm), .map (some m)] w fun e w' => e = .returned (.bool (endB ns nm)) ∧ Below w.heap.size w w' := by
  have HP := hid hp
  have HLo := hid (show ∀ W : World, _ from fun W => lower_bel nm W hz)
  obtain ⟨x, hx⟩ : ∃ x, lowB nm = x := ⟨_, rfl⟩
  have hxl : x.length ≤ 1048576 := by rw [← hx, lowB_len]; exact hz
  rw [hx] at HLo
  clear hp
  by_cases h0 : x = [99, 111, 110, 110, 101, 99, 116, 105, 111, 110]
  · have HE := hid (show endB ns nm = false from end_hop (hx.trans h0) (by decide))
    rw [HE.out]
    rw [h0] at HLo
    have HL2 := hid (show ∀ W : World, Calls Tryz.prog 116 #[.string (str nm)] W fun e w' => e = .returned (.string (⟨#[99, 111, 110, 110, 101, 99, 116, 105, 111, 110]⟩ : ByteArray)) ∧ Below W.heap.size W w' from HLo.out)
    clear hx hxl HE HLo h0
    go_enter Tryz.func74, Tryz.ntmps74
    go_wp2_with (go_at_call 116; (with_reducible refine (HL2.out _).mono ?_); rintro e w1 ⟨rfl, hb⟩; have HB := hid hb; clear hb HL2)
    go_ret
    exact ⟨rfl, HB.out⟩
  by_cases h1 : x = [107, 101, 101, 112, 45, 97, 108, 105, 118, 101]
  · have HE := hid (show endB ns nm = false from end_hop (hx.trans h1) (by decide))
    rw [HE.out]
    rw [h1] at HLo
    have HL2 := hid (show ∀ W : World, Calls Tryz.prog 116 #[.string (str nm)] W fun e w' => e = .returned (.string (⟨#[107, 101, 101, 112, 45, 97, 108, 105, 118, 101]⟩ : ByteArray)) ∧ Below W.heap.size W w' from HLo.out)
    clear hx hxl HE HLo h0 h1
    go_enter Tryz.func74, Tryz.ntmps74
    go_wp2_with (go_at_call 116; (with_reducible refine (HL2.out _).mono ?_); rintro e w1 ⟨rfl, hb⟩; have HB := hid hb; clear hb HL2)
    go_ret
    exact ⟨rfl, HB.out⟩
  by_cases h2 : x = [117, 112, 103, 114, 97, 100, 101]
  · have HE := hid (show endB ns nm = false from end_hop (hx.trans h2) (by decide))
    rw [HE.out]
    rw [h2] at HLo
    have HL2 := hid (show ∀ W : World, Calls Tryz.prog 116 #[.string (str nm)] W fun e w' => e = .returned (.string (⟨#[117, 112, 103, 114, 97, 100, 101]⟩ : ByteArray)) ∧ Below W.heap.size W w' from HLo.out)
    clear hx hxl HE HLo h0 h1 h2
    go_enter Tryz.func74, Tryz.ntmps74
    go_wp2_with (go_at_call 116; (with_reducible refine (HL2.out _).mono ?_); rintro e w1 ⟨rfl, hb⟩; have HB := hid hb; clear hb HL2)
    go_ret
    exact ⟨rfl, HB.out⟩
  by_cases h3 : x = [112, 114, 111, 120, 121, 45, 99, 111, 110, 110, 101, 99, 116, 105, 111, 110]
  · have HE := hid (show endB ns nm = false from end_hop (hx.trans h3) (by decide))
    rw [HE.out]
    rw [h3] at HLo
    have HL2 := hid (show ∀ W : World, Calls Tryz.prog 116 #[.string (str nm)] W fun e w' => e = .returned (.string (⟨#[112, 114, 111, 120, 121, 45, 99, 111, 110, 110, 101, 99, 116, 105, 111, 110]⟩ : ByteArray)) ∧ Below W.heap.size W w' from HLo.out)
    clear hx hxl HE HLo h0 h1 h2 h3
    go_enter Tryz.func74, Tryz.ntmps74
    go_wp2_with (go_at_call 116; (with_reducible refine (HL2.out _).mono ?_); rintro e w1 ⟨rfl, hb⟩; have HB := hid hb; clear hb HL2)
    go_ret
    exact ⟨rfl, HB.out⟩
  by_cases h4 : x = [112, 114, 111, 120, 121, 45, 97, 117, 116, 104, 101, 110, 116, 105, 99, 97, 116, 101]
  · have HE := hid (show endB ns nm = false from end_hop (hx.trans h4) (by decide))
    rw [HE.out]
    rw [h4] at HLo
    have HL2 := hid (show ∀ W : World, Calls Tryz.prog 116 #[.string (str nm)] W fun e w' => e = .returned (.string (⟨#[112, 114, 111, 120, 121, 45, 97, 117, 116, 104, 101, 110, 116, 105, 99, 97, 116, 101]⟩ : ByteArray)) ∧ Below W.heap.size W w' from HLo.out)
    clear hx hxl HE HLo h0 h1 h2 h3 h4
    go_enter Tryz.func74, Tryz.ntmps74
    go_wp2_with (go_at_call 116; (with_reducible refine (HL2.out _).mono ?_); rintro e w1 ⟨rfl, hb⟩; have HB := hid hb; clear hb HL2)
    go_ret
    exact ⟨rfl, HB.out⟩
  by_cases h5 : x = [112, 114, 111, 120, 121, 45, 97, 117, 116, 104, 111, 114, 105, 122, 97, 116, 105, 111, 110]
  · have HE := hid (show endB ns nm = false from end_hop (hx.trans h5) (by decide))
    rw [HE.out]
    rw [h5] at HLo
    have HL2 := hid (show ∀ W : World, Calls Tryz.prog 116 #[.string (str nm)] W fun e w' => e = .returned (.string (⟨#[112, 114, 111, 120, 121, 45, 97, 117, 116, 104, 111, 114, 105, 122, 97, 116, 105, 111, 110]⟩ : ByteArray)) ∧ Below W.heap.size W w' from HLo.out)
    clear hx hxl HE HLo h0 h1 h2 h3 h4 h5
    go_enter Tryz.func74, Tryz.ntmps74
    go_wp2_with (go_at_call 116; (with_reducible refine (HL2.out _).mono ?_); rintro e w1 ⟨rfl, hb⟩; have HB := hid hb; clear hb HL2)
    go_ret
    exact ⟨rfl, HB.out⟩
  by_cases h6 : x = [116, 101]
  · have HE := hid (show endB ns nm = false from end_hop (hx.trans h6) (by decide))
    rw [HE.out]
    rw [h6] at HLo
    have HL2 := hid (show ∀ W : World, Calls Tryz.prog 116 #[.string (str nm)] W fun e w' => e = .returned (.string (⟨#[116, 101]⟩ : ByteArray)) ∧ Below W.heap.size W w' from HLo.out)
    clear hx hxl HE HLo h0 h1 h2 h3 h4 h5 h6
    go_enter Tryz.func74, Tryz.ntmps74
    go_wp2_with (go_at_call 116; (with_reducible refine (HL2.out _).mono ?_); rintro e w1 ⟨rfl, hb⟩; have HB := hid hb; clear hb HL2)
    go_ret
    exact ⟨rfl, HB.out⟩
  by_cases h7 : x = [116, 114, 97, 105, 108, 101, 114]
  · have HE := hid (show endB ns nm = false from end_hop (hx.trans h7) (by decide))
    rw [HE.out]
    rw [h7] at HLo
    have HL2 := hid (show ∀ W : World, Calls Tryz.prog 116 #[.string (str nm)] W fun e w' => e = .returned (.string (⟨#[116, 114, 97, 105, 108, 101, 114]⟩ : ByteArray)) ∧ Below W.heap.size W w' from HLo.out)
    clear hx hxl HE HLo h0 h1 h2 h3 h4 h5 h6 h7
    go_enter Tryz.func74, Tryz.ntmps74
    go_wp2_with (go_at_call 116; (with_reducible refine (HL2.out _).mono ?_); rintro e w1 ⟨rfl, hb⟩; have HB := hid hb; clear hb HL2)
    go_ret
    exact ⟨rfl, HB.out⟩
  by_cases h8 : x = [116, 114, 97, 110, 115, 102, 101, 114, 45, 101, 110, 99, 111, 100, 105, 110, 103]
  · have HE := hid (show endB ns nm = false from end_hop (hx.trans h8) (by decide))
    rw [HE.out]
    rw [h8] at HLo
    have HL2 := hid (show ∀ W : World, Calls Tryz.prog 116 #[.string (str nm)] W fun e w' => e = .returned (.string (⟨#[116, 114, 97, 110, 115, 102, 101, 114, 45, 101, 110, 99, 111, 100, 105, 110, 103]⟩ : ByteArray)) ∧ Below W.heap.size W w' from HLo.out)
    clear hx hxl HE HLo h0 h1 h2 h3 h4 h5 h6 h7 h8
    go_enter Tryz.func74, Tryz.ntmps74
    go_wp2_with (go_at_call 116; (with_reducible refine (HL2.out _).mono ?_); rintro e w1 ⟨rfl, hb⟩; have HB := hid hb; clear hb HL2)
    go_ret
    exact ⟨rfl, HB.out⟩
  by_cases h9 : x = [104, 111, 115, 116]
  · have HE := hid (end_host (ns := ns) (hx.trans h9))
    rw [HE.out]
    rw [h9] at HLo
    have HL2 := hid (show ∀ W : World, Calls Tryz.prog 116 #[.string (str nm)] W fun e w' => e = .returned (.string (⟨#[104, 111, 115, 116]⟩ : ByteArray)) ∧ Below W.heap.size W w' from HLo.out)
    clear hx hxl HE HLo h0 h1 h2 h3 h4 h5 h6 h7 h8 h9
    go_enter Tryz.func74, Tryz.ntmps74
    go_wp2_with (go_at_call 116; (with_reducible refine (HL2.out _).mono ?_); rintro e w1 ⟨rfl, hb⟩; have HB := hid hb; clear hb HL2)
    go_ret
    exact ⟨rfl, HB.out⟩
  have HE := hid (end_else (ns := ns) hx (show hopB x = false from by unfold hopB; rw [beq_ne h0, beq_ne h1, beq_ne h2, beq_ne h3, beq_ne h4, beq_ne h5, beq_ne h6, beq_ne h7, beq_ne h8]; rfl) h9)
  rw [HE.out]
  have HKey := hid (Go.WideMaps.keyOf_string_mk (k := 9) Tryz.underlying9 (s := str x) (show x.toArray.size ≤ maxLen by unfold maxLen; simp; omega))
  obtain ⟨S, hS⟩ : ∃ S, str x = S := ⟨_, rfl⟩
  obtain ⟨p0, q0⟩ := tl_ne hS h0
  replace p0 : (S.toList == (⟨#[99, 111, 110, 110, 101, 99, 116, 105, 111, 110]⟩ : ByteArray).toList) = false := p0
  obtain ⟨p1, q1⟩ := tl_ne hS h1
  replace p1 : (S.toList == (⟨#[107, 101, 101, 112, 45, 97, 108, 105, 118, 101]⟩ : ByteArray).toList) = false := p1
  obtain ⟨p2, q2⟩ := tl_ne hS h2
  replace p2 : (S.toList == (⟨#[117, 112, 103, 114, 97, 100, 101]⟩ : ByteArray).toList) = false := p2
  obtain ⟨p3, q3⟩ := tl_ne hS h3
  replace p3 : (S.toList == (⟨#[112, 114, 111, 120, 121, 45, 99, 111, 110, 110, 101, 99, 116, 105, 111, 110]⟩ : ByteArray).toList) = false := p3
  obtain ⟨p4, q4⟩ := tl_ne hS h4
  replace p4 : (S.toList == (⟨#[112, 114, 111, 120, 121, 45, 97, 117, 116, 104, 101, 110, 116, 105, 99, 97, 116, 101]⟩ : ByteArray).toList) = false := p4
  obtain ⟨p5, q5⟩ := tl_ne hS h5
  replace p5 : (S.toList == (⟨#[112, 114, 111, 120, 121, 45, 97, 117, 116, 104, 111, 114, 105, 122, 97, 116, 105, 111, 110]⟩ : ByteArray).toList) = false := p5
  obtain ⟨p6, q6⟩ := tl_ne hS h6
  replace p6 : (S.toList == (⟨#[116, 101]⟩ : ByteArray).toList) = false := p6
  obtain ⟨p7, q7⟩ := tl_ne hS h7
  replace p7 : (S.toList == (⟨#[116, 114, 97, 105, 108, 101, 114]⟩ : ByteArray).toList) = false := p7
  obtain ⟨p8, q8⟩ := tl_ne hS h8
  replace p8 : (S.toList == (⟨#[116, 114, 97, 110, 115, 102, 101, 114, 45, 101, 110, 99, 111, 100, 105, 110, 103]⟩ : ByteArray).toList) = false := p8
  obtain ⟨p9, q9⟩ := tl_ne hS h9
  replace p9 : (S.toList == (⟨#[104, 111, 115, 116]⟩ : ByteArray).toList) = false := p9
  have HKe2 := hid (show keyOf Tryz.prog 9 (.string S) = some (Lit.string x) from by rw [← hS]; exact HKey.out)
  rw [hS] at HLo
  obtain ⟨R, hR⟩ : ∃ R, ns.contains x = R := ⟨_, rfl⟩
  rw [hR]
  have HR := hid hR
  clear hx hxl HE hS HKey hR h0 h1 h2 h3 h4 h5 h6 h7 h8 h9
  go_enter Tryz.func74, Tryz.ntmps74
  go_wp2_with (first | (go_at_call 116; (with_reducible refine (HLo.out _).mono ?_); rintro e w1 ⟨rfl, hb⟩; have HB := hid hb; have HP1 := hid (HP.out.next hb); clear hb HLo) | (at_lookup; obtain ⟨pn, D, hown, hpn, hhas⟩ := HP1.out; refine wpList_lookup_own_ok_int _ rfl _ _ 130 rfl 9 3 .i64 lawP Tryz.underlying130 Tryz.underlying3 (zeroI _) m pn D rfl hown _ _ rfl HKe2.out ?_; intro cc _ _; rw [hhas x, HR.out]; clear hown hpn hhas))
  go_ret
  exact ⟨rfl, HB.out⟩
theorem filt_yes {fs : List (B × B)} {P : B × B → Bool} {i : Nat} {f : B × B} (hf : fs[i]? = some f) (h : P f = true) : (fs.take (i + 1)).filter P = (fs.take i).filter P ++ [f] := by
  rw [List.take_add_one, hf, List.filter_append]
  simp [h]
theorem filt_no {fs : List (B × B)} {P : B × B → Bool} {i : Nat} {f : B × B} (hf : fs[i]? = some f) (h : P f = false) : (fs.take (i + 1)).filter P = (fs.take i).filter P := by
  rw [List.take_add_one, hf, List.filter_append]
  simp [h]
theorem filt_le {fs : List (B × B)} {P : B × B → Bool} (i : Nat) : ((fs.take i).filter P).length ≤ i := Nat.le_trans (List.length_filter_le _ _) (by rw [List.length_take]; omega)
/-- While fields are gone through with a map of names. -/
structure StS (w W : World) (m : Nat) (v : Value) (gs : List (B × B)) (ns : List B) : Prop where
  low : Below w.heap.size w W
  row : OwnF W (m + 1) v gs
  pl : PlAt W m ns
theorem StS.next {w W W' : World} {m : Nat} {v : Value} {gs : List (B × B)} {ns : List B} (h : StS w W m v gs ns) (hb : Below W.heap.size W W') : StS w W' m v gs ns := ⟨below_out h.low hb, h.row.keep hb, h.pl.next hb⟩
theorem StS.app {w W W' : World} {o : Obj} {m : Nat} {v v' : Value} {gs gs' : List (B × B)} {ns : List B} (h : StS w W m v gs ns) (hm : w.heap.size ≤ m) (hg : (W.alloc o).grownBy W' v.ownBlock) (ho : OwnF W' (m + 1) v' gs') : StS w W' m v' gs' ns := by
  have hb := app_below' (B := m + 1) (Below.refl _ _) (Nat.succ_le_of_lt h.pl.lt) h.row hg
  exact ⟨h.low.trans (hb.mono (Nat.le_succ_of_le hm)), ho, h.pl.blk (hb.block _ (Nat.lt_succ_self _))⟩
theorem own_ltF {W : World} {b k : Nat} {v : Value} {gs : List (B × B)} (h : OwnF W b v gs) (e : v.ownBlock = some k) : k < W.heap.size := by
  rcases h.2 with ⟨h', _⟩ | ⟨g, cap, cur, e1, e2, e3, e4⟩
  · rw [h'] at e; cases e
  · rw [e1] at e
    obtain rfl : g = k := by simpa [Value.ownBlock] using e
    exact lt_of_heap e3
theorem cell_grow {U U' : World} {ob : Option Nat} {g j : Nat} {x : Value} (h : U.cell? ⟨g, j, none⟩ = some x) (hg : U.grownBy U' ob) (hne : ob ≠ some g) : U'.cell? ⟨g, j, none⟩ = some x := by
  have e := hg.block g (lt_of_cell h) (fun e => hne e.symm)
  unfold World.cell? at h ⊢
  dsimp only at h ⊢
  rw [e]
  exact h
theorem RdW.grow {U U' : World} {ob : Option Nat} {g : Nat} {N V : ByteArray} (h : RdW U g N V) (hg : U.grownBy U' ob) (hne : ob ≠ some g) : RdW U' g N V := ⟨cell_grow h.a0 hg hne, cell_grow h.a1 hg hne⟩
set_option maxRecDepth 20000 in
set_option maxHeartbeats 16000000 in
theorem pstrip (fs : List (B × B)) (p : Option Addr) (n c : Nat) (hn : fs.length = n) (w : World) (hF : FAt w p fs) (hsz : szN fs) (hnn : n ≤ 1000) (hmx : ∃ m : Int, w.cell? ⟨2, 0, none⟩ = some (.int .i64 m)) :
    Calls Tryz.prog 36 #[.slice p n c] w fun e w' => ∃ v, e = .returned v ∧ OwnF w' w.heap.size v (stripF fs) ∧ Below w.heap.size w w' := by
  have HN := hid hn
  have HF := hid hF
  have HZ := hid hsz
  have HNm := hid (pnamed fs p n c hn w hF hsz hnn hmx)
  obtain ⟨ns, hns⟩ : ∃ ns, namF [] fs = ns := ⟨_, rfl⟩
  rw [hns] at HNm
  obtain ⟨P, hP⟩ : ∃ P : B × B → Bool, (fun f : B × B => endB ns f.1) = P := ⟨_, rfl⟩
  have HPe := hid (fun f : B × B => show endB ns f.1 = P f from by rw [← hP])
  have hst : stripF fs = fs.filter P := by unfold stripF; rw [hns, hP]
  rw [hst]
  obtain ⟨i0, hi0, hz0, hz1, hz2⟩ := info_parts infoF
  clear hn hF hsz hns hP hst hmx
  go_enter Tryz.func36, Tryz.ntmps36
  go_wp2_with (go_at_call 73; (with_reducible refine HNm.out.mono ?_); rintro e w1 ⟨v1, rfl, hs⟩; have HS0 := hid (show StS w w1 w.heap.size (.slice none 0 0) [] ns from ⟨hs.low, OwnF.nil _ _, hs.pl⟩); clear hs HNm)
  go_loopg [5, 15] (n + 1) (fun gk s5 s15 wr => ∃ (i : Nat) (q : Option Addr) (k d : Nat), s5 = .slice q k d ∧ s15 = .int .i64 (i : Int) ∧ i ≤ n ∧ gk = n - i + 1 ∧ ((fs.take i).filter P).length = k ∧ StS w wr w.heap.size (.slice q k d) ((fs.take i).filter P) ns)
  case atStart => exact ⟨0, none, 0, 0, rfl, rfl, by omega, rfl, rfl, HS0.out⟩
  case round =>
    obtain ⟨i, q, k, d, rfl, rfl, hin, rfl, hk, hs⟩ := hrel
    rename World => wr
    have hki : k ≤ i := by rw [← hk]; exact filt_le i
    have HS := hid hs
    have HLt := hid (fun (b : Nat) (e : (Value.slice q k d).ownBlock = some b) => own_ltF hs.row e)
    have HK := hid hk
    clear hs hk HS0
    by_cases hlt : i < n
    · obtain ⟨f, hf⟩ : ∃ f, fs[i]? = some f := ⟨fs[i]'(by rw [HN.out]; exact hlt), List.getElem?_eq_getElem (by rw [HN.out]; exact hlt)⟩
      obtain ⟨g, o, hp, c0, c1⟩ := (HF.out.next HS.out.low) i f hf
      subst hp
      have hltI : (i : Int) < (n : Int) := by omega
      obtain ⟨z1, z2⟩ := HZ.out f (List.mem_of_getElem? hf)
      have HEn := hid (show ∀ W : World, PlAt W w.heap.size ns → _ from fun W h => pend f.1 ns w.heap.size W h z1)
      have HC1 := hid (show ∀ W : World, _ from fun W => clone_any (str f.1) W (by rw [str_size]; omega))
      have HC2 := hid (show ∀ W : World, _ from fun W => clone_any (str f.2) W (by rw [str_size]; omega))
      have HYy := hid (fun (h : P f = true) => filt_yes (P := P) hf h)
      have HYn := hid (fun (h : P f = false) => filt_no (P := P) hf h)
      rw [HPe.out f] at HEn
      obtain ⟨S, hS⟩ : ∃ S, P f = S := ⟨_, rfl⟩
      rw [hS] at HEn HYy HYn
      have HPc := hid (show fldC [f] = [.string (str f.1), .string (str f.2)] from rfl)
      obtain ⟨N, hN⟩ : ∃ N, str f.1 = N := ⟨_, rfl⟩
      obtain ⟨V, hV⟩ : ∃ V, str f.2 = V := ⟨_, rfl⟩
      have HNN := hid hN
      have HVV := hid hV
      rw [hN] at c0 HEn HC1 HPc
      rw [hV] at c1 HC2 HPc
      have HSB := hid (HS.out.next (below_new wr (.cells #[.string N, .string V] 88 (0, 0))))
      have HBx := hid (heap_alloc_new wr (.cells #[.string N, .string V] 88 (0, 0)))
      clear hf hS hN hV z1 z2
      cases S with
      | false =>
        have HY := hid (HYn.out rfl)
        go_wp2_with (go_at_call 74; (with_reducible refine (HEn.out _ HSB.out.pl).mono ?_); rintro e w2 ⟨rfl, hb⟩; have HS2 := hid (HSB.out.next hb); clear hb HEn)
        go_roundg (n - (i + 1) + 1)
        case measure => omega
        case rel => exact ⟨i + 1, q, k, d, rfl, by go_num, by omega, rfl, by rw [HY.out]; exact HK.out, by rw [HY.out]; exact HS2.out⟩
      | true =>
        have HY := hid (HYy.out rfl)
        go_wp2_with (go_at_call 74; (with_reducible refine (HEn.out _ HSB.out.pl).mono ?_); rintro e w2 ⟨rfl, hb⟩; have HS2 := hid (HSB.out.next hb); have HX2 := hid ((hb.block _ (lt_of_heap HBx.out)).trans HBx.out); clear hb HEn)
        obtain ⟨y0, y1⟩ := box2W HX2.out
        have hS0 : RdW w2.drew wr.heap.size N V := ⟨y0, y1⟩
        have HS3 := hid (show StS w w2.drew w.heap.size (.slice q k d) ((fs.take i).filter P) ns from HS2.out.next ⟨rfl, rfl, rfl, Nat.le_refl _, fun _ _ => rfl⟩)
        generalize hW3 : w2.drew = w3 at hS0 HS3
        refine wp_region_noPanic ?_
        refine any_begin 11 (by kernel_rfl) (by kernel_rfl) ?_
        rw [hW3]
        clear hW3 HS2 HX2 y0 y1 HSB HBx
        refine late_begin (fun U => RdW U wr.heap.size N V) (fun _ => false) hS0 (fun hS => ?_)
        refine late_take (i := 0) (some 23) rfl rfl (by kernel_rfl) (by kernel_rfl) (by kernel_rfl) (by kernel_rfl) (by kernel_rfl) (fun _ _ _ h => h) (by rfl) (v := ?v0p) ?hy0p hS ?rest0p
        case hy0p => intro w0 hSw; have a0 := hSw.a0; have a1 := hSw.a1; go_simp; try with_reducible rfl
        simp only [Act.put, List.setIfInBounds_toArray, List.set_cons_zero, List.set_cons_succ]
        refine late_take (i := 1) (some 24) rfl rfl (by kernel_rfl) (by kernel_rfl) (by kernel_rfl) (by kernel_rfl) (by kernel_rfl) (fun _ _ _ h => h) (by rfl) (v := ?v1p) ?hy1p hS ?rest1p
        case hy1p => intro w0 hSw; have a0 := hSw.a0; have a1 := hSw.a1; go_simp; try with_reducible rfl
        simp only [Act.put, List.setIfInBounds_toArray, List.set_cons_zero, List.set_cons_succ]
        refine late_take (i := 2) (some 25) rfl rfl (by kernel_rfl) (by kernel_rfl) (by kernel_rfl) (by kernel_rfl) (by kernel_rfl) (fun _ _ _ h => h) (by rfl) (v := ?v2p) ?hy2p hS ?rest2p
        case hy2p => intro w0 hSw; have a0 := hSw.a0; have a1 := hSw.a1; go_simp; try with_reducible rfl
        simp only [Act.put, List.setIfInBounds_toArray, List.set_cons_zero, List.set_cons_succ]
        refine late_take (i := 4) (some 27) rfl rfl (by kernel_rfl) (by kernel_rfl) (by kernel_rfl) (by kernel_rfl) (by kernel_rfl) (fun _ _ _ h => h) (by rfl) (v := ?v4p) ?hy4p hS ?rest4p
        case hy4p => intro w0 hSw; have a0 := hSw.a0; have a1 := hSw.a1; go_simp; try with_reducible rfl
        simp only [Act.put, List.setIfInBounds_toArray, List.set_cons_zero, List.set_cons_succ]
        refine late_take (i := 5) (some 28) rfl rfl (by kernel_rfl) (by kernel_rfl) (by kernel_rfl) (by kernel_rfl) (by kernel_rfl) (fun _ _ _ h => h) (by rfl) (v := ?v5p) ?hy5p hS ?rest5p
        case hy5p => intro w0 hSw; have a0 := hSw.a0; have a1 := hSw.a1; go_simp; try with_reducible rfl
        simp only [Act.put, List.setIfInBounds_toArray, List.set_cons_zero, List.set_cons_succ]
        refine wpAnyD_one (i := 3) (by kernel_rfl) rfl (fun K' hK => ?_)
        go_simp
        go_at_call 44
        refine (HC1.out _).mono ?_
        rintro e w4 ⟨rfl, hb⟩
        have HS4 := hid (HS3.out.next hb)
        have hS4 : RdW w4 wr.heap.size N V := hS.next hb
        refine hK _ _ ⟨fun _ => hS4, ?_⟩
        clear hK K' hb
        refine wpAnyD_one (i := 6) (by kernel_rfl) rfl (fun K' hK => ?_)
        go_simp
        go_at_call 44
        refine (HC2.out _).mono ?_
        rintro e w5 ⟨rfl, hb⟩
        have HS5 := hid (HS4.out.next hb)
        have hS5 : RdW w5 wr.heap.size N V := hS4.next hb
        refine hK _ _ ⟨fun _ => hS5, ?_⟩
        clear hK K' hb
        refine late_take (i := 7) (some 30) rfl rfl (by kernel_rfl) (by kernel_rfl) (by kernel_rfl) (by kernel_rfl) (by kernel_rfl) (fun _ _ _ h => h) (by rfl) (v := ?v7p) ?hy7p hS5 ?rest7p
        case hy7p => intro w0 hSw; have a0 := hSw.a0; have a1 := hSw.a1; go_simp; try with_reducible rfl
        simp only [Act.put, List.setIfInBounds_toArray, List.set_cons_zero, List.set_cons_succ]
        refine wpAnyD_one (i := 8) (by kernel_rfl) rfl (fun K' hK => ?_)
        go_simp
        have hS6 : RdW (w5.alloc (.cells #[.string N, .string V] 88 (0, 0))) wr.heap.size N V := hS5.next (below_new _ _)
        refine hK _ _ ⟨fun _ => hS6, ?_⟩
        clear hK K'
        refine wpAnyD_one (i := 9) (by kernel_rfl) rfl (fun K' hK => ?_)
        rw [if_pos (by rfl)]
        refine wp_append_own _ (.tmp 23) (.tmp 31) 33 rfl (w.heap.size + 1) 88 i0 _ 2 32 Tryz.underlying33 hi0 hz0 hz1 hz2 rfl (by decide) (.slice q k d) k (fldC ((fs.take i).filter P)) (by go_simp) (by have h9 := HS5.out.row.alloc (.cells #[.string N, .string V] 88 (0, 0)); unfold OwnF at h9; rw [HK.out] at h9; exact h9) ⟨w5.heap.size, 0, none⟩ 1 1 [.string N, .string V] (by go_simp) rfl (cells_new w5 _ _) (by simp [Value.oneCell']) (by unfold maxLen; omega) (by omega) (Nat.le_trans (Nat.succ_le_of_lt HS5.out.pl.lt) (below_new _ _).size) ?_
        intro v' w7 hown' hgrow _
        obtain ⟨q', d', rfl⟩ := own_slice hown'
        have hS7 : RdW w7 wr.heap.size N V := hS6.grow hgrow (fun e => Nat.lt_irrefl _ (HLt.out _ e))
        have HS7 := hid (HS5.out.app (Nat.le_refl _) hgrow (show OwnF w7 (w.heap.size + 1) (.slice q' (k + 1) d') ((fs.take i).filter P ++ [f]) from OwnF.snocW HK.out.symm HNN.out HVV.out hown'))
        refine hK _ _ ⟨fun _ => hS7, ?_⟩
        clear hK K' hown' hgrow hS4 hS5 hS6 HS3 HS4 HS5
        refine late_take (i := 10) (some 5) rfl rfl (by kernel_rfl) (by kernel_rfl) (by kernel_rfl) (by kernel_rfl) (by kernel_rfl) (fun _ _ _ h => h) (by rfl) (v := ?v10p) ?hy10p hS7 ?rest10p
        case hy10p => intro w0 hSw; have a0 := hSw.a0; have a1 := hSw.a1; go_simp; try with_reducible rfl
        simp only [Act.put, List.setIfInBounds_toArray]
        refine late_done (by kernel_rfl) ?_ _
        refine NoPanic.normal ?_
        go_wp2
        go_roundg (n - (i + 1) + 1)
        case measure => omega
        case rel => exact ⟨i + 1, q', k + 1, d', rfl, by go_num, by omega, rfl, by rw [HY.out, List.length_append, HK.out]; rfl, by rw [HY.out]; exact HS7.out⟩
    · obtain rfl : i = n := by omega
      have hltI : ¬ (i : Int) < (i : Int) := by omega
      have HT := hid (show fs.take i = fs from List.take_of_length_le (by rw [HN.out]; exact Nat.le_refl _))
      clear hlt
      go_wp2
      go_ret
      exact ⟨_, rfl, by have h9 := HS.out.row; rw [HT.out] at h9; exact OwnF.lowW h9 (Nat.le_succ _), HS.out.low⟩
theorem str9 (w : World) : StrAt (w.alloc (.cells #[.string ⟨#[67, 111, 110, 110, 101, 99, 116, 105, 111, 110]⟩, .string ⟨#[75, 101, 101, 112, 45, 65, 108, 105, 118, 101]⟩, .string ⟨#[80, 114, 111, 120, 121, 45, 67, 111, 110, 110, 101, 99, 116, 105, 111, 110]⟩, .string ⟨#[80, 114, 111, 120, 121, 45, 65, 117, 116, 104, 101, 110, 116, 105, 99, 97, 116, 101]⟩, .string ⟨#[80, 114, 111, 120, 121, 45, 65, 117, 116, 104, 111, 114, 105, 122, 97, 116, 105, 111, 110]⟩, .string ⟨#[84, 69]⟩, .string ⟨#[84, 114, 97, 105, 108, 101, 114]⟩, .string ⟨#[84, 114, 97, 110, 115, 102, 101, 114, 45, 69, 110, 99, 111, 100, 105, 110, 103]⟩, .string ⟨#[85, 112, 103, 114, 97, 100, 101]⟩] 9 (0, 0))) (some ⟨w.heap.size, 0, none⟩) alwaysL := by
  intro j y hj
  refine ⟨w.heap.size, 0, rfl, ?_⟩
  rw [World.cell?_alloc_new, Nat.zero_add]
  unfold alwaysL at hj
  rcases j with _ | _ | _ | _ | _ | _ | _ | _ | _ | j <;> simp at hj <;> (subst hj; rfl)
set_option maxRecDepth 20000 in
set_option maxHeartbeats 16000000 in
theorem dstrip (fs : List (B × B)) (p : Option Addr) (n c : Nat) (hn : fs.length = n) (w : World) (hF : FAt w p fs) (hsz : szN fs) (hnn : n ≤ 1000) :
    Calls Tryz.prog 47 #[.slice p n c] w fun e w' => ∃ v, e = .returned v ∧ OwnF w' w.heap.size v (stripF fs) ∧ Below w.heap.size w w' := by
  have HN := hid hn
  have HF := hid hF
  have HZ := hid hsz
  have HNm := hid (show ∀ W : World, Below w.heap.size w W → _ from fun W hb => dNamed fs p n c hn W (hF.next hb) hsz hnn)
  have hlow : lowAll (namF [] fs) := namF_low fs [] (fun y hy => by cases hy)
  have hsm := namF_small fs [] hsz (fun y hy => by cases hy)
  obtain ⟨ns, hns⟩ : ∃ ns, namF [] fs = ns := ⟨_, rfl⟩
  rw [hns] at HNm hlow hsm
  have hcn : ns.length ≤ 2000000000 := by rw [← hns]; exact namF_most fs hsz (by omega)
  obtain ⟨P, hP⟩ : ∃ P : B × B → Bool, (fun f : B × B => endB ns f.1) = P := ⟨_, rfl⟩
  have HPe := hid (fun f : B × B => show endB ns f.1 = P f from by rw [← hP])
  have hst : stripF fs = fs.filter P := by unfold stripF; rw [hns, hP]
  rw [hst]
  obtain ⟨nk, hnk⟩ : ∃ nk, ns.length = nk := ⟨_, rfl⟩
  rw [hnk] at hcn
  have HNk := hid hnk
  have HLow := hid hlow
  have HSml := hid hsm
  have HB0 := hid (below_new w (.cells #[.string ⟨#[67, 111, 110, 110, 101, 99, 116, 105, 111, 110]⟩, .string ⟨#[75, 101, 101, 112, 45, 65, 108, 105, 118, 101]⟩, .string ⟨#[80, 114, 111, 120, 121, 45, 67, 111, 110, 110, 101, 99, 116, 105, 111, 110]⟩, .string ⟨#[80, 114, 111, 120, 121, 45, 65, 117, 116, 104, 101, 110, 116, 105, 99, 97, 116, 101]⟩, .string ⟨#[80, 114, 111, 120, 121, 45, 65, 117, 116, 104, 111, 114, 105, 122, 97, 116, 105, 111, 110]⟩, .string ⟨#[84, 69]⟩, .string ⟨#[84, 114, 97, 105, 108, 101, 114]⟩, .string ⟨#[84, 114, 97, 110, 115, 102, 101, 114, 45, 69, 110, 99, 111, 100, 105, 110, 103]⟩, .string ⟨#[85, 112, 103, 114, 97, 100, 101]⟩] 9 (0, 0)))
  have HA0 := hid (str9 w)
  obtain ⟨i0, hi0, hz0, hz1, hz2⟩ := info_parts infoF
  clear hn hF hsz hns hP hst hlow hsm hnk
  go_enter Tryz.func47, Tryz.ntmps47
  go_wp2_with (go_at_call 87; (with_reducible refine (HNm.out _ HB0.out).mono ?_); rintro e w1 ⟨v1, rfl, ho, hb⟩; obtain ⟨q1, d1, rfl⟩ : ∃ q d, v1 = .slice q nk d := (by have h9 := own_slice ho; rw [HNk.out] at h9; exact h9); have HB1 := hid (below_out HB0.out hb); have HA1 := hid (HA0.out.next hb); have HS1 := hid (OwnS.strAt ho); clear ho hb HNm HA0 HB0)
  go_loopg [5, 6] (n + 1) (fun gk s5 s6 wr => ∃ (i : Nat) (q : Option Addr) (k d : Nat), s5 = .slice q k d ∧ s6 = .int .i64 (i : Int) ∧ i ≤ n ∧ gk = n - i + 1 ∧ ((fs.take i).filter P).length = k ∧ OwnF wr w1.heap.size (.slice q k d) ((fs.take i).filter P) ∧ Below w1.heap.size w1 wr)
  case atStart => exact ⟨0, none, 0, 0, rfl, rfl, by omega, rfl, rfl, OwnF.nil _ _, Below.refl _ _⟩
  case round =>
    obtain ⟨i, q, k, d, rfl, rfl, hin, rfl, hk, ho, hb⟩ := hrel
    rename World => wr
    have hki : k ≤ i := by rw [← hk]; exact filt_le i
    have HO := hid ho
    have HB := hid hb
    have HK := hid hk
    clear ho hb hk
    by_cases hlt : i < n
    · obtain ⟨f, hf⟩ : ∃ f, fs[i]? = some f := ⟨fs[i]'(by rw [HN.out]; exact hlt), List.getElem?_eq_getElem (by rw [HN.out]; exact hlt)⟩
      obtain ⟨g, o, hp, c0, c1⟩ := (HF.out.next (below_out HB1.out HB.out)) i f hf
      subst hp
      have hltI : (i : Int) < (n : Int) := by omega
      obtain ⟨z1, z2⟩ := HZ.out f (List.mem_of_getElem? hf)
      have HI1 := hid (show ∀ W : World, Below w1.heap.size w1 W → _ from fun W hb => din f.1 alwaysL (some ⟨w.heap.size, 0, none⟩) 9 9 rfl W (HA1.out.next hb) (by omega) (by decide) (by decide))
      have HI2 := hid (show ∀ W : World, Below w1.heap.size w1 W → _ from fun W hb => din f.1 ns q1 nk d1 HNk.out W (HS1.out.next hb) (by omega) (fun z hz => Nat.le_trans (HSml.out z hz) (by decide)) (by omega))
      have HSm := hid (show ∀ W : World, _ from fun W => rsame_any (str f.1) (str [72, 111, 115, 116]) W (by rw [str_size]; omega) (by decide))
      have hdoc := strip_doc ns HLow.out f.1
      rw [HPe.out f] at hdoc
      have HYy := hid (fun (h : P f = true) => filt_yes (P := P) hf h)
      have HYn := hid (fun (h : P f = false) => filt_no (P := P) hf h)
      obtain ⟨N, hN⟩ : ∃ N, str f.1 = N := ⟨_, rfl⟩
      obtain ⟨V, hV⟩ : ∃ V, str f.2 = V := ⟨_, rfl⟩
      have HNN := hid hN
      have HVV := hid hV
      obtain ⟨R1, h1⟩ : ∃ R, inB f.1 alwaysL = R := ⟨_, rfl⟩
      obtain ⟨R2, h2⟩ : ∃ R, inB f.1 ns = R := ⟨_, rfl⟩
      obtain ⟨R3, h3⟩ : ∃ R, sameB (str f.1) (str [72, 111, 115, 116]) = R := ⟨_, rfl⟩
      obtain ⟨R4, h4⟩ : ∃ R, P f = R := ⟨_, rfl⟩
      rw [h1] at HI1 hdoc
      rw [h2] at HI2 hdoc
      rw [h3] at HSm hdoc
      rw [h4] at HYy HYn hdoc
      rw [hN] at c0 HI1 HI2 HSm
      rw [hV] at c1
      have HSm2 := hid (show ∀ W : World, Calls Tryz.prog 49 #[.string N, .string (⟨#[72, 111, 115, 116]⟩ : ByteArray)] W fun e w' => e = .returned (.bool R3) ∧ Below W.heap.size W w' from HSm.out)
      clear hf hN hV z1 z2 h1 h2 h3 h4 HSm
      cases R1 with
      | true =>
        obtain rfl : R4 = false := by cases R4 <;> simp_all
        have HY := hid (HYn.out rfl)
        clear hdoc
        go_wp2_with (first | (go_at_call 88; (with_reducible refine (HI1.out _ HB.out).mono ?_); rintro e w2 ⟨rfl, hb⟩; have HB2 := hid (below_out HB.out hb); have HO2 := hid (HO.out.keep hb); have x0 := cell_keep hb c0; have x1 := cell_keep hb c1; clear hb HI1 c0 c1))
        go_roundg (n - (i + 1) + 1)
        case measure => omega
        case rel => exact ⟨i + 1, q, k, d, rfl, by go_num, by omega, rfl, by rw [HY.out]; exact HK.out, by rw [HY.out]; exact HO2.out, HB2.out⟩
      | false =>
        cases R2 with
        | false =>
          obtain rfl : R4 = true := by cases R4 <;> simp_all
          have HY := hid (HYy.out rfl)
          clear hdoc
          go_wp2_with (first | (go_at_call 88; (with_reducible refine (HI1.out _ HB.out).mono ?_); rintro e w2 ⟨rfl, hb⟩; have HB2 := hid (below_out HB.out hb); have HO2 := hid (HO.out.keep hb); have x0 := cell_keep hb c0; have x1 := cell_keep hb c1; clear hb HI1 c0 c1) | (go_at_call 88; (with_reducible refine (HI2.out _ HB2.out).mono ?_); rintro e w3 ⟨rfl, hb⟩; have HB3 := hid (below_out HB2.out hb); have HO3 := hid (HO2.out.keep hb); have u0 := cell_keep hb x0; have u1 := cell_keep hb x1; clear hb HI2 x0 x1) | (at_builtin; refine wpList_append_own _ rfl (.tmp 35) (.tmp 40) 33 rfl w1.heap.size 88 i0 _ 2 32 Tryz.underlying33 hi0 hz0 hz1 hz2 rfl (by decide) (.slice q k d) k (fldC ((fs.take i).filter P)) (by go_simp) (by have h9 := HO3.out.alloc (.cells #[.string N, .string V] 88 (0, 0)); unfold OwnF at h9; rw [HK.out] at h9; exact h9) ⟨w3.heap.size, 0, none⟩ 1 1 [.string N, .string V] (by go_simp) rfl (cells_new w3 _ _) (by simp [Value.oneCell']) (by unfold maxLen; omega) (by omega) (Nat.le_trans HB3.out.size (below_new _ _).size) ?_; intro v' w7 hown' hgrow _; have HB7 := hid (app_below' HB3.out HB3.out.size HO3.out hgrow); obtain ⟨q', d', rfl⟩ := own_slice hown'; have HO7 := hid (show OwnF w7 w1.heap.size (.slice q' (k + 1) d') ((fs.take i).filter P ++ [f]) from OwnF.snocW HK.out.symm HNN.out HVV.out hown'); clear hown' hgrow))
          go_roundg (n - (i + 1) + 1)
          case measure => omega
          case rel => exact ⟨i + 1, q', k + 1, d', rfl, by go_num, by omega, rfl, by rw [HY.out, List.length_append, HK.out]; rfl, by rw [HY.out]; exact HO7.out, HB7.out⟩
        | true =>
          cases R3 with
          | true =>
            obtain rfl : R4 = true := by cases R4 <;> simp_all
            have HY := hid (HYy.out rfl)
            clear hdoc
            go_wp2_with (first | (go_at_call 88; (with_reducible refine (HI1.out _ HB.out).mono ?_); rintro e w2 ⟨rfl, hb⟩; have HB2 := hid (below_out HB.out hb); have HO2 := hid (HO.out.keep hb); have x0 := cell_keep hb c0; have x1 := cell_keep hb c1; clear hb HI1 c0 c1) | (go_at_call 88; (with_reducible refine (HI2.out _ HB2.out).mono ?_); rintro e w3 ⟨rfl, hb⟩; have HB3 := hid (below_out HB2.out hb); have HO3 := hid (HO2.out.keep hb); have u0 := cell_keep hb x0; have u1 := cell_keep hb x1; clear hb HI2 x0 x1) | (go_at_call 49; (with_reducible refine (HSm2.out _).mono ?_); rintro e w4 ⟨rfl, hb⟩; have HB4 := hid (below_out HB3.out hb); have HO4 := hid (HO3.out.keep hb); have v0 := cell_keep hb u0; have v1 := cell_keep hb u1; clear hb HSm2 u0 u1) | (at_builtin; refine wpList_append_own _ rfl (.tmp 35) (.tmp 40) 33 rfl w1.heap.size 88 i0 _ 2 32 Tryz.underlying33 hi0 hz0 hz1 hz2 rfl (by decide) (.slice q k d) k (fldC ((fs.take i).filter P)) (by go_simp) (by have h9 := HO4.out.alloc (.cells #[.string N, .string V] 88 (0, 0)); unfold OwnF at h9; rw [HK.out] at h9; exact h9) ⟨w4.heap.size, 0, none⟩ 1 1 [.string N, .string V] (by go_simp) rfl (cells_new w4 _ _) (by simp [Value.oneCell']) (by unfold maxLen; omega) (by omega) (Nat.le_trans HB4.out.size (below_new _ _).size) ?_; intro v' w7 hown' hgrow _; have HB7 := hid (app_below' HB4.out HB4.out.size HO4.out hgrow); obtain ⟨q', d', rfl⟩ := own_slice hown'; have HO7 := hid (show OwnF w7 w1.heap.size (.slice q' (k + 1) d') ((fs.take i).filter P ++ [f]) from OwnF.snocW HK.out.symm HNN.out HVV.out hown'); clear hown' hgrow))
            go_roundg (n - (i + 1) + 1)
            case measure => omega
            case rel => exact ⟨i + 1, q', k + 1, d', rfl, by go_num, by omega, rfl, by rw [HY.out, List.length_append, HK.out]; rfl, by rw [HY.out]; exact HO7.out, HB7.out⟩
          | false =>
            obtain rfl : R4 = false := by cases R4 <;> simp_all
            have HY := hid (HYn.out rfl)
            clear hdoc
            go_wp2_with (first | (go_at_call 88; (with_reducible refine (HI1.out _ HB.out).mono ?_); rintro e w2 ⟨rfl, hb⟩; have HB2 := hid (below_out HB.out hb); have HO2 := hid (HO.out.keep hb); have x0 := cell_keep hb c0; have x1 := cell_keep hb c1; clear hb HI1 c0 c1) | (go_at_call 88; (with_reducible refine (HI2.out _ HB2.out).mono ?_); rintro e w3 ⟨rfl, hb⟩; have HB3 := hid (below_out HB2.out hb); have HO3 := hid (HO2.out.keep hb); have u0 := cell_keep hb x0; have u1 := cell_keep hb x1; clear hb HI2 x0 x1) | (go_at_call 49; (with_reducible refine (HSm2.out _).mono ?_); rintro e w4 ⟨rfl, hb⟩; have HB4 := hid (below_out HB3.out hb); have HO4 := hid (HO3.out.keep hb); have v0 := cell_keep hb u0; have v1 := cell_keep hb u1; clear hb HSm2 u0 u1))
            go_roundg (n - (i + 1) + 1)
            case measure => omega
            case rel => exact ⟨i + 1, q, k, d, rfl, by go_num, by omega, rfl, by rw [HY.out]; exact HK.out, by rw [HY.out]; exact HO4.out, HB4.out⟩
    · obtain rfl : i = n := by omega
      have hltI : ¬ (i : Int) < (i : Int) := by omega
      have HT := hid (show fs.take i = fs from List.take_of_length_le (by rw [HN.out]; exact Nat.le_refl _))
      clear hlt
      go_wp2
      go_ret
      exact ⟨_, rfl, by have h9 := HO.out; rw [HT.out] at h9; exact OwnF.lowW h9 HB1.out.size, below_out HB1.out HB.out⟩
end Go.Proofs.YtnlmjlfoeodleaaGreatDoor
