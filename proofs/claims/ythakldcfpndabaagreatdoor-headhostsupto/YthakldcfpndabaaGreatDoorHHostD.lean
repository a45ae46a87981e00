/- The document's host and port. -/
import Derived.Test.YthakldcfpndabaaGreatDoorHHost2
namespace Go.Proofs.YthakldcfpndabaaGreatDoor
open Go.RowKit

theorem tw_at : ∀ (v : B) (i : Nat) (c : UInt8), (v.take i).all hostB = true → v[i]? = some c → hostB c = false → (v.takeWhile hostB).length = i
  | [], i, c, _, h, _ => by simp at h
  | x :: v, 0, c, _, h, hc => by
    simp at h
    subst h
    rw [List.takeWhile_cons, if_neg (by rw [hc]; decide)]
    rfl
  | x :: v, i + 1, c, ha, h, hc => by
    simp only [List.take_succ_cons, List.all_cons, Bool.and_eq_true] at ha
    rw [List.takeWhile_cons, if_pos ha.1, List.length_cons, tw_at v i c ha.2 (by simpa using h) hc]
theorem tw_all (v : B) (h : v.all hostB = true) : (v.takeWhile hostB).length = v.length := by
  have : v.takeWhile hostB = v := by
    have h2 := takeWhile_app (p := hostB) v [] (fun c hc => List.all_eq_true.1 h c hc)
    simpa using h2
  rw [this]
/-- What the document tells of the one value. -/
def outD (v : B) : B × B × Nat := match hostD okP v with | some (h, p) => (h, p, 0) | none => ([], [], 3)
theorem out_host (k : Int) (x : ByteArray) : hostOut k (x, 0) = outD x.data.toList := by
  unfold hostOut outD
  rw [if_neg (fun h => by cases h.1), if_neg (by simp), host_same]
  rfl
theorem outD_zero {v : B} (h : (v.takeWhile hostB).length = 0) : outD v = ([], [], 3) := by unfold outD hostD; rw [h]; rfl
theorem outD_end {v : B} {n : Nat} (hn : v.length = n) (h0 : 0 < n) (h : v.all hostB = true) : outD v = (v, [], 0) := by
  have := tw_all v h
  unfold outD hostD
  dsimp only
  rw [this, if_neg (by omega), if_pos rfl]
theorem outD_bad {v : B} {i : Nat} {c : UInt8} (ha : (v.take i).all hostB = true) (h : v[i]? = some c) (hc : hostB c = false) (h58 : c ≠ 58) : outD v = ([], [], 3) := by
  have e := tw_at v i c ha h hc
  have hlt := (List.getElem?_eq_some_iff.1 h).1
  unfold outD hostD
  dsimp only
  rw [e]
  by_cases h0 : i = 0
  · rw [if_pos h0]
  · rw [if_neg h0, if_neg (by omega), if_pos (by rw [h]; simpa using h58)]
theorem outD_port {v : B} {i : Nat} (h0 : 0 < i) (ha : (v.take i).all hostB = true) (h : v[i]? = some 58) : outD v = if v.drop (i + 1) ≠ [] ∧ okP (v.drop (i + 1)) = false then ([], [], 3) else (v.take i, v.drop (i + 1), 0) := by
  have e := tw_at v i 58 ha h host58
  have hlt := (List.getElem?_eq_some_iff.1 h).1
  unfold outD hostD
  dsimp only
  rw [e, if_neg (by omega), if_neg (by omega), if_neg (by rw [h]; simp)]
  by_cases hc : v.drop (i + 1) ≠ [] ∧ okP (v.drop (i + 1)) = false
  · rw [if_pos hc, if_pos hc]
  · rw [if_neg hc, if_neg hc]
set_option maxRecDepth 20000 in
set_option maxHeartbeats 16000000 in
theorem dhost (M T : ByteArray) (k : Int) (fs : List (B × B)) (p : Option Addr) (n0 c0 : Nat) (hn0 : fs.length = n0) (w : World) (hF : FAt w p fs) (hsz0 : szB fs) (hnn : n0 ≤ 1048576) :
    Calls Tryz.prog 5 #[.agg #[.string M, .string T, .int .i64 k, .slice p n0 c0]] w fun e w' => e = .returned (.tuple #[.string (str (hostOut k (oneB (valsB fs hostName))).1), .string (str (hostOut k (oneB (valsB fs hostName))).2.1), .int .i64 ((hostOut k (oneB (valsB fs hostName))).2.2 : Int)]) ∧ Below w.heap.size w w' := by
  have HO := hid (show ∀ W : World, Below w.heap.size w W → _ from fun W hb => done_ fs p n0 c0 hn0 hostName W (hF.next hb) hsz0 (by decide) hnn)
  have HZ := hid (show ∀ x ∈ valsB fs hostName, x.size ≤ 1048576 from fun x hx => vals_small hsz0 hx)
  obtain ⟨L, hL⟩ : ∃ L, valsB fs hostName = L := ⟨_, rfl⟩
  rw [hL] at HO HZ
  rw [hL]
  unfold hostName at HO
  have HB0 := hid (below_new w (.cells #[.string M, .string T, .int .i64 k, .slice p n0 c0] 24 (0, 0)))
  have HX0 := hid (heap_alloc_new w (.cells #[.string M, .string T, .int .i64 k, .slice p n0 c0] 24 (0, 0)))
  clear hL hF hsz0 hn0
  rcases L with _ | ⟨x, _ | ⟨y, rr⟩⟩
  · rw [show oneB [] = (⟨#[]⟩, 8) from rfl] at HO
    rw [show oneB [] = (⟨#[]⟩, 8) from rfl]
    dsimp only at HO
    by_cases hk : k = 0
    · subst hk
      rw [show hostOut 0 (⟨#[]⟩, 8) = ([], [], 0) from rfl]
      go_enter Tryz.func5, Tryz.ntmps5
      go_wp2_with ((go_at_call 14; (with_reducible refine (HO.out _ HB0.out).mono ?_); rintro e w1 ⟨rfl, hb⟩; have HB1 := hid (below_out HB0.out hb); obtain ⟨y0, y1, y2, y3, _⟩ := cells4 ((hb.block _ (lt_of_heap HX0.out)).trans HX0.out); clear hb HO))
      go_ret3
      exact ⟨rfl, HB1.out⟩
    · rw [show hostOut k (⟨#[]⟩, 8) = ([], [], 8) from by unfold hostOut; rw [if_neg (fun h => hk h.2)]; rfl]
      have hk2 : (k == 0) = false := by simpa using hk
      go_enter Tryz.func5, Tryz.ntmps5
      go_wp2_with ((go_at_call 14; (with_reducible refine (HO.out _ HB0.out).mono ?_); rintro e w1 ⟨rfl, hb⟩; have HB1 := hid (below_out HB0.out hb); obtain ⟨y0, y1, y2, y3, _⟩ := cells4 ((hb.block _ (lt_of_heap HX0.out)).trans HX0.out); clear hb HO))
      go_ret3
      exact ⟨rfl, HB1.out⟩
  · rw [show oneB [x] = (x, 0) from rfl] at HO
    rw [show oneB [x] = (x, 0) from rfl, out_host]
    dsimp only at HO
    have hxs := HZ.out x (by simp)
    obtain ⟨s, hs⟩ : ∃ s, x.data.toList = s := ⟨_, rfl⟩
    have hxs2 : str s = x := by rw [← hs]
    rw [hs]
    obtain ⟨R, hR⟩ : ∃ R, outD s = R := ⟨_, rfl⟩
    rw [hR]
    have HR := hid hR
    obtain ⟨n, hn⟩ : ∃ n, s.length = n := ⟨_, rfl⟩
    have hsz : x.size = n := by rw [← hxs2, str_size, hn]
    rw [hsz] at hxs
    have HN := hid hn
    have HSx := hid hxs2
    have HAt := hid (show ∀ (i : Nat) (c : UInt8) (h : i < x.size), s[i]? = some c → (x[i].toNat : Int) = (c.toNat : Int) from fun i c h e => by
      have h3 : x.data[i]? = some c := by rw [← hs] at e; simpa using e
      obtain ⟨h4, h5⟩ := Array.getElem?_eq_some_iff.1 h3
      have h6 : x[i] = c := h5
      rw [h6])
    clear hR hs hn hxs2 HZ
    go_enter Tryz.func5, Tryz.ntmps5
    go_wp2_with ((go_at_call 14; (with_reducible refine (HO.out _ HB0.out).mono ?_); rintro e w1 ⟨rfl, hb⟩; have HB1 := hid (below_out HB0.out hb); obtain ⟨y0, y1, y2, y3, _⟩ := cells4 ((hb.block _ (lt_of_heap HX0.out)).trans HX0.out); clear hb HO))
    clear y0 y1 y2 y3
    go_loopg [7] (n + 1) (fun gk s7 wr => ∃ i : Nat, s7 = .int .i64 (i : Int) ∧ i ≤ n ∧ gk = n - i + 1 ∧ Below w.heap.size w wr ∧ (s.take i).all hostB = true)
    case atStart => exact ⟨0, rfl, by omega, rfl, HB1.out, rfl⟩
    case round =>
      obtain ⟨i, rfl, hin, rfl, hb, hh⟩ := hrel
      rename World => wr
      have HB := hid hb
      have HH := hid hh
      clear hb hh
      by_cases hlt : i < n
      · obtain ⟨c, hc⟩ : ∃ c, s[i]? = some c := ⟨s[i]'(by rw [HN.out]; exact hlt), List.getElem?_eq_getElem _⟩
        have hltI : (i : Int) < (n : Int) := by omega
        have hltS : i < x.size := by rw [hsz]; exact hlt
        have hat := HAt.out i c hltS hc
        have hlt8 := c.toNat_lt
        obtain ⟨z, hz⟩ : ∃ z : Int, (c.toNat : Int) = z := ⟨_, rfl⟩
        rw [hz] at hat
        have hz0 : 0 ≤ z := by omega
        have hz1 : z ≤ 255 := by omega
        have HD := hid (show ∀ W : World, _ from fun W => rdigit_any z W hz0 hz1)
        have hHB : hostB c = hostZ z := by rw [← hz, hostZ_B]
        have HC := hid hc
        have HZc := hid hz
        have HGo := hid (show hostZ z = true → (s.take (i + 1)).all hostB = true from fun h => by rw [List.take_add_one, HC.out, List.all_append, HH.out]; simp [hHB, h])
        have HBad := hid (show hostZ z = false → z ≠ 58 → R = ([], [], 3) from fun h h2 => by
          rw [← HR.out]
          exact outD_bad HH.out HC.out (by rw [hHB]; exact h) (fun e => h2 (by rw [← HZc.out, e]; rfl)))
        have hd58 : z = 58 → c = 58 := fun e => UInt8.toNat_inj.1 (by have := HZc.out; rw [e] at this; have h9 : c.toNat = 58 := by omega
                                                                      rw [h9]; rfl)
        have HD58 := hid hd58
        clear hc hz hlt8 hHB hlt hd58
        by_cases e45 : z = 45
        · subst e45
          have HG := hid (HGo.out (by decide))
          rw [show digB 45 = false from by decide] at HD
          go_wp2_with ((go_at_call 15; (with_reducible refine (HD.out _).mono ?_); rintro e w5 ⟨rfl, hw5⟩; subst w5))
          go_roundg (n - (i + 1) + 1)
          case measure => omega
          case rel => exact ⟨i + 1, by go_num, by omega, rfl, HB.out, HG.out⟩
        by_cases e46 : z = 46
        · subst e46
          have HG := hid (HGo.out (by decide))
          rw [show digB 46 = false from by decide] at HD
          go_wp2_with ((go_at_call 15; (with_reducible refine (HD.out _).mono ?_); rintro e w5 ⟨rfl, hw5⟩; subst w5))
          go_roundg (n - (i + 1) + 1)
          case measure => omega
          case rel => exact ⟨i + 1, by go_num, by omega, rfl, HB.out, HG.out⟩
        by_cases e95 : z = 95
        · subst e95
          have HG := hid (HGo.out (by decide))
          rw [show digB 95 = false from by decide] at HD
          go_wp2_with ((go_at_call 15; (with_reducible refine (HD.out _).mono ?_); rintro e w5 ⟨rfl, hw5⟩; subst w5))
          go_roundg (n - (i + 1) + 1)
          case measure => omega
          case rel => exact ⟨i + 1, by go_num, by omega, rfl, HB.out, HG.out⟩
        by_cases a1 : 97 ≤ z
        · by_cases a2 : z ≤ 122
          · have HG := hid (HGo.out (by unfold hostZ; exact decide_eq_true (by omega)))
            go_wp2
            go_roundg (n - (i + 1) + 1)
            case measure => omega
            case rel => exact ⟨i + 1, by go_num, by omega, rfl, HB.out, HG.out⟩
          · have b1 : 65 ≤ z := by omega
            have b2 : ¬ z ≤ 90 := by omega
            have HX := hid (HBad.out (by unfold hostZ; exact decide_eq_false (by omega)) (by omega))
            have hdg : digB z = false := by unfold digB; exact decide_eq_false (by omega)
            rw [hdg] at HD
            clear hdg
            have n58 : (z != 58) = true := by simp; omega
            have m58 : (z == 58) = false := by simp; omega
            have m45 : (z == 45) = false := by simp; omega
            have m46 : (z == 46) = false := by simp; omega
            have m95 : (z == 95) = false := by simp; omega
            by_cases hi0 : i = 0
            · subst hi0
              go_wp2_with (first | (go_at_call 15; (with_reducible refine (HD.out _).mono ?_); rintro e w5 ⟨rfl, hw5⟩; subst w5))
              (try simp only [Exit.inBlock, Exit.then])
              go_ret3
              exact ⟨(by rw [HX.out]; rfl), HB.out⟩
            · have hi1 : ((i : Int) == 0) = false := by simp; omega
              have hi2 : ((i : Int) == (n : Int)) = false := by simp; omega
              have hi3 : i + 1 ≤ n := by omega
              go_wp2_with (first | (go_at_call 15; (with_reducible refine (HD.out _).mono ?_); rintro e w5 ⟨rfl, hw5⟩; subst w5))
              (try simp only [Exit.inBlock, Exit.then])
              go_ret3
              exact ⟨(by rw [HX.out]; rfl), HB.out⟩
        by_cases b1 : 65 ≤ z
        · by_cases b2 : z ≤ 90
          · have HG := hid (HGo.out (by unfold hostZ; exact decide_eq_true (by omega)))
            go_wp2
            go_roundg (n - (i + 1) + 1)
            case measure => omega
            case rel => exact ⟨i + 1, by go_num, by omega, rfl, HB.out, HG.out⟩
          · have HX := hid (HBad.out (by unfold hostZ; exact decide_eq_false (by omega)) (by omega))
            have hdg : digB z = false := by unfold digB; exact decide_eq_false (by omega)
            rw [hdg] at HD
            clear hdg
            have n58 : (z != 58) = true := by simp; omega
            have m58 : (z == 58) = false := by simp; omega
            have m45 : (z == 45) = false := by simp; omega
            have m46 : (z == 46) = false := by simp; omega
            have m95 : (z == 95) = false := by simp; omega
            by_cases hi0 : i = 0
            · subst hi0
              go_wp2_with (first | (go_at_call 15; (with_reducible refine (HD.out _).mono ?_); rintro e w5 ⟨rfl, hw5⟩; subst w5))
              (try simp only [Exit.inBlock, Exit.then])
              go_ret3
              exact ⟨(by rw [HX.out]; rfl), HB.out⟩
            · have hi1 : ((i : Int) == 0) = false := by simp; omega
              have hi2 : ((i : Int) == (n : Int)) = false := by simp; omega
              have hi3 : i + 1 ≤ n := by omega
              go_wp2_with (first | (go_at_call 15; (with_reducible refine (HD.out _).mono ?_); rintro e w5 ⟨rfl, hw5⟩; subst w5))
              (try simp only [Exit.inBlock, Exit.then])
              go_ret3
              exact ⟨(by rw [HX.out]; rfl), HB.out⟩
        by_cases d1 : 48 ≤ z ∧ z ≤ 57
        · obtain ⟨d1, d2⟩ := d1
          have HG := hid (HGo.out (by unfold hostZ; exact decide_eq_true (by omega)))
          have hdg : digB z = true := by unfold digB; exact decide_eq_true (by omega)
          rw [hdg] at HD
          clear hdg
          go_wp2_with ((go_at_call 15; (with_reducible refine (HD.out _).mono ?_); rintro e w5 ⟨rfl, hw5⟩; subst w5))
          go_roundg (n - (i + 1) + 1)
          case measure => omega
          case rel => exact ⟨i + 1, by go_num, by omega, rfl, HB.out, HG.out⟩
        by_cases e58 : z = 58
        · subst e58
          have hc58 : s[i]? = some 58 := by rw [HC.out, HD58.out rfl]
          rw [show digB 58 = false from by decide] at HD
          by_cases hi0 : i = 0
          · subst hi0
            have HX := hid (show R = ([], [], 3) from by rw [← HR.out]; exact outD_zero (tw_at s 0 58 rfl hc58 host58))
            clear hc58
            go_wp2_with (first | (go_at_call 15; (with_reducible refine (HD.out _).mono ?_); rintro e w5 ⟨rfl, hw5⟩; subst w5))
            (try simp only [Exit.inBlock, Exit.then])
            go_ret3
            exact ⟨(by rw [HX.out]; rfl), HB.out⟩
          have hip : 0 < i := by omega
          have hRp := outD_port hip HH.out hc58
          rw [HR.out] at hRp
          have hi1 : ((i : Int) == 0) = false := by simp; omega
          have hi2 : ((i : Int) == (n : Int)) = false := by simp; omega
          have hi3 : i + 1 ≤ n := by omega
          have hE1 : x.extract (i + 1) n = str (s.drop (i + 1)) := by rw [← HSx.out]; exact ext_drop s (i + 1) n HN.out
          have hE2 : x.extract 0 i = str (s.take i) := by rw [← HSx.out]; exact take_ext s i
          have hDl : (s.drop (i + 1)).length ≤ 1048576 := by rw [List.length_drop, HN.out]; omega
          obtain ⟨PL, hPL⟩ : ∃ P, s.drop (i + 1) = P := ⟨_, rfl⟩
          rw [hPL] at hE1 hRp hDl
          obtain ⟨PB, hPB⟩ : ∃ P, str PL = P := ⟨_, rfl⟩
          rw [hPB] at hE1
          obtain ⟨HBs, hHBs⟩ : ∃ P, str (s.take i) = P := ⟨_, rfl⟩
          rw [hHBs] at hE2
          have HPB := hid hPB
          have HHB := hid hHBs
          have HDc := hid (show ∀ W : World, _ from fun W => rdecimal_any (str PL) 65535 W (Nat.le_trans (by rw [str_size]; exact hDl) (by decide)) (by decide) (by decide))
          rw [hPB] at HDc
          obtain ⟨xx, hxx⟩ : ∃ x, numN 10 65535 PB = x := ⟨_, rfl⟩
          obtain ⟨yy, hyy⟩ : ∃ y, numE 10 65535 PB = y := ⟨_, rfl⟩
          rw [hxx, hyy] at HDc
          have hOk : okP PL = decide (yy = 0) := by unfold okP; rw [hPB, hyy]
          clear hPL hHBs hxx hyy hc58 hDl
          by_cases hem : PL = []
          · subst hem
            obtain rfl : PB = ⟨#[]⟩ := HPB.out.symm
            have HX := hid (show R = (s.take i, [], 0) from by rw [hRp, if_neg (fun h => h.1 rfl)])
            clear hRp hOk hPB
            go_wp2_with (first | (go_at_call 15; (with_reducible refine (HD.out _).mono ?_); rintro e w5 ⟨rfl, hw5⟩; subst w5))
            (try simp only [Exit.inBlock, Exit.then])
            go_ret3
            exact ⟨(by rw [HX.out, ← HHB.out]; rfl), HB.out⟩
          have hpe : PB.toList.isEmpty = false := ne_empty (fun e => hem (str_inj (by rw [HPB.out, e])))
          have hpe2 : (PB.toList == []) = false := by cases h : PB.toList with
            | nil => rw [h] at hpe; cases hpe
            | cons a b => rfl
          have hpe3 : (PB.toList == (⟨#[]⟩ : ByteArray).toList) = false := ne_list (fun e => hem (str_inj (by rw [HPB.out, e])))
          by_cases hy : yy = 0
          · subst hy
            have HX := hid (show R = (s.take i, PL, 0) from by rw [hRp, if_neg (fun h => by rw [hOk] at h; cases h.2)])
            clear hRp hOk hPB
            go_wp2_with (first | (go_at_call 15; (with_reducible refine (HD.out _).mono ?_); rintro e w5 ⟨rfl, hw5⟩; subst w5) | (go_at_call 16; (with_reducible refine (HDc.out _).mono ?_); rintro e w6 ⟨rfl, hw6⟩; subst w6))
            (try simp only [Exit.inBlock, Exit.then])
            go_ret3
            exact ⟨(by rw [HX.out, ← HHB.out, ← HPB.out]; rfl), HB.out⟩
          · have hy1 : (yy != 0) = true := by simpa using hy
            have hy2 : (yy == 0) = false := by simpa using hy
            have HX := hid (show R = ([], [], 3) from by rw [hRp, if_pos ⟨hem, by rw [hOk]; exact decide_eq_false hy⟩])
            clear hRp hOk hPB
            go_wp2_with (first | (go_at_call 15; (with_reducible refine (HD.out _).mono ?_); rintro e w5 ⟨rfl, hw5⟩; subst w5) | (go_at_call 16; (with_reducible refine (HDc.out _).mono ?_); rintro e w6 ⟨rfl, hw6⟩; subst w6))
            (try simp only [Exit.inBlock, Exit.then])
            go_ret3
            exact ⟨(by rw [HX.out]; rfl), HB.out⟩
        have HX := hid (HBad.out (by unfold hostZ; exact decide_eq_false (by omega)) (by omega))
        have hdg : digB z = false := by unfold digB; exact decide_eq_false (by omega)
        rw [hdg] at HD
        clear hdg
        have n58 : (z != 58) = true := by simp; omega
        have m58 : (z == 58) = false := by simp; omega
        have m45 : (z == 45) = false := by simp; omega
        have m46 : (z == 46) = false := by simp; omega
        have m95 : (z == 95) = false := by simp; omega
        by_cases hi0 : i = 0
        · subst hi0
          go_wp2_with (first | (go_at_call 15; (with_reducible refine (HD.out _).mono ?_); rintro e w5 ⟨rfl, hw5⟩; subst w5))
          (try simp only [Exit.inBlock, Exit.then])
          go_ret3
          exact ⟨(by rw [HX.out]; rfl), HB.out⟩
        · have hi1 : ((i : Int) == 0) = false := by simp; omega
          have hi2 : ((i : Int) == (n : Int)) = false := by simp; omega
          have hi3 : i + 1 ≤ n := by omega
          go_wp2_with (first | (go_at_call 15; (with_reducible refine (HD.out _).mono ?_); rintro e w5 ⟨rfl, hw5⟩; subst w5))
          (try simp only [Exit.inBlock, Exit.then])
          go_ret3
          exact ⟨(by rw [HX.out]; rfl), HB.out⟩
      · obtain rfl : i = n := by omega
        have hltI : ¬ (i : Int) < (i : Int) := by omega
        have hall : s.all hostB = true := by
          have h9 := HH.out
          rw [List.take_of_length_le (by rw [HN.out]; exact Nat.le_refl _)] at h9
          exact h9
        by_cases hi0 : i = 0
        · subst hi0
          have HX := hid (show R = ([], [], 3) from by rw [← HR.out]; exact outD_zero (by rw [tw_all s hall]; exact HN.out))
          clear hlt hall
          go_wp2
          (try simp only [Exit.inBlock, Exit.then])
          go_ret3
          exact ⟨(by rw [HX.out]; rfl), HB.out⟩
        · have HX := hid (show R = (s, [], 0) from by rw [← HR.out]; exact outD_end HN.out (by omega) hall)
          have hi1 : ((i : Int) == 0) = false := by simp; omega
          clear hlt hall
          go_wp2
          (try simp only [Exit.inBlock, Exit.then])
          go_ret3
          exact ⟨(by rw [HX.out, ← HSx.out]; rfl), HB.out⟩
  · rw [show oneB (x :: y :: rr) = (⟨#[]⟩, 6) from rfl] at HO
    rw [show oneB (x :: y :: rr) = (⟨#[]⟩, 6) from rfl, show hostOut k (⟨#[]⟩, 6) = ([], [], 6) from by unfold hostOut; rw [if_neg (fun h => by cases h.1)]; rfl]
    dsimp only at HO
    go_enter Tryz.func5, Tryz.ntmps5
    go_wp2_with ((go_at_call 14; (with_reducible refine (HO.out _ HB0.out).mono ?_); rintro e w1 ⟨rfl, hb⟩; have HB1 := hid (below_out HB0.out hb); obtain ⟨y0, y1, y2, y3, _⟩ := cells4 ((hb.block _ (lt_of_heap HX0.out)).trans HX0.out); clear hb HO))
    go_ret3
    exact ⟨rfl, HB1.out⟩
end Go.Proofs.YthakldcfpndabaaGreatDoor
