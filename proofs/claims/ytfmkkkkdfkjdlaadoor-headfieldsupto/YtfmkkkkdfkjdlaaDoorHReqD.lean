/- The document's request and response of a head. -/
import Derived.Test.YtfmkkkkdfkjdlaaDoorHFlds
namespace Go.Proofs.YtfmkkkkdfkjdlaaDoor
open Go.RowKit

/-- A head's box, the block handed out, and what lies below. -/
structure BoxO (w W : World) (c0 c1 c2 c3 c4 c5 c6 : Value) (T : TypeId) (Z : Array Value) : Prop where
  r : W.heap[w.heap.size]? = some (.cells #[c0, c1, c2, c3, c4, c5, c6] 32 (0, 0))
  o : W.heap[w.heap.size + 1]? = some (.cells Z T (0, 0))
  low : Below w.heap.size w W
theorem BoxO.next {w W V : World} {c0 c1 c2 c3 c4 c5 c6 : Value} {T : TypeId} {Z : Array Value} (h : BoxO w W c0 c1 c2 c3 c4 c5 c6 T Z) (hb : Below W.heap.size W V) : BoxO w V c0 c1 c2 c3 c4 c5 c6 T Z :=
  ⟨(hb.block _ (lt_of_heap h.r)).trans h.r, (hb.block _ (lt_of_heap h.o)).trans h.o, h.low.trans (hb.mono h.low.size)⟩
theorem below_four1 {w w1 : World} {g : Nat} (h : Below g w w1) (c0 c1 c2 c3 : Value) : Below g w ((((w1.setCell ⟨g + 1, 0, none⟩ c0).setCell ⟨g + 1, 1, none⟩ c1).setCell ⟨g + 1, 2, none⟩ c2).setCell ⟨g + 1, 3, none⟩ c3) := by
  iterate 4 refine Below.setCell ?_ (show g ≤ g + 1 from Nat.le_succ g) _
  exact h
theorem req_parts {x : B} (h : requestB x true = true) : ∃ a r t, methodD x = a ∧ targetD x = t ∧ findV 32 x = (a.length : Int) ∧ a.length < x.length ∧ x.take a.length = a ∧ x.drop (a.length + 1) = r ∧ findV 32 r = (t.length : Int) ∧ t.length ≤ r.length ∧ r.take t.length = t := by
  obtain ⟨h1, h2, _⟩ := cutF_spec 32 x
  unfold requestB at h
  split at h
  · rename_i hc
    rw [hc, if_pos rfl] at h2
    obtain ⟨a, ha⟩ : ∃ a, (cutF 32 x).1 = a := ⟨_, rfl⟩
    obtain ⟨r, hr⟩ : ∃ r, (cutF 32 x).2.1 = r := ⟨_, rfl⟩
    simp only [Bool.and_eq_true] at h
    have h3 := h.2
    rw [hr] at h3
    unfold restB at h3
    split at h3
    · rename_i hc2
      obtain ⟨g1, g2, _⟩ := cutF_spec 32 r
      rw [hc2, if_pos rfl] at g2
      obtain ⟨t, ht⟩ : ∃ t, (cutF 32 r).1 = t := ⟨_, rfl⟩
      obtain ⟨v, hv⟩ : ∃ v, (cutF 32 r).2.1 = v := ⟨_, rfl⟩
      rw [ha, hr] at h2
      rw [ht, hv] at g2
      refine ⟨a, r, t, ha, ?_, by unfold findV; rw [hc, if_pos rfl, ha], ?_, ?_, ?_, by unfold findV; rw [hc2, if_pos rfl, ht], ?_, ?_⟩
      · unfold targetD; rw [hr, ht]
      · rw [h2]; simp
      · rw [h2]; simp
      · rw [h2]; simp
      · rw [g2]; simp
      · rw [g2]; simp
    · simp at h3
  · simp at h
theorem byteNum_wrap (y : UInt8) : IntKind.u8.wrap ((y.toNat : Int) - 48) = byteNum y := by
  have := y.toNat_lt
  unfold byteNum
  rw [IntKind.wrap_u8]
  omega
theorem byteNum_bd (y : UInt8) : 0 ≤ byteNum y ∧ byteNum y ≤ 255 := by
  unfold byteNum
  omega
set_option maxRecDepth 20000 in
set_option maxHeartbeats 8000000 in
theorem rreqD_no1 (h : HS) (pl : Option Addr) (ln cp : Nat) (w : World) (hd : h.done = false) : Calls Tryd.prog 8 #[headV h (.slice pl ln cp)] w fun e w' => e = .returned (.tuple #[.agg reqZ, .int .i64 8]) ∧ Below w.heap.size w w' := by
  unfold headV
  rw [hd]
  obtain ⟨L, hL⟩ : ∃ L, str h.line = L := ⟨_, rfl⟩
  rw [hL]
  clear hL hd
  go_enter Tryd.func8, Tryd.ntmps8
  go_wp2
  (try simp only [Exit.inBlock, Exit.then])
  refine bodyPost_ret (results_req rfl _ _ _ 25 _ (0, 0) rfl (new_second w _ _) rfl) rfl ?_
  exact ⟨rfl, below_two w _ _⟩
set_option maxRecDepth 20000 in
set_option maxHeartbeats 8000000 in
theorem rreqD_no2 (h : HS) (pl : Option Addr) (ln cp : Nat) (w : World) (hd : h.done = true) (hr : h.resp = true) : Calls Tryd.prog 8 #[headV h (.slice pl ln cp)] w fun e w' => e = .returned (.tuple #[.agg reqZ, .int .i64 8]) ∧ Below w.heap.size w w' := by
  unfold headV
  rw [hd, hr]
  obtain ⟨L, hL⟩ : ∃ L, str h.line = L := ⟨_, rfl⟩
  rw [hL]
  clear hL hd hr
  go_enter Tryd.func8, Tryd.ntmps8
  go_wp2
  (try simp only [Exit.inBlock, Exit.then])
  refine bodyPost_ret (results_req rfl _ _ _ 25 _ (0, 0) rfl (new_second w _ _) rfl) rfl ?_
  exact ⟨rfl, below_two w _ _⟩
theorem rreqD_no (h : HS) (v : Value) (b : Nat) (w : World) (ho : OwnS w b v h.lines) (hx : h.done = false ∨ h.resp = true) : Calls Tryd.prog 8 #[headV h v] w fun e w' => e = .returned (.tuple #[.agg reqZ, .int .i64 8]) ∧ Below w.heap.size w w' := by
  obtain ⟨pl, cp, rfl⟩ := own_slice ho
  cases hd : h.done with
  | false => exact rreqD_no1 h pl _ cp w hd
  | true =>
    rcases hx with h1 | h1
    · rw [hd] at h1; cases h1
    · exact rreqD_no2 h pl _ cp w hd h1
set_option maxRecDepth 20000 in
set_option maxHeartbeats 8000000 in
theorem rrespD_no1 (h : HS) (pl : Option Addr) (ln cp : Nat) (w : World) (hd : h.done = false) : Calls Tryd.prog 10 #[headV h (.slice pl ln cp)] w fun e w' => e = .returned (.tuple #[.agg respZ, .int .i64 8]) ∧ Below w.heap.size w w' := by
  unfold headV
  rw [hd]
  obtain ⟨L, hL⟩ : ∃ L, str h.line = L := ⟨_, rfl⟩
  rw [hL]
  clear hL hd
  go_enter Tryd.func10, Tryd.ntmps10
  go_wp2
  (try simp only [Exit.inBlock, Exit.then])
  refine bodyPost_ret (results_resp rfl _ _ _ 38 _ (0, 0) rfl (new_second w _ _) rfl) rfl ?_
  exact ⟨rfl, below_two w _ _⟩
set_option maxRecDepth 20000 in
set_option maxHeartbeats 8000000 in
theorem rrespD_no2 (h : HS) (pl : Option Addr) (ln cp : Nat) (w : World) (hd : h.done = true) (hr : h.resp = false) : Calls Tryd.prog 10 #[headV h (.slice pl ln cp)] w fun e w' => e = .returned (.tuple #[.agg respZ, .int .i64 8]) ∧ Below w.heap.size w w' := by
  unfold headV
  rw [hd, hr]
  obtain ⟨L, hL⟩ : ∃ L, str h.line = L := ⟨_, rfl⟩
  rw [hL]
  clear hL hd hr
  go_enter Tryd.func10, Tryd.ntmps10
  go_wp2
  (try simp only [Exit.inBlock, Exit.then])
  refine bodyPost_ret (results_resp rfl _ _ _ 38 _ (0, 0) rfl (new_second w _ _) rfl) rfl ?_
  exact ⟨rfl, below_two w _ _⟩
theorem rrespD_no (h : HS) (v : Value) (b : Nat) (w : World) (ho : OwnS w b v h.lines) (hx : h.done = false ∨ h.resp = false) : Calls Tryd.prog 10 #[headV h v] w fun e w' => e = .returned (.tuple #[.agg respZ, .int .i64 8]) ∧ Below w.heap.size w w' := by
  obtain ⟨pl, cp, rfl⟩ := own_slice ho
  cases hd : h.done with
  | false => exact rrespD_no1 h pl _ cp w hd
  | true =>
    rcases hx with h1 | h1
    · rw [hd] at h1; cases h1
    · exact rrespD_no2 h pl _ cp w hd h1
set_option maxRecDepth 20000 in
set_option maxHeartbeats 8000000 in
theorem rreqD_yes (h : HS) (v : Value) (b : Nat) (w : World) (x : B) (ls : List B) (hls : h.lines = x :: ls) (ho : OwnS w b v h.lines) (hd : h.done = true) (hr : h.resp = false) (hx : requestB x true = true) (hok : ∀ z ∈ ls, FldOk z) (hsz : ∀ z ∈ h.lines, z.length ≤ 65536) (hn65 : h.lines.length ≤ 65) :
    Calls Tryd.prog 8 #[headV h v] w fun e w' => ∃ v', e = .returned (.tuple #[.agg #[.string (str (methodD x)), .string (str (targetD x)), .int .i64 (minorD x), v'], .int .i64 0]) ∧ OwnF w' w.heap.size v' (ls.map fieldOf) ∧ Below w.heap.size w w' := by
  obtain ⟨pl, cp, rfl⟩ := own_slice ho
  rw [hls] at ho hsz hn65
  obtain ⟨g, o, hp, k0⟩ := ho.at (j := 0) (t := x) rfl
  subst hp
  have hcap := ho.cap
  have HLt := hid (LAt.tail ho.lat)
  have hxl := hsz x (by simp)
  rw [hls]
  unfold headV
  rw [hd, hr]
  obtain ⟨ln, hln⟩ : ∃ ln, (x :: ls).length = ln := ⟨_, rfl⟩
  have hln2 : ls.length + 1 = ln := by rw [← hln]; rfl
  rw [hln] at hcap hn65
  rw [hln]
  obtain ⟨n1, hn1⟩ : ∃ n1, ls.length = n1 := ⟨_, rfl⟩
  rw [hn1] at hln2
  obtain ⟨P1, hP1⟩ : ∃ P1 : Option Addr, (if cp = 1 then some ⟨g, o, none⟩ else some ⟨g, o + 1, none⟩) = P1 := ⟨_, rfl⟩
  have HP1 := hid hP1
  have HL1 := hid (show ln - 1 = n1 from by omega)
  have HLp := hid (show LAt w P1 ls from by
    rw [← hP1]
    by_cases hc1 : cp = 1
    · have h9 : ls = [] := List.eq_nil_of_length_eq_zero (by omega)
      rw [h9]
      intro j t hj
      simp at hj
    · rw [if_neg hc1]
      exact HLt.out)
  have HFl := hid (show ∀ (W : World) (c : Nat), Below w.heap.size w W → _ from fun W c hb => rflds_any ls P1 n1 c hn1 W (HLp.out.next hb) hok (fun z hz => hsz z (by simp [hz])) (by omega))
  clear hP1
  obtain ⟨mo, hmo⟩ : ∃ mo, h.most = mo := ⟨_, rfl⟩
  obtain ⟨le, hle⟩ : ∃ le, h.len = le := ⟨_, rfl⟩
  obtain ⟨er, her⟩ : ∃ er, h.err = er := ⟨_, rfl⟩
  obtain ⟨L, hL⟩ : ∃ L, str h.line = L := ⟨_, rfl⟩
  rw [hmo, hle, her, hL]
  obtain ⟨W0, hW0⟩ : ∃ W0, W0 = (w.alloc (.cells #[.bool false, .int .i64 mo, .slice (some ⟨g, o, none⟩) ln cp, .string L, .int .i64 (le : Int), .bool true, .int .i64 (er : Int)] 32 (0, 0))).alloc (.cells #[.string ⟨#[]⟩, .string ⟨#[]⟩, .int .i64 0, .slice none 0 0] 25 (0, 0)) := ⟨_, rfl⟩
  have H0 := hid (show BoxO w W0 (.bool false) (.int .i64 mo) (.slice (some ⟨g, o, none⟩) ln cp) (.string L) (.int .i64 (le : Int)) (.bool true) (.int .i64 (er : Int)) 25 #[.string ⟨#[]⟩, .string ⟨#[]⟩, .int .i64 0, .slice none 0 0] from by obtain ⟨x1, x2, x3⟩ := two_at hW0; exact ⟨x1, x2, x3⟩)
  have HK := hid (show ∀ W : World, Below w.heap.size w W → W.cell? ⟨g, o, none⟩ = some (.string (str x)) from fun W hb => by have h9 := cell_keep hb k0; rwa [Nat.add_zero] at h9)
  have hsX : (str x).size = x.length := str_size x
  obtain ⟨a, r, tg, hma, hta, hf1, hax, htk, hdr, hf2, htr, htt⟩ := req_parts hx
  rw [hma, hta]
  have HF1 := hid (show ∀ W : World, _ from fun W => find_any x 32 (by omega) W)
  rw [hf1, show byteV 32 = .int .u8 32 from rfl] at HF1
  have hrl : r.length + a.length + 1 = x.length := by rw [← hdr, List.length_drop]; omega
  have HF2 := hid (show ∀ W : World, _ from fun W => find_any r 32 (by omega) W)
  rw [hf2, show byteV 32 = .int .u8 32 from rfl] at HF2
  have HE1 := hid (show (str x).extract 0 a.length = str a from by rw [take_ext, htk])
  have HE2 := hid (show (str x).extract (a.length + 1) x.length = str r from by rw [ext_drop x (a.length + 1) x.length rfl, hdr])
  have HE3 := hid (show (str r).extract 0 tg.length = str tg from by rw [take_ext, htt])
  have hsR : (str r).size = r.length := str_size r
  obtain ⟨y, hy⟩ : ∃ y, x[x.length - 1]? = some y := ⟨x[x.length - 1]'(by omega), List.getElem?_eq_getElem (by omega)⟩
  have hlast : x.getLast?.getD 48 = y := by rw [List.getLast?_eq_getElem?, hy]; rfl
  have hbL : ∀ j (h9 : j < (str x).size), j + 1 = x.length → ((str x)[j]'h9).toNat = y.toNat := fun j h9 e => by
    have h8 : (str x)[j]'h9 = x[j]'(by omega) := rfl
    rw [h8]
    rw [show x.length - 1 = j by omega, List.getElem?_eq_getElem (by omega)] at hy
    rw [Option.some.inj hy]
  obtain ⟨nx, hnx⟩ : ∃ nx, x.length = nx + 1 := ⟨x.length - 1, by omega⟩
  have hbL2 : ∀ h9 : nx < (str x).size, ((str x)[nx]'h9).toNat = y.toNat := fun h9 => hbL nx h9 (by omega)
  rw [show minorD x = byteNum y from by unfold minorD; rw [hlast]]
  rw [hnx] at hsX HE2 hax hxl hrl
  obtain ⟨ka, hka⟩ : ∃ ka, a.length = ka := ⟨_, rfl⟩
  rw [hka] at HE1 HE2 HF1 hax hrl
  obtain ⟨kt, hkt⟩ : ∃ kt, tg.length = kt := ⟨_, rfl⟩
  rw [hkt] at HE3 HF2 htr
  obtain ⟨nr, hnr⟩ : ∃ nr, r.length = nr := ⟨_, rfl⟩
  rw [hnr] at hsR htr hrl
  have hwk : IntKind.i64.wrap ((ka : Int) + 1) = ((ka + 1 : Nat) : Int) := by rw [wrap_id9 (by omega) (by omega)]; omega
  have hwx : IntKind.i64.wrap (nx : Int) = (nx : Int) := wrap_id9 (by omega) (by omega)
  have HMy := hid (byteNum_wrap y)
  obtain ⟨hm0, hm1⟩ := byteNum_bd y
  obtain ⟨MN, hMN⟩ : ∃ MN, byteNum y = MN := ⟨_, rfl⟩
  rw [hMN] at HMy hm0 hm1
  have hwm : IntKind.i64.wrap MN = MN := wrap_id9 (by omega) (by omega)
  rw [hMN]
  obtain ⟨Y, hY⟩ : ∃ Y : Nat, y.toNat = Y := ⟨_, rfl⟩
  obtain ⟨X, hX⟩ : ∃ X, str x = X := ⟨_, rfl⟩
  have hbL3 : ∀ h9 : nx < X.size, (X[nx]'h9).toNat = Y := by subst hX; intro h9; rw [hbL2 h9, hY]
  rw [hY] at HMy
  rw [hX] at HK hsX HE1 HE2 HF1
  clear hbL2 hbL
  obtain ⟨A, hA⟩ : ∃ A, str a = A := ⟨_, rfl⟩
  obtain ⟨Rs, hRs⟩ : ∃ Rs, str r = Rs := ⟨_, rfl⟩
  obtain ⟨Tg, hTg⟩ : ∃ Tg, str tg = Tg := ⟨_, rfl⟩
  rw [hA] at HE1
  rw [hRs] at HE2 HE3 HF2 hsR
  rw [hTg] at HE3
  rw [hA, hTg]
  clear hA hRs hTg hma hta hf1 htk hdr hf2 htt hy hlast hnx hka hkt hnr hx
  have k1 := HK.out _ H0.out.low
  obtain ⟨b0, b1, b2, b3, b4, b5, b6, _⟩ := seven H0.out.r
  have HW0 := hid hW0
  clear hW0 hmo hle her hL hls ho hok hsz k0 hMN hY hX hn1 hln hd hr
  rw [HW0.out] at k1 b0 b1 b2 b3 b4 b5 b6
  go_enter Tryd.func8, Tryd.ntmps8
  go_wp2_with (first | (go_at_call 32; (with_reducible refine (HF1.out _).mono ?_); rintro e w1 ⟨rfl, hw1⟩; subst w1; clear HF1; have hx2 := HE2.out) | (go_at_call 32; (try rw [HE2.out]); (with_reducible refine (HF2.out _).mono ?_); rintro e w1 ⟨rfl, hw1⟩; subst w1; clear HF2))
  rw [← HW0.out]
  clear k1 b0 b1 b2 b3 b4 b5 b6
  obtain ⟨W1, hW1⟩ : ∃ W1, W1 = W0.drew := ⟨_, rfl⟩
  have H1 := hid (show BoxO w W1 (.bool false) (.int .i64 mo) (.slice (some ⟨g, o, none⟩) ln cp) (.string L) (.int .i64 (le : Int)) (.bool true) (.int .i64 (er : Int)) 25 #[.string ⟨#[]⟩, .string ⟨#[]⟩, .int .i64 0, .slice none 0 0] from by rw [hW1]; exact ⟨H0.out.r, H0.out.o, H0.out.low.drew⟩)
  have hS0 : W1.cell? ⟨w.heap.size, 2, none⟩ = some (.slice (some ⟨g, o, none⟩) ln cp) := (seven H1.out.r).a2
  refine wp_region_noPanic ?_
  refine any_begin 20 (by kernel_rfl) (by kernel_rfl) ?_
  rw [← hW1]
  clear hW1
  refine late_begin (fun U => U.cell? ⟨w.heap.size, 2, none⟩ = some (.slice (some ⟨g, o, none⟩) ln cp)) (fun _ => false) hS0 (fun hS => ?_)
  refine late_take (i := 0) (some 28) rfl rfl (by kernel_rfl) (by kernel_rfl) (by kernel_rfl) (by kernel_rfl) (by kernel_rfl) (fun _ _ _ h => h) (by rfl) (v := ?v0rreqD) ?hy0rreqD hS ?rest0rreqD
  case hy0rreqD => intro w0 hSw; (try dsimp only at hSw); go_simp; try with_reducible rfl
  simp only [Act.put, List.setIfInBounds_toArray, List.set_cons_zero, List.set_cons_succ]
  refine late_take (i := 1) (some 29) rfl rfl (by kernel_rfl) (by kernel_rfl) (by kernel_rfl) (by kernel_rfl) (by kernel_rfl) (fun _ _ _ h => h) (by rfl) (v := ?v1rreqD) ?hy1rreqD hS ?rest1rreqD
  case hy1rreqD => intro w0 hSw; (try dsimp only at hSw); go_simp; try with_reducible rfl
  simp only [Act.put, List.setIfInBounds_toArray, List.set_cons_zero, List.set_cons_succ]
  refine late_take (i := 2) (some 30) rfl rfl (by kernel_rfl) (by kernel_rfl) (by kernel_rfl) (by kernel_rfl) (by kernel_rfl) (fun _ _ _ h => h) (by rfl) (v := .string A) ?hy2rreqD hS ?rest2rreqD
  case hy2rreqD => intro w0 hSw; go_simp; (try rw [if_pos (by omega)]); (try rw [if_pos (by omega)]); (try simp only [Int.toNat_natCast]); (try rw [HE1.out])
  simp only [Act.put, List.setIfInBounds_toArray, List.set_cons_zero, List.set_cons_succ]
  refine late_take (i := 3) (some 31) rfl rfl (by kernel_rfl) (by kernel_rfl) (by kernel_rfl) (by kernel_rfl) (by kernel_rfl) (fun _ _ _ h => h) (by rfl) (v := ?v3rreqD) ?hy3rreqD hS ?rest3rreqD
  case hy3rreqD => intro w0 hSw; (try dsimp only at hSw); go_simp; try with_reducible rfl
  simp only [Act.put, List.setIfInBounds_toArray, List.set_cons_zero, List.set_cons_succ]
  refine late_take (i := 4) (some 32) rfl rfl (by kernel_rfl) (by kernel_rfl) (by kernel_rfl) (by kernel_rfl) (by kernel_rfl) (fun _ _ _ h => h) (by rfl) (v := ?v4rreqD) ?hy4rreqD hS ?rest4rreqD
  case hy4rreqD => intro w0 hSw; (try dsimp only at hSw); go_simp; try with_reducible rfl
  simp only [Act.put, List.setIfInBounds_toArray, List.set_cons_zero, List.set_cons_succ]
  refine late_take (i := 5) (some 33) rfl rfl (by kernel_rfl) (by kernel_rfl) (by kernel_rfl) (by kernel_rfl) (by kernel_rfl) (fun _ _ _ h => h) (by rfl) (v := .string Tg) ?hy5rreqD hS ?rest5rreqD
  case hy5rreqD => intro w0 hSw; go_simp; (try rw [if_pos (by omega)]); (try rw [if_pos (by omega)]); (try simp only [Int.toNat_natCast]); (try rw [HE3.out])
  simp only [Act.put, List.setIfInBounds_toArray, List.set_cons_zero, List.set_cons_succ]
  refine late_take (i := 6) (some 34) rfl rfl (by kernel_rfl) (by kernel_rfl) (by kernel_rfl) (by kernel_rfl) (by kernel_rfl) (fun _ _ _ h => h) (by rfl) (v := ?v6rreqD) ?hy6rreqD hS ?rest6rreqD
  case hy6rreqD => intro w0 hSw; (try dsimp only at hSw); go_simp; try with_reducible rfl
  simp only [Act.put, List.setIfInBounds_toArray, List.set_cons_zero, List.set_cons_succ]
  refine late_take (i := 7) (some 35) rfl rfl (by kernel_rfl) (by kernel_rfl) (by kernel_rfl) (by kernel_rfl) (by kernel_rfl) (fun _ _ _ h => h) (by rfl) (v := ?v7rreqD) ?hy7rreqD hS ?rest7rreqD
  case hy7rreqD => intro w0 hSw; (try dsimp only at hSw); go_simp; try with_reducible rfl
  simp only [Act.put, List.setIfInBounds_toArray, List.set_cons_zero, List.set_cons_succ]
  refine late_take (i := 8) (some 36) rfl rfl (by kernel_rfl) (by kernel_rfl) (by kernel_rfl) (by kernel_rfl) (by kernel_rfl) (fun _ _ _ h => h) (by rfl) (v := ?v8rreqD) ?hy8rreqD hS ?rest8rreqD
  case hy8rreqD => intro w0 hSw; (try dsimp only at hSw); go_simp; try with_reducible rfl
  simp only [Act.put, List.setIfInBounds_toArray, List.set_cons_zero, List.set_cons_succ]
  refine late_take (i := 9) (some 37) rfl rfl (by kernel_rfl) (by kernel_rfl) (by kernel_rfl) (by kernel_rfl) (by kernel_rfl) (fun _ _ _ h => h) (by rfl) (v := ?v9rreqD) ?hy9rreqD hS ?rest9rreqD
  case hy9rreqD => intro w0 hSw; (try dsimp only at hSw); go_simp; try with_reducible rfl
  simp only [Act.put, List.setIfInBounds_toArray, List.set_cons_zero, List.set_cons_succ]
  refine late_take (i := 10) (some 38) rfl rfl (by kernel_rfl) (by kernel_rfl) (by kernel_rfl) (by kernel_rfl) (by kernel_rfl) (fun _ _ _ h => h) (by rfl) (v := .int .u8 (Y : Int)) ?hy10rreqD hS ?rest10rreqD
  case hy10rreqD => intro w0 hSw; go_simp; (try rw [dif_pos (by omega)]); (try simp); (try (intro h9; exact absurd h9 (by omega)))
  simp only [Act.put, List.setIfInBounds_toArray, List.set_cons_zero, List.set_cons_succ]
  refine late_take (i := 11) (some 39) rfl rfl (by kernel_rfl) (by kernel_rfl) (by kernel_rfl) (by kernel_rfl) (by kernel_rfl) (fun _ _ _ h => h) (by rfl) (v := .int .u8 MN) ?hy11rreqD hS ?rest11rreqD
  case hy11rreqD => intro w0 hSw; go_simp; (first | exact HMy.out | (rw [HMy.out]))
  simp only [Act.put, List.setIfInBounds_toArray, List.set_cons_zero, List.set_cons_succ]
  refine late_take (i := 12) (some 40) rfl rfl (by kernel_rfl) (by kernel_rfl) (by kernel_rfl) (by kernel_rfl) (by kernel_rfl) (fun _ _ _ h => h) (by rfl) (v := ?v12rreqD) ?hy12rreqD hS ?rest12rreqD
  case hy12rreqD => intro w0 hSw; (try dsimp only at hSw); go_simp; try with_reducible rfl
  simp only [Act.put, List.setIfInBounds_toArray, List.set_cons_zero, List.set_cons_succ]
  refine late_take (i := 13) (some 41) rfl rfl (by kernel_rfl) (by kernel_rfl) (by kernel_rfl) (by kernel_rfl) (by kernel_rfl) (fun _ _ _ h => h) (by rfl) (v := ?v13rreqD) ?hy13rreqD hS ?rest13rreqD
  case hy13rreqD => intro w0 hSw; (try dsimp only at hSw); go_simp; try with_reducible rfl
  simp only [Act.put, List.setIfInBounds_toArray, List.set_cons_zero, List.set_cons_succ]
  refine late_take (i := 14) (some 42) rfl rfl (by kernel_rfl) (by kernel_rfl) (by kernel_rfl) (by kernel_rfl) (by kernel_rfl) (fun _ _ _ h => h) (by rfl) (v := ?v14rreqD) ?hy14rreqD hS ?rest14rreqD
  case hy14rreqD => intro w0 hSw; (try dsimp only at hSw); go_simp; try with_reducible rfl
  simp only [Act.put, List.setIfInBounds_toArray, List.set_cons_zero, List.set_cons_succ]
  refine late_take (i := 15) (some 43) rfl rfl (by kernel_rfl) (by kernel_rfl) (by kernel_rfl) (by kernel_rfl) (by kernel_rfl) (fun _ _ _ h => h) (by rfl) (v := .slice P1 n1 (cp - 1)) ?hy15rreqD hS ?rest15rreqD
  case hy15rreqD => intro w0 hSw; go_simp; rw [if_pos (by omega), HP1.out, HL1.out]
  simp only [Act.put, List.setIfInBounds_toArray, List.set_cons_zero, List.set_cons_succ]
  refine wpAnyD_one (i := 16) (by kernel_rfl) rfl (fun K hK => ?_)
  go_simp
  go_at_call 33
  refine (HFl.out _ _ H1.out.low).mono ?_
  rintro e w2 ⟨v2, rfl, ho2, hb⟩
  have H2 := hid (H1.out.next hb)
  obtain ⟨q2, c2, rfl⟩ := own_slice ho2
  have HO2 := hid (show OwnF w2 w.heap.size (.slice q2 ls.length c2) (ls.map fieldOf) from by have h9 := OwnF.lower ho2 H1.out.low.size; rw [List.length_map] at h9; exact h9)
  have hS2 : w2.cell? ⟨w.heap.size, 2, none⟩ = some (.slice (some ⟨g, o, none⟩) ln cp) := (seven H2.out.r).a2
  obtain ⟨z0, z1, z2, z3, zz⟩ := cells4 H2.out.o
  have zz0 := zz 0; have zz1 := zz 1; have zz2 := zz 2; have zz3 := zz 3
  refine hK _ _ ⟨fun _ => hS2, ?_⟩
  clear hK K hb hS hS0 ho2 zz
  refine late_take (i := 17) (some 45) rfl rfl (by kernel_rfl) (by kernel_rfl) (by kernel_rfl) (by kernel_rfl) (by kernel_rfl) (fun _ _ _ h => h) (by rfl) (v := ?v17rreqD) ?hy17rreqD hS2 ?rest17rreqD
  case hy17rreqD => intro w0 hSw; (try dsimp only at hSw); go_simp; try with_reducible rfl
  simp only [Act.put, List.setIfInBounds_toArray, List.set_cons_zero, List.set_cons_succ]
  refine wpAnyD_one (i := 18) (by kernel_rfl) rfl (fun K hK => ?_)
  go_simp
  have hS3 : ∀ a b c d : Value, ((((w2.setCell ⟨w.heap.size + 1, 0, none⟩ a).setCell ⟨w.heap.size + 1, 1, none⟩ b).setCell ⟨w.heap.size + 1, 2, none⟩ c).setCell ⟨w.heap.size + 1, 3, none⟩ d).cell? ⟨w.heap.size, 2, none⟩ = some (.slice (some ⟨g, o, none⟩) ln cp) := fun a b c d => cell_only (only4 (F := fun k => k = w.heap.size + 1) rfl a b c d) (fun e => by have h9 : w.heap.size = w.heap.size + 1 := e; omega) hS2
  refine hK _ _ ⟨fun _ => hS3 _ _ _ _, ?_⟩
  clear hK K
  refine late_take (i := 19) (some 3) rfl rfl (by kernel_rfl) (by kernel_rfl) (by kernel_rfl) (by kernel_rfl) (by kernel_rfl) (fun _ _ _ h => h) (by rfl) (v := ?v19rreqD) ?hy19rreqD (hS3 _ _ _ _) ?rest19rreqD
  case hy19rreqD => intro w0 hSw; (try dsimp only at hSw); go_simp; try with_reducible rfl
  simp only [Act.put, List.setIfInBounds_toArray, List.set_cons_zero, List.set_cons_succ]
  refine late_done (by kernel_rfl) ?_ _
  refine NoPanic.normal ?_
  go_wp2
  (try simp only [Exit.inBlock, Exit.then])
  refine bodyPost_ret (results_req rfl _ _ _ 25 _ (0, 0) rfl (fourC H2.out.o _ _ _ _) rfl) rfl ?_
  exact ⟨_, rfl, ownF_set4 HO2.out H2.out.o req_ne _ _ _ _, below_four1 H2.out.low _ _ _ _⟩
set_option maxRecDepth 20000 in
set_option maxHeartbeats 8000000 in
theorem rrespD_yes (h : HS) (v : Value) (b : Nat) (w : World) (x : B) (ls : List B) (hls : h.lines = x :: ls) (ho : OwnS w b v h.lines) (hd : h.done = true) (hr : h.resp = true) (hx : 13 ≤ x.length) (hok : ∀ z ∈ ls, FldOk z) (hsz : ∀ z ∈ h.lines, z.length ≤ 65536) (hn65 : h.lines.length ≤ 65) :
    Calls Tryd.prog 10 #[headV h v] w fun e w' => ∃ v', e = .returned (.tuple #[.agg #[.int .i64 (statusD x), .string (str (reasonD x)), .int .i64 (minorR x), v'], .int .i64 0]) ∧ OwnF w' w.heap.size v' (ls.map fieldOf) ∧ Below w.heap.size w w' := by
  obtain ⟨pl, cp, rfl⟩ := own_slice ho
  rw [hls] at ho hsz hn65
  obtain ⟨g, o, hp, k0⟩ := ho.at (j := 0) (t := x) rfl
  subst hp
  have hcap := ho.cap
  have HLt := hid (LAt.tail ho.lat)
  have hxl := hsz x (by simp)
  rw [hls]
  unfold headV
  rw [hd, hr]
  obtain ⟨ln, hln⟩ : ∃ ln, (x :: ls).length = ln := ⟨_, rfl⟩
  have hln2 : ls.length + 1 = ln := by rw [← hln]; rfl
  rw [hln] at hcap hn65
  rw [hln]
  obtain ⟨n1, hn1⟩ : ∃ n1, ls.length = n1 := ⟨_, rfl⟩
  rw [hn1] at hln2
  obtain ⟨P1, hP1⟩ : ∃ P1 : Option Addr, (if cp = 1 then some ⟨g, o, none⟩ else some ⟨g, o + 1, none⟩) = P1 := ⟨_, rfl⟩
  have HP1 := hid hP1
  have HL1 := hid (show ln - 1 = n1 from by omega)
  have HLp := hid (show LAt w P1 ls from by
    rw [← hP1]
    by_cases hc1 : cp = 1
    · have h9 : ls = [] := List.eq_nil_of_length_eq_zero (by omega)
      rw [h9]
      intro j t hj
      simp at hj
    · rw [if_neg hc1]
      exact HLt.out)
  have HFl := hid (show ∀ (W : World) (c : Nat), Below w.heap.size w W → _ from fun W c hb => rflds_any ls P1 n1 c hn1 W (HLp.out.next hb) hok (fun z hz => hsz z (by simp [hz])) (by omega))
  clear hP1
  obtain ⟨mo, hmo⟩ : ∃ mo, h.most = mo := ⟨_, rfl⟩
  obtain ⟨le, hle⟩ : ∃ le, h.len = le := ⟨_, rfl⟩
  obtain ⟨er, her⟩ : ∃ er, h.err = er := ⟨_, rfl⟩
  obtain ⟨L, hL⟩ : ∃ L, str h.line = L := ⟨_, rfl⟩
  rw [hmo, hle, her, hL]
  obtain ⟨W0, hW0⟩ : ∃ W0, W0 = (w.alloc (.cells #[.bool true, .int .i64 mo, .slice (some ⟨g, o, none⟩) ln cp, .string L, .int .i64 (le : Int), .bool true, .int .i64 (er : Int)] 32 (0, 0))).alloc (.cells #[.int .i64 0, .string ⟨#[]⟩, .int .i64 0, .slice none 0 0] 38 (0, 0)) := ⟨_, rfl⟩
  have H0 := hid (show BoxO w W0 (.bool true) (.int .i64 mo) (.slice (some ⟨g, o, none⟩) ln cp) (.string L) (.int .i64 (le : Int)) (.bool true) (.int .i64 (er : Int)) 38 #[.int .i64 0, .string ⟨#[]⟩, .int .i64 0, .slice none 0 0] from by obtain ⟨x1, x2, x3⟩ := two_at hW0; exact ⟨x1, x2, x3⟩)
  have HK := hid (show ∀ W : World, Below w.heap.size w W → W.cell? ⟨g, o, none⟩ = some (.string (str x)) from fun W hb => by have h9 := cell_keep hb k0; rwa [Nat.add_zero] at h9)
  have hsX : (str x).size = x.length := str_size x
  have HDc := hid (show ∀ W : World, _ from fun W => rdecimal_any (str ((x.drop 9).take 3)) 999 W (by rw [str_size]; unfold maxLen; simp; omega) (by decide) (by decide))
  rw [show numN 10 999 (str ((x.drop 9).take 3)) = statusD x from rfl] at HDc
  have HE1 := hid (show (str x).extract 9 12 = str ((x.drop 9).take 3) from ext_str x 9 12)
  have HE2 := hid (show (str x).extract 13 x.length = str (reasonD x) from ext_drop x 13 x.length rfl)
  obtain ⟨y, hy⟩ : ∃ y, x[7]? = some y := ⟨x[7]'(by omega), List.getElem?_eq_getElem (by omega)⟩
  have hlast : x.getD 7 48 = y := by rw [List.getD_eq_getElem?_getD, hy]; rfl
  have hbL2 : ∀ h9 : 7 < (str x).size, ((str x)[7]'h9).toNat = y.toNat := fun h9 => by
    have h8 : (str x)[7]'h9 = x[7]'(by omega) := rfl
    rw [h8]
    rw [List.getElem?_eq_getElem (by omega)] at hy
    rw [Option.some.inj hy]
  rw [show minorR x = byteNum y from by unfold minorR; rw [hlast]]
  obtain ⟨nx, hnx⟩ : ∃ nx, x.length = nx := ⟨_, rfl⟩
  rw [hnx] at hsX HE2 hxl hx
  have h7 : (7 : Int) < (nx : Int) := by omega
  obtain ⟨sd, hsd⟩ : ∃ sd, statusD x = sd := ⟨_, rfl⟩
  rw [hsd] at HDc
  rw [hsd]
  obtain ⟨ed, hed⟩ : ∃ ed, numE 10 999 (str ((x.drop 9).take 3)) = ed := ⟨_, rfl⟩
  rw [hed] at HDc
  have HMy := hid (byteNum_wrap y)
  obtain ⟨hm0, hm1⟩ := byteNum_bd y
  obtain ⟨MN, hMN⟩ : ∃ MN, byteNum y = MN := ⟨_, rfl⟩
  rw [hMN] at HMy hm0 hm1
  have hwm : IntKind.i64.wrap MN = MN := wrap_id9 (by omega) (by omega)
  rw [hMN]
  obtain ⟨Y, hY⟩ : ∃ Y : Nat, y.toNat = Y := ⟨_, rfl⟩
  obtain ⟨X, hX⟩ : ∃ X, str x = X := ⟨_, rfl⟩
  have hbL3 : ∀ h9 : 7 < X.size, (X[7]'h9).toNat = Y := by subst hX; intro h9; rw [hbL2 h9, hY]
  rw [hY] at HMy
  rw [hX] at HK hsX HE1 HE2
  clear hbL2
  obtain ⟨D3, hD3⟩ : ∃ D3, str ((x.drop 9).take 3) = D3 := ⟨_, rfl⟩
  obtain ⟨Rs, hRs⟩ : ∃ Rs, str (reasonD x) = Rs := ⟨_, rfl⟩
  rw [hD3] at HE1 HDc
  rw [hRs] at HE2
  rw [hRs]
  clear hD3 hRs hy hlast hnx hsd hed
  have k1 := HK.out _ H0.out.low
  obtain ⟨b0, b1, b2, b3, b4, b5, b6, _⟩ := seven H0.out.r
  have HW0 := hid hW0
  clear hW0 hmo hle her hL hls ho hok hsz k0 hMN hY hX hn1 hln hd hr
  rw [HW0.out] at k1 b0 b1 b2 b3 b4 b5 b6
  go_enter Tryd.func10, Tryd.ntmps10
  have hx1 := HE1.out
  go_wp2_with (go_at_call 35; (try rw [HE1.out]); (with_reducible refine (HDc.out _).mono ?_); rintro e w1 ⟨rfl, hw1⟩; subst w1; clear HDc)
  rw [← HW0.out]
  clear k1 b0 b1 b2 b3 b4 b5 b6
  obtain ⟨W1, hW1⟩ : ∃ W1, W1 = W0.drew := ⟨_, rfl⟩
  have H1 := hid (show BoxO w W1 (.bool true) (.int .i64 mo) (.slice (some ⟨g, o, none⟩) ln cp) (.string L) (.int .i64 (le : Int)) (.bool true) (.int .i64 (er : Int)) 38 #[.int .i64 0, .string ⟨#[]⟩, .int .i64 0, .slice none 0 0] from by rw [hW1]; exact ⟨H0.out.r, H0.out.o, H0.out.low.drew⟩)
  have hS0 : W1.cell? ⟨w.heap.size, 2, none⟩ = some (.slice (some ⟨g, o, none⟩) ln cp) := (seven H1.out.r).a2
  refine wp_region_noPanic ?_
  refine any_begin 14 (by kernel_rfl) (by kernel_rfl) ?_
  rw [← hW1]
  clear hW1
  refine late_begin (fun U => U.cell? ⟨w.heap.size, 2, none⟩ = some (.slice (some ⟨g, o, none⟩) ln cp)) (fun _ => false) hS0 (fun hS => ?_)
  refine late_take (i := 0) (some 26) rfl rfl (by kernel_rfl) (by kernel_rfl) (by kernel_rfl) (by kernel_rfl) (by kernel_rfl) (fun _ _ _ h => h) (by rfl) (v := ?v0rrespD) ?hy0rrespD hS ?rest0rrespD
  case hy0rrespD => intro w0 hSw; (try dsimp only at hSw); go_simp; try with_reducible rfl
  simp only [Act.put, List.setIfInBounds_toArray, List.set_cons_zero, List.set_cons_succ]
  refine late_take (i := 1) (some 27) rfl rfl (by kernel_rfl) (by kernel_rfl) (by kernel_rfl) (by kernel_rfl) (by kernel_rfl) (fun _ _ _ h => h) (by rfl) (v := ?v1rrespD) ?hy1rrespD hS ?rest1rrespD
  case hy1rrespD => intro w0 hSw; (try dsimp only at hSw); go_simp; try with_reducible rfl
  simp only [Act.put, List.setIfInBounds_toArray, List.set_cons_zero, List.set_cons_succ]
  refine late_take (i := 2) (some 28) rfl rfl (by kernel_rfl) (by kernel_rfl) (by kernel_rfl) (by kernel_rfl) (by kernel_rfl) (fun _ _ _ h => h) (by rfl) (v := .string Rs) ?hy2rrespD hS ?rest2rrespD
  case hy2rrespD => intro w0 hSw; go_simp; (try rw [if_pos (by omega)]); (try rw [if_pos (by omega)]); (try simp only [Int.toNat_natCast]); (try rw [HE2.out])
  simp only [Act.put, List.setIfInBounds_toArray, List.set_cons_zero, List.set_cons_succ]
  refine late_take (i := 3) (some 29) rfl rfl (by kernel_rfl) (by kernel_rfl) (by kernel_rfl) (by kernel_rfl) (by kernel_rfl) (fun _ _ _ h => h) (by rfl) (v := ?v3rrespD) ?hy3rrespD hS ?rest3rrespD
  case hy3rrespD => intro w0 hSw; (try dsimp only at hSw); go_simp; try with_reducible rfl
  simp only [Act.put, List.setIfInBounds_toArray, List.set_cons_zero, List.set_cons_succ]
  refine late_take (i := 4) (some 30) rfl rfl (by kernel_rfl) (by kernel_rfl) (by kernel_rfl) (by kernel_rfl) (by kernel_rfl) (fun _ _ _ h => h) (by rfl) (v := .int .u8 (Y : Int)) ?hy4rrespD hS ?rest4rrespD
  case hy4rrespD => intro w0 hSw; go_simp; (try rw [dif_pos (by omega)]); (try simp); (try (intro h9; exact absurd h9 (by omega)))
  simp only [Act.put, List.setIfInBounds_toArray, List.set_cons_zero, List.set_cons_succ]
  refine late_take (i := 5) (some 31) rfl rfl (by kernel_rfl) (by kernel_rfl) (by kernel_rfl) (by kernel_rfl) (by kernel_rfl) (fun _ _ _ h => h) (by rfl) (v := .int .u8 MN) ?hy5rrespD hS ?rest5rrespD
  case hy5rrespD => intro w0 hSw; go_simp; (first | exact HMy.out | (rw [HMy.out]))
  simp only [Act.put, List.setIfInBounds_toArray, List.set_cons_zero, List.set_cons_succ]
  refine late_take (i := 6) (some 32) rfl rfl (by kernel_rfl) (by kernel_rfl) (by kernel_rfl) (by kernel_rfl) (by kernel_rfl) (fun _ _ _ h => h) (by rfl) (v := ?v6rrespD) ?hy6rrespD hS ?rest6rrespD
  case hy6rrespD => intro w0 hSw; (try dsimp only at hSw); go_simp; try with_reducible rfl
  simp only [Act.put, List.setIfInBounds_toArray, List.set_cons_zero, List.set_cons_succ]
  refine late_take (i := 7) (some 33) rfl rfl (by kernel_rfl) (by kernel_rfl) (by kernel_rfl) (by kernel_rfl) (by kernel_rfl) (fun _ _ _ h => h) (by rfl) (v := ?v7rrespD) ?hy7rrespD hS ?rest7rrespD
  case hy7rrespD => intro w0 hSw; (try dsimp only at hSw); go_simp; try with_reducible rfl
  simp only [Act.put, List.setIfInBounds_toArray, List.set_cons_zero, List.set_cons_succ]
  refine late_take (i := 8) (some 34) rfl rfl (by kernel_rfl) (by kernel_rfl) (by kernel_rfl) (by kernel_rfl) (by kernel_rfl) (fun _ _ _ h => h) (by rfl) (v := ?v8rrespD) ?hy8rrespD hS ?rest8rrespD
  case hy8rrespD => intro w0 hSw; (try dsimp only at hSw); go_simp; try with_reducible rfl
  simp only [Act.put, List.setIfInBounds_toArray, List.set_cons_zero, List.set_cons_succ]
  refine late_take (i := 9) (some 35) rfl rfl (by kernel_rfl) (by kernel_rfl) (by kernel_rfl) (by kernel_rfl) (by kernel_rfl) (fun _ _ _ h => h) (by rfl) (v := .slice P1 n1 (cp - 1)) ?hy9rrespD hS ?rest9rrespD
  case hy9rrespD => intro w0 hSw; go_simp; rw [if_pos (by omega), HP1.out, HL1.out]
  simp only [Act.put, List.setIfInBounds_toArray, List.set_cons_zero, List.set_cons_succ]
  refine wpAnyD_one (i := 10) (by kernel_rfl) rfl (fun K hK => ?_)
  go_simp
  go_at_call 33
  refine (HFl.out _ _ H1.out.low).mono ?_
  rintro e w2 ⟨v2, rfl, ho2, hb⟩
  have H2 := hid (H1.out.next hb)
  obtain ⟨q2, c2, rfl⟩ := own_slice ho2
  have HO2 := hid (show OwnF w2 w.heap.size (.slice q2 ls.length c2) (ls.map fieldOf) from by have h9 := OwnF.lower ho2 H1.out.low.size; rw [List.length_map] at h9; exact h9)
  have hS2 : w2.cell? ⟨w.heap.size, 2, none⟩ = some (.slice (some ⟨g, o, none⟩) ln cp) := (seven H2.out.r).a2
  obtain ⟨z0, z1, z2, z3, zz⟩ := cells4 H2.out.o
  have zz0 := zz 0; have zz1 := zz 1; have zz2 := zz 2; have zz3 := zz 3
  refine hK _ _ ⟨fun _ => hS2, ?_⟩
  clear hK K hb hS hS0 ho2 zz
  refine late_take (i := 11) (some 37) rfl rfl (by kernel_rfl) (by kernel_rfl) (by kernel_rfl) (by kernel_rfl) (by kernel_rfl) (fun _ _ _ h => h) (by rfl) (v := ?v11rrespD) ?hy11rrespD hS2 ?rest11rrespD
  case hy11rrespD => intro w0 hSw; (try dsimp only at hSw); go_simp; try with_reducible rfl
  simp only [Act.put, List.setIfInBounds_toArray, List.set_cons_zero, List.set_cons_succ]
  refine wpAnyD_one (i := 12) (by kernel_rfl) rfl (fun K hK => ?_)
  go_simp
  have hS3 : ∀ a b c d : Value, ((((w2.setCell ⟨w.heap.size + 1, 0, none⟩ a).setCell ⟨w.heap.size + 1, 1, none⟩ b).setCell ⟨w.heap.size + 1, 2, none⟩ c).setCell ⟨w.heap.size + 1, 3, none⟩ d).cell? ⟨w.heap.size, 2, none⟩ = some (.slice (some ⟨g, o, none⟩) ln cp) := fun a b c d => cell_only (only4 (F := fun k => k = w.heap.size + 1) rfl a b c d) (fun e => by have h9 : w.heap.size = w.heap.size + 1 := e; omega) hS2
  refine hK _ _ ⟨fun _ => hS3 _ _ _ _, ?_⟩
  clear hK K
  refine late_take (i := 13) (some 3) rfl rfl (by kernel_rfl) (by kernel_rfl) (by kernel_rfl) (by kernel_rfl) (by kernel_rfl) (fun _ _ _ h => h) (by rfl) (v := ?v13rrespD) ?hy13rrespD (hS3 _ _ _ _) ?rest13rrespD
  case hy13rrespD => intro w0 hSw; (try dsimp only at hSw); go_simp; try with_reducible rfl
  simp only [Act.put, List.setIfInBounds_toArray, List.set_cons_zero, List.set_cons_succ]
  refine late_done (by kernel_rfl) ?_ _
  refine NoPanic.normal ?_
  go_wp2
  (try simp only [Exit.inBlock, Exit.then])
  refine bodyPost_ret (results_resp rfl _ _ _ 38 _ (0, 0) rfl (fourC H2.out.o _ _ _ _) rfl) rfl ?_
  exact ⟨_, rfl, ownF_set4 HO2.out H2.out.o resp_ne _ _ _ _, below_four1 H2.out.low _ _ _ _⟩
end Go.Proofs.YtfmkkkkdfkjdlaaDoor
