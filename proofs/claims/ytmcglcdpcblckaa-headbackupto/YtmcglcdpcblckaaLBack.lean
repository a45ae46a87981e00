/- The law of what is written and read. -/
import Derived.Test.YtmcglcdpcblckaaHAnsw
import Derived.Test.YtmcglcdpcblckaaPSure
import Derived.Test.YtmcglcdpcblckaaLFns
namespace Go.Proofs.Ytmcglcdpcblckaa
open Go.RowKit

def mayQ (m t : B) (k : Int) (fs : List (B × B)) : Bool := okQ m t k fs && decide ((headW (firstQ m t (verC k)) fs).length ≤ 65536)
def mayP (n : Nat) (r : B) (k : Int) (fs : List (B × B)) : Bool := okP (n : Int) r k fs && decide ((headW (firstP (verC k) (told 10 n) r) fs).length ≤ 65536)
theorem verC_num {k : Int} (h : k = 0 ∨ k = 1) : byteNum (verC k) = k := by rcases h with rfl | rfl <;> rfl
theorem written_not (m t : B) (k : Int) (fs : List (B × B)) (p : Option Addr) (n c : Nat) (hn : fs.length = n) (w : World) (hF : FAt w p fs) (hsz : ∀ f ∈ fs, f.1.length ≤ 1048576 ∧ f.2.length ≤ 1048576) (hnn : n ≤ 1048576) (hm : m.length ≤ 1048576) (ht : t.length ≤ 1048576) (hno : mayQ m t k fs = false) : Calls Try.prog 4 #[.agg #[.string (str m), .string (str t), .int .i64 k, .slice p n c]] w fun e w' => ∃ q x d, e = .returned (.tuple #[.slice q x d, .bool false]) ∧ Below w.heap.size w w' := by
  cases hok : okQ m t k fs with
  | false =>
    refine (written_no m t k fs p n c hn w hF hsz hnn hm ht hok).mono ?_
    rintro e w' ⟨h1, h2⟩
    exact ⟨none, 0, 0, h1, h2⟩
  | true =>
    refine (written_yes m t k fs p n c hn w hF hsz hnn hm ht hok).mono ?_
    rintro e w' ⟨q, x, d, h1, h2, h3, h4⟩
    unfold mayQ at hno
    rw [hok, Bool.true_and] at hno
    exact ⟨q, x, d, by rw [h1, h2, hno], h4⟩
theorem written_may (m t : B) (k : Int) (fs : List (B × B)) (p : Option Addr) (n c : Nat) (hn : fs.length = n) (w : World) (hF : FAt w p fs) (hsz : ∀ f ∈ fs, f.1.length ≤ 1048576 ∧ f.2.length ≤ 1048576) (hnn : n ≤ 1048576) (hm : m.length ≤ 1048576) (ht : t.length ≤ 1048576) (hmay : mayQ m t k fs = true) : Calls Try.prog 4 #[.agg #[.string (str m), .string (str t), .int .i64 k, .slice p n c]] w fun e w' => ∃ q d, e = .returned (.tuple #[.slice q (headW (firstQ m t (verC k)) fs).length d, .bool true]) ∧ Own w' w.heap.size (.slice q (headW (firstQ m t (verC k)) fs).length d) (headW (firstQ m t (verC k)) fs) ∧ Below w.heap.size w w' := by
  unfold mayQ at hmay
  rw [Bool.and_eq_true] at hmay
  refine (written_yes m t k fs p n c hn w hF hsz hnn hm ht hmay.1).mono ?_
  rintro e w' ⟨q, x, d, h1, h2, h3, h4⟩
  subst h2
  exact ⟨q, d, by rw [h1, hmay.2], h3, h4⟩
theorem answered_not (s : Int) (r : B) (k : Int) (fs : List (B × B)) (p : Option Addr) (n c : Nat) (hn : fs.length = n) (w : World) (hF : FAt w p fs) (hsz : ∀ f ∈ fs, f.1.length ≤ 1048576 ∧ f.2.length ≤ 1048576) (hnn : n ≤ 1048576) (hr : r.length ≤ 1048576) (hno : okP s r k fs = false ∨ ∃ st : Nat, s = (st : Int) ∧ mayP st r k fs = false) : Calls Try.prog 7 #[.agg #[.int .i64 s, .string (str r), .int .i64 k, .slice p n c]] w fun e w' => ∃ q x d, e = .returned (.tuple #[.slice q x d, .bool false]) ∧ Below w.heap.size w w' := by
  cases hok : okP s r k fs with
  | false =>
    refine (answered_no s r k fs p n c hn w hF hsz hnn hr hok).mono ?_
    rintro e w' ⟨h1, h2⟩
    exact ⟨none, 0, 0, h1, h2⟩
  | true =>
    rcases hno with h | ⟨st, rfl, h⟩
    · rw [hok] at h; cases h
    · refine (answered_yes st r k fs p n c hn w hF hsz hnn hr hok).mono ?_
      rintro e w' ⟨q, x, d, h1, h2, h3, h4⟩
      unfold mayP at h
      rw [hok, Bool.true_and] at h
      exact ⟨q, x, d, by rw [h1, h2, h], h4⟩
theorem answered_may (st : Nat) (r : B) (k : Int) (fs : List (B × B)) (p : Option Addr) (n c : Nat) (hn : fs.length = n) (w : World) (hF : FAt w p fs) (hsz : ∀ f ∈ fs, f.1.length ≤ 1048576 ∧ f.2.length ≤ 1048576) (hnn : n ≤ 1048576) (hr : r.length ≤ 1048576) (hmay : mayP st r k fs = true) : Calls Try.prog 7 #[.agg #[.int .i64 (st : Int), .string (str r), .int .i64 k, .slice p n c]] w fun e w' => ∃ q d, e = .returned (.tuple #[.slice q (headW (firstP (verC k) (told 10 st) r) fs).length d, .bool true]) ∧ Own w' w.heap.size (.slice q (headW (firstP (verC k) (told 10 st) r) fs).length d) (headW (firstP (verC k) (told 10 st) r) fs) ∧ Below w.heap.size w w' := by
  unfold mayP at hmay
  rw [Bool.and_eq_true] at hmay
  refine (answered_yes st r k fs p n c hn w hF hsz hnn hr hmay.1).mono ?_
  rintro e w' ⟨q, x, d, h1, h2, h3, h4⟩
  subst h2
  exact ⟨q, d, by rw [h1, hmay.2], h3, h4⟩
/-- What was written is read, as a call. -/
theorem parseQ_back (m t : B) (k : Int) (fs : List (B × B)) (q : Option Addr) (d : Nat) (w : World) (hA : ArgAt w q (headW (firstQ m t (verC k)) fs)) (hmay : mayQ m t k fs = true) : Calls Try.prog 5 #[.slice q (headW (firstQ m t (verC k)) fs).length d, .int .i64 65536] w fun e w' => ∃ p c, e = .returned (.tuple #[.agg #[.string (str m), .string (str t), .int .i64 k, .slice p fs.length c], .int .i64 ((headW (firstQ m t (verC k)) fs).length : Int), .nilIface]) ∧ FAt w' p fs ∧ Below w.heap.size w w' := by
  unfold mayQ at hmay
  rw [Bool.and_eq_true] at hmay
  have hl : (headW (firstQ m t (verC k)) fs).length ≤ 65536 := of_decide_eq_true hmay.2
  obtain ⟨s, e1, e2, e3, e4, e5, e6, e7, e8, e9⟩ := read_request (most := 65536) hmay.1 (by omega)
  refine (parse_req_ok (headW (firstQ m t (verC k)) fs) q _ d 65536 w rfl hA (by omega) (by omega) (by rw [e1]; unfold allE; rw [e3, e2]; rfl)).mono ?_
  rintro e w' ⟨v, rfl, ho, hb⟩
  rw [e1] at ho ⊢
  obtain ⟨p, n, c, rfl⟩ := own_slice3 ho
  have hn := sliceF_len ho
  rw [e9] at hn ho
  refine ⟨p, c, ?_, ho.fat, hb⟩
  unfold reqC
  rw [e5, e6, e7, e8, verC_num (okQ_parts hmay.1).2.2.2.1, hn]
  rfl
theorem parseP_back (n : Nat) (r : B) (k : Int) (fs : List (B × B)) (q : Option Addr) (d : Nat) (w : World) (hA : ArgAt w q (headW (firstP (verC k) (told 10 n) r) fs)) (hmay : mayP n r k fs = true) : Calls Try.prog 8 #[.slice q (headW (firstP (verC k) (told 10 n) r) fs).length d, .int .i64 65536] w fun e w' => ∃ p c, e = .returned (.tuple #[.agg #[.int .i64 (n : Int), .string (str r), .int .i64 k, .slice p fs.length c], .int .i64 ((headW (firstP (verC k) (told 10 n) r) fs).length : Int), .nilIface]) ∧ FAt w' p fs ∧ Below w.heap.size w w' := by
  unfold mayP at hmay
  rw [Bool.and_eq_true] at hmay
  have hl : (headW (firstP (verC k) (told 10 n) r) fs).length ≤ 65536 := of_decide_eq_true hmay.2
  obtain ⟨s, e1, e2, e3, e5, e6, e7, e8, e9⟩ := read_response (most := 65536) hmay.1 (by omega)
  refine (parse_resp_ok (headW (firstP (verC k) (told 10 n) r) fs) q _ d 65536 w rfl hA (by omega) (by omega) (by rw [e1]; unfold allE; rw [e3, e2]; rfl)).mono ?_
  rintro e w' ⟨v, rfl, ho, hb⟩
  rw [e1] at ho ⊢
  obtain ⟨p, n2, c, rfl⟩ := own_slice3 ho
  have hn := sliceF_len ho
  rw [e9] at hn ho
  refine ⟨p, c, ?_, ho.fat, hb⟩
  unfold respC
  rw [e5, e6, e7, e8, verC_num (okP_parts hmay.1).2.2.1, hn]
  rfl
/-- Two blocks of one's own, and what lies below. -/
structure Two2 (w W : World) (A C : Array Value) : Prop where
  low : Below w.heap.size w W
  a : W.heap[w.heap.size]? = some (.cells A 24 (0, 0))
  c : W.heap[w.heap.size + 1]? = some (.cells C 26 (0, 0))
theorem Two2.next {w W W' : World} {A C : Array Value} (h : Two2 w W A C) (hb : Below W.heap.size W W') : Two2 w W' A C := ⟨h.low.trans (hb.mono h.low.size), (hb.block _ (lt_of_heap h.a)).trans h.a, (hb.block _ (lt_of_heap h.c)).trans h.c⟩
set_option maxRecDepth 20000 in
set_option maxHeartbeats 8000000 in
theorem back_nn (m t : B) (k : Int) (fs : List (B × B)) (p : Option Addr) (n c : Nat) (hn : fs.length = n) (s : Int) (r : B) (k' : Int) (fs' : List (B × B)) (p' : Option Addr) (n' c' : Nat) (hn' : fs'.length = n') (w : World) (hF : FAt w p fs) (hsz : ∀ f ∈ fs, f.1.length ≤ 1048576 ∧ f.2.length ≤ 1048576) (hnn : n ≤ 1048576) (hm : m.length ≤ 1048576) (ht : t.length ≤ 1048576) (hF' : FAt w p' fs') (hsz' : ∀ f ∈ fs', f.1.length ≤ 1048576 ∧ f.2.length ≤ 1048576) (hnn' : n' ≤ 1048576) (hr : r.length ≤ 1048576) (hq : mayQ m t k fs = false) (ha : okP s r k' fs' = false ∨ ∃ st : Nat, s = (st : Int) ∧ mayP st r k' fs' = false) : Calls Try.prog 3 #[.agg #[.string (str m), .string (str t), .int .i64 k, .slice p n c], .agg #[.int .i64 s, .string (str r), .int .i64 k', .slice p' n' c']] w fun e w' => e = .returned (.bool true) ∧ Below w.heap.size w w' := by
  subst hn hn'
  obtain ⟨W0, hW0⟩ : ∃ W0, W0 = (w.alloc (.cells #[.string (str m), .string (str t), .int .i64 k, .slice p fs.length c] 24 (0, 0))).alloc (.cells #[.int .i64 s, .string (str r), .int .i64 k', .slice p' fs'.length c'] 26 (0, 0)) := ⟨_, rfl⟩
  have H0 := hid (show Two2 w W0 #[.string (str m), .string (str t), .int .i64 k, .slice p fs.length c] #[.int .i64 s, .string (str r), .int .i64 k', .slice p' fs'.length c'] from by obtain ⟨x1, x2, x3⟩ := two_at hW0; exact ⟨x3, x1, x2⟩)
  have HWr := hid (written_not m t k fs p fs.length c rfl W0 (hF.next H0.out.low) hsz hnn hm ht hq)
  have HAn := hid (show ∀ W : World, Below w.heap.size w W → _ from fun W hb => answered_not s r k' fs' p' fs'.length c' rfl W (hF'.next hb) hsz' hnn' hr ha)
  obtain ⟨M, hM⟩ : ∃ M, str m = M := ⟨_, rfl⟩
  obtain ⟨T, hT⟩ : ∃ T, str t = T := ⟨_, rfl⟩
  obtain ⟨Rr, hR⟩ : ∃ Rr, str r = Rr := ⟨_, rfl⟩
  obtain ⟨n, hn⟩ : ∃ n, fs.length = n := ⟨_, rfl⟩
  obtain ⟨n', hn'⟩ : ∃ n', fs'.length = n' := ⟨_, rfl⟩
  rw [hM, hT, hR, hn, hn'] at hW0 H0
  rw [hM, hT, hn] at HWr
  rw [hR, hn'] at HAn
  rw [hM, hT, hR, hn, hn']
  have HW0 := hid hW0
  clear hF hsz hF' hsz' hM hT hR hn hn' hW0 hq ha
  go_enter Try.func3, Try.ntmps3
  go_wp2_with (first | (go_at_call 4; (rw [← HW0.out]); (with_reducible refine HWr.out.mono ?_); rintro e w4 ⟨q1, x1, d1, rfl, hb⟩; have H4 := hid (H0.out.next hb); obtain ⟨z0, z1, z2, z3, _⟩ := cells4 H4.out.c; have HAn4 := hid (HAn.out w4 H4.out.low); clear hb HWr) | (go_at_call 7; (with_reducible refine HAn4.out.mono ?_); rintro e w8 ⟨q5, x5, d5, rfl, hb⟩; have H8 := hid (H4.out.next hb); clear hb HAn4) | (go_at_call 10; (with_reducible refine (sure_any _).mono ?_); rintro e w9 ⟨rfl, hb⟩; have H9 := hid (H8.out.next hb); clear hb))
  go_ret
  exact ⟨rfl, H9.out.low⟩
set_option maxRecDepth 20000 in
set_option maxHeartbeats 8000000 in
theorem back_ny (m t : B) (k : Int) (fs : List (B × B)) (p : Option Addr) (n c : Nat) (hn : fs.length = n) (st : Nat) (r : B) (k' : Int) (fs' : List (B × B)) (p' : Option Addr) (n' c' : Nat) (hn' : fs'.length = n') (w : World) (hF : FAt w p fs) (hsz : ∀ f ∈ fs, f.1.length ≤ 1048576 ∧ f.2.length ≤ 1048576) (hnn : n ≤ 1048576) (hm : m.length ≤ 1048576) (ht : t.length ≤ 1048576) (hF' : FAt w p' fs') (hsz' : ∀ f ∈ fs', f.1.length ≤ 1048576 ∧ f.2.length ≤ 1048576) (hnn' : n' ≤ 1048576) (hr : r.length ≤ 1048576) (hq : mayQ m t k fs = false) (ha : mayP st r k' fs' = true) : Calls Try.prog 3 #[.agg #[.string (str m), .string (str t), .int .i64 k, .slice p n c], .agg #[.int .i64 (st : Int), .string (str r), .int .i64 k', .slice p' n' c']] w fun e w' => e = .returned (.bool true) ∧ Below w.heap.size w w' := by
  subst hn hn'
  obtain ⟨W0, hW0⟩ : ∃ W0, W0 = (w.alloc (.cells #[.string (str m), .string (str t), .int .i64 k, .slice p fs.length c] 24 (0, 0))).alloc (.cells #[.int .i64 (st : Int), .string (str r), .int .i64 k', .slice p' fs'.length c'] 26 (0, 0)) := ⟨_, rfl⟩
  have H0 := hid (show Two2 w W0 #[.string (str m), .string (str t), .int .i64 k, .slice p fs.length c] #[.int .i64 (st : Int), .string (str r), .int .i64 k', .slice p' fs'.length c'] from by obtain ⟨x1, x2, x3⟩ := two_at hW0; exact ⟨x3, x1, x2⟩)
  have HWr := hid (written_not m t k fs p fs.length c rfl W0 (hF.next H0.out.low) hsz hnn hm ht hq)
  have HAn := hid (show ∀ W : World, Below w.heap.size w W → _ from fun W hb => answered_may st r k' fs' p' fs'.length c' rfl W (hF'.next hb) hsz' hnn' hr ha)
  have HPp := hid (show ∀ (W : World) (q : Option Addr) (d : Nat), ArgAt W q (headW (firstP (verC k') (told 10 st) r) fs') → _ from fun W q d hA => parseP_back st r k' fs' q d W hA ha)
  have HSp := hid (show ∀ (W : World) (p2 : Option Addr) (c2 : Nat), Below w.heap.size w W → FAt W p2 fs' → _ from fun W p2 c2 hb h2 => responses_same (st : Int) (str r) k' fs' p2 p' fs'.length c2 c' rfl W h2 (hF'.next hb) (by omega))
  obtain ⟨L', hL'⟩ : ∃ L', headW (firstP (verC k') (told 10 st) r) fs' = L' := ⟨_, rfl⟩
  rw [hL'] at HAn HPp
  obtain ⟨x', hx'⟩ : ∃ x', L'.length = x' := ⟨_, rfl⟩
  rw [hx'] at HAn HPp
  obtain ⟨M, hM⟩ : ∃ M, str m = M := ⟨_, rfl⟩
  obtain ⟨T, hT⟩ : ∃ T, str t = T := ⟨_, rfl⟩
  obtain ⟨Rr, hR⟩ : ∃ Rr, str r = Rr := ⟨_, rfl⟩
  obtain ⟨n, hn⟩ : ∃ n, fs.length = n := ⟨_, rfl⟩
  obtain ⟨n', hn'⟩ : ∃ n', fs'.length = n' := ⟨_, rfl⟩
  rw [hM, hT, hR, hn, hn'] at hW0 H0
  rw [hM, hT, hn] at HWr
  rw [hR, hn'] at HAn HPp HSp
  rw [hM, hT, hR, hn, hn']
  have HW0 := hid hW0
  clear hF hsz hF' hsz' hM hT hR hn hn' hW0 hq ha hL' hx'
  go_enter Try.func3, Try.ntmps3
  go_wp2_with (first | (go_at_call 4; (rw [← HW0.out]); (with_reducible refine HWr.out.mono ?_); rintro e w4 ⟨q1, x1, d1, rfl, hb⟩; have H4 := hid (H0.out.next hb); obtain ⟨z0, z1, z2, z3, _⟩ := cells4 H4.out.c; have HAn4 := hid (HAn.out w4 H4.out.low); clear hb HWr) | (go_at_call 7; (with_reducible refine HAn4.out.mono ?_); rintro e w5 ⟨q5, d5, rfl, ho, hb⟩; have H5 := hid (H4.out.next hb); have HO5 := hid ho; clear ho hb HAn4) | (go_at_call 8; (with_reducible refine (HPp.out w5 q5 d5 HO5.out.arg).mono ?_); rintro e w6 ⟨p6, c6, rfl, hf6, hb⟩; have H6 := hid (H5.out.next hb); have HW7b := hid (below_new w6 (.cells #[.int .i64 (st : Int), .string Rr, .int .i64 k', .slice p6 n' c6] 26 (0, 0))); have H7 := hid (H6.out.next HW7b.out); obtain ⟨v0, v1, v2, v3, _⟩ := cells4 H7.out.c; have HS7 := hid (HSp.out _ p6 c6 H7.out.low (hf6.next HW7b.out)); clear hf6 hb HPp) | (go_at_call 9; (with_reducible refine HS7.out.mono ?_); rintro e w8 ⟨rfl, hb⟩; have H8 := hid (H7.out.next hb); clear hb HS7 v0 v1 v2 v3) | (go_at_call 10; (with_reducible refine (sure_any _).mono ?_); rintro e w9 ⟨rfl, hb⟩; have H9 := hid (H8.out.next hb); clear hb))
  go_ret
  exact ⟨rfl, H9.out.low⟩
set_option maxRecDepth 20000 in
set_option maxHeartbeats 8000000 in
theorem back_yn (m t : B) (k : Int) (fs : List (B × B)) (p : Option Addr) (n c : Nat) (hn : fs.length = n) (s : Int) (r : B) (k' : Int) (fs' : List (B × B)) (p' : Option Addr) (n' c' : Nat) (hn' : fs'.length = n') (w : World) (hF : FAt w p fs) (hsz : ∀ f ∈ fs, f.1.length ≤ 1048576 ∧ f.2.length ≤ 1048576) (hnn : n ≤ 1048576) (hm : m.length ≤ 1048576) (ht : t.length ≤ 1048576) (hF' : FAt w p' fs') (hsz' : ∀ f ∈ fs', f.1.length ≤ 1048576 ∧ f.2.length ≤ 1048576) (hnn' : n' ≤ 1048576) (hr : r.length ≤ 1048576) (hq : mayQ m t k fs = true) (ha : okP s r k' fs' = false ∨ ∃ st : Nat, s = (st : Int) ∧ mayP st r k' fs' = false) : Calls Try.prog 3 #[.agg #[.string (str m), .string (str t), .int .i64 k, .slice p n c], .agg #[.int .i64 s, .string (str r), .int .i64 k', .slice p' n' c']] w fun e w' => e = .returned (.bool true) ∧ Below w.heap.size w w' := by
  subst hn hn'
  obtain ⟨W0, hW0⟩ : ∃ W0, W0 = (w.alloc (.cells #[.string (str m), .string (str t), .int .i64 k, .slice p fs.length c] 24 (0, 0))).alloc (.cells #[.int .i64 s, .string (str r), .int .i64 k', .slice p' fs'.length c'] 26 (0, 0)) := ⟨_, rfl⟩
  have H0 := hid (show Two2 w W0 #[.string (str m), .string (str t), .int .i64 k, .slice p fs.length c] #[.int .i64 s, .string (str r), .int .i64 k', .slice p' fs'.length c'] from by obtain ⟨x1, x2, x3⟩ := two_at hW0; exact ⟨x3, x1, x2⟩)
  have HWr := hid (written_may m t k fs p fs.length c rfl W0 (hF.next H0.out.low) hsz hnn hm ht hq)
  have HAn := hid (show ∀ W : World, Below w.heap.size w W → _ from fun W hb => answered_not s r k' fs' p' fs'.length c' rfl W (hF'.next hb) hsz' hnn' hr ha)
  have HPq := hid (show ∀ (W : World) (q : Option Addr) (d : Nat), ArgAt W q (headW (firstQ m t (verC k)) fs) → _ from fun W q d hA => parseQ_back m t k fs q d W hA hq)
  have HSq := hid (show ∀ (W : World) (p2 : Option Addr) (c2 : Nat), Below w.heap.size w W → FAt W p2 fs → _ from fun W p2 c2 hb h2 => requests_same (str m) (str t) k fs p2 p fs.length c2 c rfl W h2 (hF.next hb) (by omega))
  obtain ⟨L, hL⟩ : ∃ L, headW (firstQ m t (verC k)) fs = L := ⟨_, rfl⟩
  rw [hL] at HWr HPq
  obtain ⟨x, hx⟩ : ∃ x, L.length = x := ⟨_, rfl⟩
  rw [hx] at HWr HPq
  obtain ⟨M, hM⟩ : ∃ M, str m = M := ⟨_, rfl⟩
  obtain ⟨T, hT⟩ : ∃ T, str t = T := ⟨_, rfl⟩
  obtain ⟨Rr, hR⟩ : ∃ Rr, str r = Rr := ⟨_, rfl⟩
  obtain ⟨n, hn⟩ : ∃ n, fs.length = n := ⟨_, rfl⟩
  obtain ⟨n', hn'⟩ : ∃ n', fs'.length = n' := ⟨_, rfl⟩
  rw [hM, hT, hR, hn, hn'] at hW0 H0
  rw [hM, hT, hn] at HWr HPq HSq
  rw [hR, hn'] at HAn
  rw [hM, hT, hR, hn, hn']
  have HW0 := hid hW0
  clear hF hsz hF' hsz' hM hT hR hn hn' hW0 hq ha hL hx
  go_enter Try.func3, Try.ntmps3
  go_wp2_with (first | (go_at_call 4; (rw [← HW0.out]); (with_reducible refine HWr.out.mono ?_); rintro e w1 ⟨q1, d1, rfl, ho, hb⟩; have H1 := hid (H0.out.next hb); have HO1 := hid ho; clear ho hb HWr) | (go_at_call 5; (with_reducible refine (HPq.out w1 q1 d1 HO1.out.arg).mono ?_); rintro e w2 ⟨p2, c2, rfl, hf2, hb⟩; have H2 := hid (H1.out.next hb); have HW3b := hid (below_new w2 (.cells #[.string M, .string T, .int .i64 k, .slice p2 n c2] 24 (0, 0))); have H3 := hid (H2.out.next HW3b.out); obtain ⟨y0, y1, y2, y3, _⟩ := cells4 H3.out.a; have HS3 := hid (HSq.out _ p2 c2 H3.out.low (hf2.next HW3b.out)); clear hf2 hb HPq) | (go_at_call 6; (with_reducible refine HS3.out.mono ?_); rintro e w4 ⟨rfl, hb⟩; have H4 := hid (H3.out.next hb); obtain ⟨z0, z1, z2, z3, _⟩ := cells4 H4.out.c; have HAn4 := hid (HAn.out w4 H4.out.low); clear hb HS3 y0 y1 y2 y3) | (go_at_call 7; (with_reducible refine HAn4.out.mono ?_); rintro e w8 ⟨q5, x5, d5, rfl, hb⟩; have H8 := hid (H4.out.next hb); clear hb HAn4) | (go_at_call 10; (with_reducible refine (sure_any _).mono ?_); rintro e w9 ⟨rfl, hb⟩; have H9 := hid (H8.out.next hb); clear hb))
  go_ret
  exact ⟨rfl, H9.out.low⟩
set_option maxRecDepth 20000 in
set_option maxHeartbeats 8000000 in
theorem back_yy (m t : B) (k : Int) (fs : List (B × B)) (p : Option Addr) (n c : Nat) (hn : fs.length = n) (st : Nat) (r : B) (k' : Int) (fs' : List (B × B)) (p' : Option Addr) (n' c' : Nat) (hn' : fs'.length = n') (w : World) (hF : FAt w p fs) (hsz : ∀ f ∈ fs, f.1.length ≤ 1048576 ∧ f.2.length ≤ 1048576) (hnn : n ≤ 1048576) (hm : m.length ≤ 1048576) (ht : t.length ≤ 1048576) (hF' : FAt w p' fs') (hsz' : ∀ f ∈ fs', f.1.length ≤ 1048576 ∧ f.2.length ≤ 1048576) (hnn' : n' ≤ 1048576) (hr : r.length ≤ 1048576) (hq : mayQ m t k fs = true) (ha : mayP st r k' fs' = true) : Calls Try.prog 3 #[.agg #[.string (str m), .string (str t), .int .i64 k, .slice p n c], .agg #[.int .i64 (st : Int), .string (str r), .int .i64 k', .slice p' n' c']] w fun e w' => e = .returned (.bool true) ∧ Below w.heap.size w w' := by
  subst hn hn'
  obtain ⟨W0, hW0⟩ : ∃ W0, W0 = (w.alloc (.cells #[.string (str m), .string (str t), .int .i64 k, .slice p fs.length c] 24 (0, 0))).alloc (.cells #[.int .i64 (st : Int), .string (str r), .int .i64 k', .slice p' fs'.length c'] 26 (0, 0)) := ⟨_, rfl⟩
  have H0 := hid (show Two2 w W0 #[.string (str m), .string (str t), .int .i64 k, .slice p fs.length c] #[.int .i64 (st : Int), .string (str r), .int .i64 k', .slice p' fs'.length c'] from by obtain ⟨x1, x2, x3⟩ := two_at hW0; exact ⟨x3, x1, x2⟩)
  have HWr := hid (written_may m t k fs p fs.length c rfl W0 (hF.next H0.out.low) hsz hnn hm ht hq)
  have HAn := hid (show ∀ W : World, Below w.heap.size w W → _ from fun W hb => answered_may st r k' fs' p' fs'.length c' rfl W (hF'.next hb) hsz' hnn' hr ha)
  have HPq := hid (show ∀ (W : World) (q : Option Addr) (d : Nat), ArgAt W q (headW (firstQ m t (verC k)) fs) → _ from fun W q d hA => parseQ_back m t k fs q d W hA hq)
  have HSq := hid (show ∀ (W : World) (p2 : Option Addr) (c2 : Nat), Below w.heap.size w W → FAt W p2 fs → _ from fun W p2 c2 hb h2 => requests_same (str m) (str t) k fs p2 p fs.length c2 c rfl W h2 (hF.next hb) (by omega))
  obtain ⟨L, hL⟩ : ∃ L, headW (firstQ m t (verC k)) fs = L := ⟨_, rfl⟩
  rw [hL] at HWr HPq
  obtain ⟨x, hx⟩ : ∃ x, L.length = x := ⟨_, rfl⟩
  rw [hx] at HWr HPq
  have HPp := hid (show ∀ (W : World) (q : Option Addr) (d : Nat), ArgAt W q (headW (firstP (verC k') (told 10 st) r) fs') → _ from fun W q d hA => parseP_back st r k' fs' q d W hA ha)
  have HSp := hid (show ∀ (W : World) (p2 : Option Addr) (c2 : Nat), Below w.heap.size w W → FAt W p2 fs' → _ from fun W p2 c2 hb h2 => responses_same (st : Int) (str r) k' fs' p2 p' fs'.length c2 c' rfl W h2 (hF'.next hb) (by omega))
  obtain ⟨L', hL'⟩ : ∃ L', headW (firstP (verC k') (told 10 st) r) fs' = L' := ⟨_, rfl⟩
  rw [hL'] at HAn HPp
  obtain ⟨x', hx'⟩ : ∃ x', L'.length = x' := ⟨_, rfl⟩
  rw [hx'] at HAn HPp
  obtain ⟨M, hM⟩ : ∃ M, str m = M := ⟨_, rfl⟩
  obtain ⟨T, hT⟩ : ∃ T, str t = T := ⟨_, rfl⟩
  obtain ⟨Rr, hR⟩ : ∃ Rr, str r = Rr := ⟨_, rfl⟩
  obtain ⟨n, hn⟩ : ∃ n, fs.length = n := ⟨_, rfl⟩
  obtain ⟨n', hn'⟩ : ∃ n', fs'.length = n' := ⟨_, rfl⟩
  rw [hM, hT, hR, hn, hn'] at hW0 H0
  rw [hM, hT, hn] at HWr HPq HSq
  rw [hR, hn'] at HAn HPp HSp
  rw [hM, hT, hR, hn, hn']
  have HW0 := hid hW0
  clear hF hsz hF' hsz' hM hT hR hn hn' hW0 hq ha hL hx hL' hx'
  go_enter Try.func3, Try.ntmps3
  go_wp2_with (first | (go_at_call 4; (rw [← HW0.out]); (with_reducible refine HWr.out.mono ?_); rintro e w1 ⟨q1, d1, rfl, ho, hb⟩; have H1 := hid (H0.out.next hb); have HO1 := hid ho; clear ho hb HWr) | (go_at_call 5; (with_reducible refine (HPq.out w1 q1 d1 HO1.out.arg).mono ?_); rintro e w2 ⟨p2, c2, rfl, hf2, hb⟩; have H2 := hid (H1.out.next hb); have HW3b := hid (below_new w2 (.cells #[.string M, .string T, .int .i64 k, .slice p2 n c2] 24 (0, 0))); have H3 := hid (H2.out.next HW3b.out); obtain ⟨y0, y1, y2, y3, _⟩ := cells4 H3.out.a; have HS3 := hid (HSq.out _ p2 c2 H3.out.low (hf2.next HW3b.out)); clear hf2 hb HPq) | (go_at_call 6; (with_reducible refine HS3.out.mono ?_); rintro e w4 ⟨rfl, hb⟩; have H4 := hid (H3.out.next hb); obtain ⟨z0, z1, z2, z3, _⟩ := cells4 H4.out.c; have HAn4 := hid (HAn.out w4 H4.out.low); clear hb HS3 y0 y1 y2 y3) | (go_at_call 7; (with_reducible refine HAn4.out.mono ?_); rintro e w5 ⟨q5, d5, rfl, ho, hb⟩; have H5 := hid (H4.out.next hb); have HO5 := hid ho; clear ho hb HAn4) | (go_at_call 8; (with_reducible refine (HPp.out w5 q5 d5 HO5.out.arg).mono ?_); rintro e w6 ⟨p6, c6, rfl, hf6, hb⟩; have H6 := hid (H5.out.next hb); have HW7b := hid (below_new w6 (.cells #[.int .i64 (st : Int), .string Rr, .int .i64 k', .slice p6 n' c6] 26 (0, 0))); have H7 := hid (H6.out.next HW7b.out); obtain ⟨v0, v1, v2, v3, _⟩ := cells4 H7.out.c; have HS7 := hid (HSp.out _ p6 c6 H7.out.low (hf6.next HW7b.out)); clear hf6 hb HPp) | (go_at_call 9; (with_reducible refine HS7.out.mono ?_); rintro e w8 ⟨rfl, hb⟩; have H8 := hid (H7.out.next hb); clear hb HS7 v0 v1 v2 v3) | (go_at_call 10; (with_reducible refine (sure_any _).mono ?_); rintro e w9 ⟨rfl, hb⟩; have H9 := hid (H8.out.next hb); clear hb))
  go_ret
  exact ⟨rfl, H9.out.low⟩
theorem back_walk (m t : B) (k : Int) (fs : List (B × B)) (p : Option Addr) (n c : Nat) (hn : fs.length = n) (s : Int) (r : B) (k' : Int) (fs' : List (B × B)) (p' : Option Addr) (n' c' : Nat) (hn' : fs'.length = n') (w : World) (hF : FAt w p fs) (hsz : ∀ f ∈ fs, f.1.length ≤ 1048576 ∧ f.2.length ≤ 1048576) (hnn : n ≤ 1048576) (hm : m.length ≤ 1048576) (ht : t.length ≤ 1048576) (hF' : FAt w p' fs') (hsz' : ∀ f ∈ fs', f.1.length ≤ 1048576 ∧ f.2.length ≤ 1048576) (hnn' : n' ≤ 1048576) (hr : r.length ≤ 1048576) : Calls Try.prog 3 #[.agg #[.string (str m), .string (str t), .int .i64 k, .slice p n c], .agg #[.int .i64 s, .string (str r), .int .i64 k', .slice p' n' c']] w fun e w' => e = .returned (.bool true) ∧ Below w.heap.size w w' := by
  cases ha : okP s r k' fs' with
  | false =>
    cases hq : mayQ m t k fs with
    | false => exact back_nn m t k fs p n c hn s r k' fs' p' n' c' hn' w hF hsz hnn hm ht hF' hsz' hnn' hr hq (.inl ha)
    | true => exact back_yn m t k fs p n c hn s r k' fs' p' n' c' hn' w hF hsz hnn hm ht hF' hsz' hnn' hr hq (.inl ha)
  | true =>
    obtain ⟨⟨st, rfl, _⟩, _⟩ := okP_parts ha
    cases hb : mayP st r k' fs' with
    | false =>
      cases hq : mayQ m t k fs with
      | false => exact back_nn m t k fs p n c hn _ r k' fs' p' n' c' hn' w hF hsz hnn hm ht hF' hsz' hnn' hr hq (.inr ⟨st, rfl, hb⟩)
      | true => exact back_yn m t k fs p n c hn _ r k' fs' p' n' c' hn' w hF hsz hnn hm ht hF' hsz' hnn' hr hq (.inr ⟨st, rfl, hb⟩)
    | true =>
      cases hq : mayQ m t k fs with
      | false => exact back_ny m t k fs p n c hn st r k' fs' p' n' c' hn' w hF hsz hnn hm ht hF' hsz' hnn' hr hq hb
      | true => exact back_yy m t k fs p n c hn st r k' fs' p' n' c' hn' w hF hsz hnn hm ht hF' hsz' hnn' hr hq hb
end Go.Proofs.Ytmcglcdpcblckaa
