/- The law of chunks written and read, walked. -/
import Derived.Test.YtjjalgnpppegnaaDoorKApp
namespace Go.Proofs.YtjjalgnpppegnaaDoor
open Go.RowKit

/-- A row of rows of bytes that was handed in. -/
def PartsAt (w : World) (p : Option Addr) (ps : List B) : Prop := ∀ i X, ps[i]? = some X → ∃ g o q c, p = some ⟨g, o, none⟩ ∧ w.cell? ⟨g, o + i, none⟩ = some (.slice q X.length c) ∧ ArgAt w q X ∧ (q = none → c = 0)
theorem PartsAt.next {w w' : World} {p : Option Addr} {ps : List B} (h : PartsAt w p ps) (hb : Below w.heap.size w w') : PartsAt w' p ps := by
  intro i X hX
  obtain ⟨g, o, q, c, e, h1, h2, h3⟩ := h i X hX
  exact ⟨g, o, q, c, e, cell_keep hb h1, h2.next hb, h3⟩
theorem ownM_only {w w' : World} {b : Nat} {F : Nat → Prop} {v : Value} {acc : B} (h : OwnM w b v acc) (ho : Only F w w') (hf : ∀ k, v.ownBlock = some k → ¬ F k) : OwnM w' b v acc := by
  obtain ⟨g, cap, cur, fz, h1, h2, h3, h4⟩ := h
  exact ⟨g, cap, cur, fz, h1, h2, (ho.block g (lt_of_heap h3) (hf g (by rw [h1]; rfl))).trans h3, h4⟩
theorem ownM_lt {w : World} {b k : Nat} {v : Value} {acc : B} (h : OwnM w b v acc) (e : v.ownBlock = some k) : k < w.heap.size := by
  obtain ⟨g, cap, cur, fz, h1, h2, h3, h4⟩ := h
  rw [h1] at e
  simp [Value.ownBlock] at e
  subst e
  exact lt_of_heap h3
structure BackS (w W : World) (vl vt va : Value) (lst T A : B) : Prop where
  low : Below w.heap.size w W
  l : OwnM W w.heap.size vl lst
  t : Own W w.heap.size vt T
  a : Own W w.heap.size va A
  lt : ∀ k, vt.ownBlock = some k → vl.ownBlock ≠ some k
  la : ∀ k, va.ownBlock = some k → vl.ownBlock ≠ some k
  ta : ∀ k, vt.ownBlock = some k → va.ownBlock ≠ some k
theorem BackS.next {w W W' : World} {vl vt va : Value} {lst T A : B} (h : BackS w W vl vt va lst T A) (hb : Below W.heap.size W W') : BackS w W' vl vt va lst T A := ⟨h.low.trans (hb.mono h.low.size), h.l.keep hb, h.t.keep hb, h.a.keep hb, h.lt, h.la, h.ta⟩
theorem BackS.appT {w W W' : World} {vl vt va vt' : Value} {lst T A T' : B} (h : BackS w W vl vt va lst T A) (hg : W.grownBy W' vt.ownBlock) (ho : Own W' w.heap.size vt' T') (hv : vt'.ownBlock = vt.ownBlock ∨ vt'.ownBlock = some W.heap.size) : BackS w W' vl vt' va lst T' A := by
  have og : Only (fun k => vt.ownBlock = some k) W W' := Only.grown hg (fun k e => e)
  refine ⟨h.low.trans (og.below (fun k hk => own_ge h.t hk) h.low.size), ownM_only h.l og (fun k e e2 => h.lt k e2 e), ho, own_only h.a og (fun k e e2 => h.ta k e2 e), fun k e => ?_, h.la, fun k e => ?_⟩
  · rcases hv with e2 | e2
    · exact h.lt k (by rw [← e2]; exact e)
    · rw [e2] at e; obtain rfl := Option.some.inj e
      intro e3; have := ownM_lt h.l e3; omega
  · rcases hv with e2 | e2
    · exact h.ta k (by rw [← e2]; exact e)
    · rw [e2] at e; obtain rfl := Option.some.inj e
      intro e3; have := ys_lt (own_low0 h.a) e3; omega
theorem BackS.appA {w W W' : World} {vl vt va va' : Value} {lst T A A' : B} (h : BackS w W vl vt va lst T A) (hg : W.grownBy W' va.ownBlock) (ho : Own W' w.heap.size va' A') (hv : va'.ownBlock = va.ownBlock ∨ va'.ownBlock = some W.heap.size) : BackS w W' vl vt va' lst T A' := by
  have og : Only (fun k => va.ownBlock = some k) W W' := Only.grown hg (fun k e => e)
  refine ⟨h.low.trans (og.below (fun k hk => own_ge h.a hk) h.low.size), ownM_only h.l og (fun k e e2 => h.la k e2 e), own_only h.t og (fun k e e2 => h.ta k e e2), ho, h.lt, fun k e => ?_, fun k e => ?_⟩
  · rcases hv with e2 | e2
    · exact h.la k (by rw [← e2]; exact e)
    · rw [e2] at e; obtain rfl := Option.some.inj e
      intro e3; have := ownM_lt h.l e3; omega
  · rcases hv with e2 | e2
    · rw [e2]; exact h.ta k e
    · rw [e2]
      intro e3
      have := ys_lt (own_low0 h.t) e
      have := Option.some.inj e3
      omega
theorem encK_len (X : B) (h : X.length ≤ 5000) : (encK X).length ≤ 5068 := by
  unfold encK
  split
  · simp
  · have := told_len16 X.length (by omega)
    simp
    omega
theorem take_encs {ps : List B} {i : Nat} {X : B} (h : ps[i]? = some X) : (ps.take (i + 1)).flatMap encK = (ps.take i).flatMap encK ++ encK X ∧ (ps.take (i + 1)).flatten = (ps.take i).flatten ++ X := by
  rw [List.take_add_one, h]
  simp
theorem back_sizes : ∀ (ps : List B), (∀ X ∈ ps, X.length ≤ 5000) → (ps.flatMap encK).length ≤ ps.length * 5068 ∧ ps.flatten.length ≤ ps.length * 5000
  | [], _ => by simp
  | X :: ps, h => by
    obtain ⟨h1, h2⟩ := back_sizes ps (fun Y hY => h Y (by simp [hY]))
    have h3 := encK_len X (h X (by simp))
    have h4 := h X (by simp)
    rw [List.flatMap_cons, List.flatten_cons, List.length_append, List.length_append, List.length_cons]
    omega
set_option maxRecDepth 20000 in
set_option maxHeartbeats 16000000 in
theorem back_no (pP : Option Addr) (nP cP : Nat) (fs : List (B × B)) (pF : Option Addr) (nF cF : Nat) (hnF : fs.length = nF) (bh : ByteArray) (w : World) (hF : FAt w pF fs) (hsz : ∀ f ∈ fs, f.1.length ≤ 140737488355328 ∧ f.2.length ≤ 140737488355328) (hnn : nF ≤ 140737488355328) (hE : EnvK w) (he : lastE fs ≠ 0) :
    Calls Tryd.prog 3 #[.slice pP nP cP, .slice pF nF cF, .string bh] w fun e w' => e = .returned (.bool true) ∧ Below w.heap.size w w' := by
  have HE := hid hE
  have HL := hid (last_no fs pF nF cF hnF w hF hsz hnn he)
  rw [errOf_pos he] at HL
  clear hE hF hsz hnF hnn he
  go_enter Tryd.func3, Tryd.ntmps3
  go_wp2_with (first | (go_at_call 6; (with_reducible refine HL.out.mono ?_); rintro e w1 ⟨rfl, hb1⟩; have HB1 := hid hb1; have HE1 := hid (HE.out.next hb1); clear hb1) | (go_at_call 7; (with_reducible refine (works_any _ HE1.out).mono ?_); rintro e v8 ⟨rfl, hv8⟩; have HV8 := hid hv8; clear hv8))
  go_ret
  exact ⟨rfl, below_out HB1.out HV8.out⟩
/-- The text that is read again, and what was laid together. -/
structure BackT (w W : World) (q : Option Addr) (n c : Nat) (va : Value) (T A : B) : Prop where
  low : Below w.heap.size w W
  arg : ArgAt W q T
  cap : n ≤ c
  a : Own W w.heap.size va A
theorem BackT.next {w W W' : World} {q : Option Addr} {n c : Nat} {va : Value} {T A : B} (h : BackT w W q n c va T A) (hb : Below W.heap.size W W') : BackT w W' q n c va T A := ⟨h.low.trans (hb.mono h.low.size), h.arg.next hb, h.cap, h.a.keep hb⟩
theorem BackS.more {w W W' : World} {vl va v3 : Value} {q : Option Addr} {n c : Nat} {lst T A X : B} (h : BackS w W vl (.slice q n c) va lst T A) (_ : OwnM W' w.heap.size v3 X) (hg : W.grownBy W' (Value.slice q n c).ownBlock) (hA : ArgAt W' q T) : BackT w W' q n c va T A := by
  have og : Only (fun k => (Value.slice q n c).ownBlock = some k) W W' := Only.grown hg (fun k e => e)
  exact ⟨h.low.trans (og.below (fun k hk => own_ge h.t hk) h.low.size), hA, Own.cap h.t, own_only h.a og (fun k e e2 => h.ta k e2 e)⟩
set_option maxRecDepth 20000 in
set_option maxHeartbeats 16000000 in
theorem back_walk (ps : List B) (pP : Option Addr) (nP cP : Nat) (hnP : ps.length = nP) (fs : List (B × B)) (pF : Option Addr) (nF cF : Nat) (hnF : fs.length = nF) (bh : B) (hbh : bh.length ≤ 140737488355328) (w : World) (hP : PartsAt w pP ps) (hF : FAt w pF fs) (hsz : ∀ f ∈ fs, f.1.length ≤ 140737488355328 ∧ f.2.length ≤ 140737488355328) (hnn : nF ≤ 140737488355328) (hE : EnvK w) (he : lastE fs = 0) :
    Calls Tryd.prog 3 #[.slice pP nP cP, .slice pF nF cF, .string (str bh)] w fun e w' => e = .returned (.bool true) ∧ Below w.heap.size w w' := by
  have HE := hid hE
  have HP := hid hP
  have HFl := hid hF
  have HnF := hid hnF
  have HnP := hid hnP
  have HLe := hid he
  have HNn := hid hnn
  have hfb : (fs.flatMap fieldW).length ≤ 8192 := by
    rcases Nat.lt_or_ge 8192 (fs.flatMap fieldW).length with h | h
    · unfold lastE at he; split at he
      · rw [if_neg (by omega)] at he; simp at he
      · simp at he
    · exact h
  have hL := last_yes fs pF nF cF hnF w hF hsz hnn he
  obtain ⟨LL, hLL⟩ : ∃ LL, (lastK fs).length = LL := ⟨_, rfl⟩
  have hLe : LL = (fs.flatMap fieldW).length + 5 := by rw [← hLL]; unfold lastK; simp
  have HL0 := hid (show 0 < LL by omega)
  have hLb : LL ≤ 8197 := by omega
  have HLL := hid hLL
  rw [hLL] at hL
  have HL := hid hL
  clear hE hP hF hnF hnP he hfb hL hLL hLe hsz hnn
  go_enter Tryd.func3, Tryd.ntmps3
  go_wp2_with (go_at_call 6; (with_reducible refine HL.out.mono ?_); rintro e w1 ⟨q1, d1, rfl, ho1, hb1⟩; have HO1 := hid ho1; have HB1 := hid hb1; clear ho1 hb1 HL)
  go_loopg [9, 10, 11] (nP + 1) (fun gk s9 s10 s11 wr => ∃ i : Nat, s11 = .int .i64 (i : Int) ∧ i ≤ nP ∧ i ≤ 50 ∧ gk = nP - i + 1 ∧ (∀ X ∈ ps.take i, X.length ≤ 5000) ∧ BackS w wr (.slice q1 LL d1) s9 s10 (lastK fs) ((ps.take i).flatMap encK) (ps.take i).flatten)
  case atStart => exact ⟨0, rfl, by omega, by omega, rfl, fun X hX => by simp at hX, ⟨HB1.out, HO1.out, by simpa using Own.nil _ _, by simpa using Own.nil _ _, fun k e => by simp [Value.ownBlock] at e, fun k e => by simp [Value.ownBlock] at e, fun k e => by simp [Value.ownBlock] at e⟩⟩
  case round =>
    obtain ⟨i, rfl, hin, hi50, rfl, hks, hsc⟩ := hrel
    have HSc := hid hsc
    have HKs := hid hks
    obtain ⟨qt, mt, dt, rfl⟩ := own_slice3 hsc.t
    obtain ⟨qa, ma, da, rfl⟩ := own_slice3 hsc.a
    have HKl := hid (show (ps.take i).length ≤ 50 from by rw [List.length_take]; omega)
    clear hsc hks HO1 HB1
    by_cases hlt : i < nP
    · have hltI : (i : Int) < (nP : Int) := by omega
      by_cases h50 : i < 50
      · have h50I : (i : Int) < 50 := by omega
        obtain ⟨X, hX⟩ : ∃ X, ps[i]? = some X := ⟨ps[i]'(by rw [HnP.out]; exact hlt), List.getElem?_eq_getElem (by rw [HnP.out]; exact hlt)⟩
        obtain ⟨g, o, q, c, hp, hcell0, hAX0, hqn⟩ := HP.out i X hX
        subst hp
        have HX := hid hX
        have HAX := hid hAX0
        have hAX := hAX0.next HSc.out.low
        have HQn := hid hqn
        obtain ⟨n, hn⟩ : ∃ n, X.length = n := ⟨_, rfl⟩
        have Hn := hid hn
        rw [hn] at hcell0
        have HC0 := hid hcell0
        have hcell := cell_keep HSc.out.low hcell0
        clear hcell0 hAX0
        by_cases hbig : n ≤ 5000
        · have hbI : ¬ (5000 : Int) < (n : Int) := by omega
          obtain ⟨t1, t2⟩ := take_encs HX.out
          have HTk := hid (And.intro t1 t2)
          have hsz2 := back_sizes (ps.take i) HKs.out
          have hKl2 := HKl.out
          have htl := slice_part HSc.out.t
          have hal := slice_part HSc.out.a
          have HTl := hid htl
          have HAl := hid hal
          have hmt : mt ≤ 253400 := by rw [htl] at hsz2; omega
          have hma : ma ≤ 250000 := by rw [hal] at hsz2; omega
          have HEl := hid (encK_len X (by omega))
          have HT := hid (twin_any X q n c hn wr hAX hqn (by omega))
          clear hX hAX hqn hn t1 t2 hsz2 hKl2 htl hal
          go_wp2_with (first | (go_at_call 9; (with_reducible refine HT.out.mono ?_); rintro e u1 ⟨q2, d2, rfl, ho2, hb2⟩; have HS1 := hid (HSc.out.next hb2); have HEn := hid (enc_any X q2 n d2 Hn.out (by omega) u1 ho2.arg (HE.out.next HS1.out.low)); clear ho2 hb2 HT) | (go_at_call 8; (with_reducible refine HEn.out.mono ?_); rintro e u2 ⟨q3, m3, d3, rfl, ho3, hb3⟩; have HS2 := hid (HS1.out.next hb3); have HO3 := hid ho3; have hm3 := slice_part ho3; have HM3 := hid hm3; have hm3b : m3 ≤ 5068 := (by have := HEl.out; omega); clear ho3 hb3 HEn HS1 hm3) | (at_builtin; refine wpList_append_any rfl (.tmp 51) (.tmp 57) rfl w.heap.size (.slice qt mt dt) mt ((ps.take i).flatMap encK) (encK X) (by go_simp) HS2.out.t HTl.out q3 m3 d3 (by go_simp) HM3.out HO3.out.arg (own_nil HO3.out) (by omega) HS2.out.low.size ?_; intro q4 d4 u3 ho4 hg4 hv4; have HS3 := hid (HS2.out.appT hg4 ho4 hv4); have hcell3 := cell_keep HS3.out.low HC0.out; have HAx := hid (HAX.out.next HS3.out.low); clear ho4 hg4 hv4 HS2 HO3) | (at_builtin; refine wpList_append_any rfl (.tmp 59) (.tmp 63) rfl w.heap.size (.slice qa ma da) ma (ps.take i).flatten X (by go_simp) HS3.out.a HAl.out q n c (by go_simp) Hn.out HAx.out HQn.out (by omega) HS3.out.low.size ?_; intro q5 d5 u4 ho5 hg5 hv5; have HS4 := hid (HS3.out.appA hg5 ho5 hv5); clear ho5 hg5 hv5 HS3))
          go_roundg (nP - (i + 1) + 1)
          case measure => omega
          case rel =>
            refine ⟨i + 1, by go_num, by omega, by omega, rfl, fun Y hY => ?_, by rw [HTk.out.1, HTk.out.2]; exact HS4.out⟩
            rw [List.take_add_one, HX.out] at hY
            rcases List.mem_append.1 hY with h9 | h9
            · exact HKs.out Y h9
            · rw [show Y = X by simpa using h9, Hn.out]
              omega
        · have hbI : (5000 : Int) < (n : Int) := by omega
          have HEw := hid (HE.out.next HSc.out.low)
          clear hX hAX hqn hn hbig
          go_wp2_with (go_at_call 7; (with_reducible refine (works_any _ HEw.out).mono ?_); rintro e v8 ⟨rfl, hv8⟩; have HV8 := hid hv8; clear hv8)
          go_ret
          exact ⟨rfl, below_out HSc.out.low HV8.out⟩
      · have h50I : ¬ (i : Int) < 50 := by omega
        have hsz2 := back_sizes (ps.take i) HKs.out
        have hKl : (ps.take i).length ≤ 50 := HKl.out
        obtain ⟨T, hT⟩ : ∃ T, (ps.take i).flatMap encK = T := ⟨_, rfl⟩
        obtain ⟨A, hA⟩ : ∃ A, (ps.take i).flatten = A := ⟨_, rfl⟩
        have HS := hid (show BackS w wr (.slice q1 LL d1) (.slice qt mt dt) (.slice qa ma da) (lastK fs) T A from by rw [← hT, ← hA]; exact HSc.out)
        have htl : T.length = mt := slice_part HS.out.t
        have hal : A.length = ma := slice_part HS.out.a
        have HTl := hid htl
        have hmt : mt ≤ 253400 := by rw [hT, htl] at hsz2; omega
        have hma : ma ≤ 250000 := by rw [hA, hal] at hsz2; omega
        have HL2 := hid (show (T ++ lastK fs).length = mt + LL from by rw [List.length_append, htl, HLL.out])
        have HNe := hid (show T ++ lastK fs ≠ [] from fun e => by have h9 := congrArg List.length e; rw [HL2.out] at h9; simp at h9; have := HL0.out; omega)
        have hK6 : ∀ X ∈ (ps.take i), X.length ≤ 1048576 := fun X hX => by have := HKs.out X hX; omega
        obtain ⟨sF, hFed, hF1, hF2, hF3⟩ := fed_whole (ps.take i) hK6 fs HLe.out ma (by rw [hA, hal]; exact Nat.le_refl _)
        rw [hT, hA] at hFed
        obtain ⟨e1, e2, e3⟩ := hFed.ends (by unfold endedK; simp [hF2]) bh
        rw [HL2.out] at e2
        have HWh := hid (fun (U : World) (q3 : Option Addr) (d3 : Nat) (ho3 : OwnM U w.heap.size (.slice q3 (mt + LL + bh.length) d3) ((T ++ lastK fs) ++ bh)) => (show Calls Tryd.prog 10 #[.slice q3 (mt + LL + bh.length) d3, .int .i64 (ma : Int)] U (fun e w' => ∃ q d t dt, e = .returned (.tuple #[.slice q ma d, .slice t nF dt, .int .i64 ((mt + LL : Nat) : Int), .nilIface]) ∧ Own w' U.heap.size (.slice q ma d) A ∧ OwnF w' U.heap.size (.slice t nF dt) fs ∧ Below U.heap.size U w') from by
          have h9 := whole_c ((T ++ lastK fs) ++ bh) q3 (mt + LL + bh.length) d3 (by rw [List.length_append, HL2.out]) ho3.cap (by omega) ma (by omega) U ho3.arg2 (by rw [e1]; exact hF1) (by rw [e1]; exact hF2)
          rw [e1, e2, e3, hF3, hal, HnF.out] at h9
          exact h9))
        have HTA := hid (show str A = str A from rfl)
        obtain ⟨TA, hTA⟩ : ∃ TA, str A = TA := ⟨_, rfl⟩
        replace HTA := hid hTA
        push_cast at HWh
        have HOv := hid (show 0 < ma → (feedK (newK (ma - 1)) (T ++ lastK fs)).err = 33 from fun h0 => by rw [← hT]; exact fed_over (ps.take i) hK6 (ma - 1) (by rw [hA, hal]; omega) _)
        clear hsz2 hKl hT hA htl hK6 hFed hF1 hF2 hF3 e1 e2 e3 hTA HSc hal
        by_cases hm0 : ma = 0
        · have hm0I : ((ma : Int) == 0) = true := by rw [beq_iff_eq]; omega
          clear hm0 HOv
          go_wp2_with (first | (at_builtin; refine wpList_append_any rfl (.tmp 65) (.tmp 66) rfl w.heap.size (.slice qt mt dt) mt T (lastK fs) (by go_simp) HS.out.t HTl.out q1 LL d1 (by go_simp) HLL.out HS.out.l.arg2 HS.out.l.nil (by omega) HS.out.low.size ?_; intro q2 d2 u2 ho2 hg2 hv2; have HS2 := hid (HS.out.appT hg2 ho2 hv2); clear ho2 hg2 hv2 HS) | (at_builtin; refine wpList_append_W rfl (.tmp 71) (.tmp 72) rfl w.heap.size q2 (mt + LL) d2 (T ++ lastK fs) bh (by go_simp) HL2.out (HS2.out.t.toM HNe.out) (by go_simp) (by rw [HL2.out]; omega) HS2.out.low.size ?_; intro q3 d3 u3 ho3 hg3 hA3; have HS3 := hid (BackS.more HS2.out ho3 hg3 hA3); have HW := hid (HWh.out u3 q3 d3 ho3); clear ho3 hg3 hA3 HS2) | (go_at_call 10; (with_reducible refine HW.out.mono ?_); rintro e u4 ⟨qb, db, tq, td, rfl, hob, hot, hb4⟩; have HS4 := hid (HS3.out.next hb4); have hcb := conv_own hob; have hca := conv_own HS4.out.a; rw [HTA.out] at hcb hca; have HFs := hid (fields_same fs tq pF nF td cF HnF.out u4 hot.fat (HFl.out.next HS4.out.low) HNn.out); clear hob hot hb4 HW HS3) | (go_at_call 11; (with_reducible refine HFs.out.mono ?_); rintro e u5 ⟨rfl, hb5⟩; have HS5 := hid (HS4.out.next hb5); have HE5 := hid (HE.out.next HS5.out.low); clear hb5 HFs HS4 hcb hca) | (go_at_call 7; (with_reducible refine (works_any _ HE5.out).mono ?_); rintro e v8 ⟨rfl, hv8⟩; have HV8 := hid hv8; clear hv8))
          go_ret
          exact ⟨rfl, below_out HS5.out.low HV8.out⟩
        · have hm0I : ((ma : Int) == 0) = false := i_ne (b := 0) hm0
          have HWe := hid (fun (U : World) (q : Option Addr) (d : Nat) (hA : ArgAt U q (T ++ lastK fs)) (hc : mt + LL ≤ d) => (show Calls Tryd.prog 10 #[.slice q (mt + LL) d, .int .i64 ((ma : Int) - 1)] U (fun e w' => e = .returned (.tuple #[.slice none 0 0, .slice none 0 0, .int .i64 (feedN (newK (ma - 1)) (T ++ lastK fs) : Int), .iface 48 (.int .i64 33)]) ∧ Below U.heap.size U w') from by
            have h9 := whole_a (T ++ lastK fs) q (mt + LL) d HL2.out hc (by omega) (ma - 1) (by omega) U hA (HOv.out (by omega)) (by decide)
            rw [show ((ma - 1 : Nat) : Int) = (ma : Int) - 1 by omega] at h9
            exact h9))
          clear hm0 HOv
          go_wp2_with (first | (at_builtin; refine wpList_append_any rfl (.tmp 65) (.tmp 66) rfl w.heap.size (.slice qt mt dt) mt T (lastK fs) (by go_simp) HS.out.t HTl.out q1 LL d1 (by go_simp) HLL.out HS.out.l.arg2 HS.out.l.nil (by omega) HS.out.low.size ?_; intro q2 d2 u2 ho2 hg2 hv2; have HS2 := hid (HS.out.appT hg2 ho2 hv2); clear ho2 hg2 hv2 HS) | (at_builtin; refine wpList_append_W rfl (.tmp 71) (.tmp 72) rfl w.heap.size q2 (mt + LL) d2 (T ++ lastK fs) bh (by go_simp) HL2.out (HS2.out.t.toM HNe.out) (by go_simp) (by rw [HL2.out]; omega) HS2.out.low.size ?_; intro q3 d3 u3 ho3 hg3 hA3; have HS3 := hid (BackS.more HS2.out ho3 hg3 hA3); have HW := hid (HWh.out u3 q3 d3 ho3); clear ho3 hg3 hA3 HS2) | (go_at_call 10; (with_reducible refine HW.out.mono ?_); rintro e u4 ⟨qb, db, tq, td, rfl, hob, hot, hb4⟩; have HS4 := hid (HS3.out.next hb4); have hcb := conv_own hob; have hca := conv_own HS4.out.a; rw [HTA.out] at hcb hca; have HFs := hid (fields_same fs tq pF nF td cF HnF.out u4 hot.fat (HFl.out.next HS4.out.low) HNn.out); clear hob hot hb4 HW HS3) | (go_at_call 11; (with_reducible refine HFs.out.mono ?_); rintro e u5 ⟨rfl, hb5⟩; have HS5 := hid (HS4.out.next hb5); have HE5 := hid (HE.out.next HS5.out.low); clear hb5 HFs HS4 hcb hca) | (go_at_call 10; (with_reducible refine (HWe.out u5 q2 d2 HS5.out.arg (HS5.out.cap)).mono ?_); rintro e u6 ⟨rfl, hb6⟩; have HB6 := hid (below_out HS5.out.low hb6); have HE6 := hid (HE.out.next HB6.out); clear hb6) | (go_at_call 12; (with_reducible refine (num_1 33 _).mono ?_); rintro e z2 ⟨rfl, hz2⟩; subst z2) | (go_at_call 7; (with_reducible refine (works_any _ HE6.out).mono ?_); rintro e v8 ⟨rfl, hv8⟩; have HV8 := hid hv8; clear hv8))
          go_ret
          exact ⟨rfl, below_out HB6.out HV8.out⟩
    · have hltI : ¬ (i : Int) < (nP : Int) := by omega
      have hsz2 := back_sizes (ps.take i) HKs.out
      have hKl : (ps.take i).length ≤ 50 := HKl.out
      obtain ⟨T, hT⟩ : ∃ T, (ps.take i).flatMap encK = T := ⟨_, rfl⟩
      obtain ⟨A, hA⟩ : ∃ A, (ps.take i).flatten = A := ⟨_, rfl⟩
      have HS := hid (show BackS w wr (.slice q1 LL d1) (.slice qt mt dt) (.slice qa ma da) (lastK fs) T A from by rw [← hT, ← hA]; exact HSc.out)
      have htl : T.length = mt := slice_part HS.out.t
      have hal : A.length = ma := slice_part HS.out.a
      have HTl := hid htl
      have hmt : mt ≤ 253400 := by rw [hT, htl] at hsz2; omega
      have hma : ma ≤ 250000 := by rw [hA, hal] at hsz2; omega
      have HL2 := hid (show (T ++ lastK fs).length = mt + LL from by rw [List.length_append, htl, HLL.out])
      have HNe := hid (show T ++ lastK fs ≠ [] from fun e => by have h9 := congrArg List.length e; rw [HL2.out] at h9; simp at h9; have := HL0.out; omega)
      have hK6 : ∀ X ∈ (ps.take i), X.length ≤ 1048576 := fun X hX => by have := HKs.out X hX; omega
      obtain ⟨sF, hFed, hF1, hF2, hF3⟩ := fed_whole (ps.take i) hK6 fs HLe.out ma (by rw [hA, hal]; exact Nat.le_refl _)
      rw [hT, hA] at hFed
      obtain ⟨e1, e2, e3⟩ := hFed.ends (by unfold endedK; simp [hF2]) bh
      rw [HL2.out] at e2
      have HWh := hid (fun (U : World) (q3 : Option Addr) (d3 : Nat) (ho3 : OwnM U w.heap.size (.slice q3 (mt + LL + bh.length) d3) ((T ++ lastK fs) ++ bh)) => (show Calls Tryd.prog 10 #[.slice q3 (mt + LL + bh.length) d3, .int .i64 (ma : Int)] U (fun e w' => ∃ q d t dt, e = .returned (.tuple #[.slice q ma d, .slice t nF dt, .int .i64 ((mt + LL : Nat) : Int), .nilIface]) ∧ Own w' U.heap.size (.slice q ma d) A ∧ OwnF w' U.heap.size (.slice t nF dt) fs ∧ Below U.heap.size U w') from by
        have h9 := whole_c ((T ++ lastK fs) ++ bh) q3 (mt + LL + bh.length) d3 (by rw [List.length_append, HL2.out]) ho3.cap (by omega) ma (by omega) U ho3.arg2 (by rw [e1]; exact hF1) (by rw [e1]; exact hF2)
        rw [e1, e2, e3, hF3, hal, HnF.out] at h9
        exact h9))
      have HTA := hid (show str A = str A from rfl)
      obtain ⟨TA, hTA⟩ : ∃ TA, str A = TA := ⟨_, rfl⟩
      replace HTA := hid hTA
      push_cast at HWh
      have HOv := hid (show 0 < ma → (feedK (newK (ma - 1)) (T ++ lastK fs)).err = 33 from fun h0 => by rw [← hT]; exact fed_over (ps.take i) hK6 (ma - 1) (by rw [hA, hal]; omega) _)
      clear hsz2 hKl hT hA htl hK6 hFed hF1 hF2 hF3 e1 e2 e3 hTA HSc hal
      by_cases hm0 : ma = 0
      · have hm0I : ((ma : Int) == 0) = true := by rw [beq_iff_eq]; omega
        clear hm0 HOv
        go_wp2_with (first | (at_builtin; refine wpList_append_any rfl (.tmp 65) (.tmp 66) rfl w.heap.size (.slice qt mt dt) mt T (lastK fs) (by go_simp) HS.out.t HTl.out q1 LL d1 (by go_simp) HLL.out HS.out.l.arg2 HS.out.l.nil (by omega) HS.out.low.size ?_; intro q2 d2 u2 ho2 hg2 hv2; have HS2 := hid (HS.out.appT hg2 ho2 hv2); clear ho2 hg2 hv2 HS) | (at_builtin; refine wpList_append_W rfl (.tmp 71) (.tmp 72) rfl w.heap.size q2 (mt + LL) d2 (T ++ lastK fs) bh (by go_simp) HL2.out (HS2.out.t.toM HNe.out) (by go_simp) (by rw [HL2.out]; omega) HS2.out.low.size ?_; intro q3 d3 u3 ho3 hg3 hA3; have HS3 := hid (BackS.more HS2.out ho3 hg3 hA3); have HW := hid (HWh.out u3 q3 d3 ho3); clear ho3 hg3 hA3 HS2) | (go_at_call 10; (with_reducible refine HW.out.mono ?_); rintro e u4 ⟨qb, db, tq, td, rfl, hob, hot, hb4⟩; have HS4 := hid (HS3.out.next hb4); have hcb := conv_own hob; have hca := conv_own HS4.out.a; rw [HTA.out] at hcb hca; have HFs := hid (fields_same fs tq pF nF td cF HnF.out u4 hot.fat (HFl.out.next HS4.out.low) HNn.out); clear hob hot hb4 HW HS3) | (go_at_call 11; (with_reducible refine HFs.out.mono ?_); rintro e u5 ⟨rfl, hb5⟩; have HS5 := hid (HS4.out.next hb5); have HE5 := hid (HE.out.next HS5.out.low); clear hb5 HFs HS4 hcb hca) | (go_at_call 7; (with_reducible refine (works_any _ HE5.out).mono ?_); rintro e v8 ⟨rfl, hv8⟩; have HV8 := hid hv8; clear hv8))
        go_ret
        exact ⟨rfl, below_out HS5.out.low HV8.out⟩
      · have hm0I : ((ma : Int) == 0) = false := i_ne (b := 0) hm0
        have HWe := hid (fun (U : World) (q : Option Addr) (d : Nat) (hA : ArgAt U q (T ++ lastK fs)) (hc : mt + LL ≤ d) => (show Calls Tryd.prog 10 #[.slice q (mt + LL) d, .int .i64 ((ma : Int) - 1)] U (fun e w' => e = .returned (.tuple #[.slice none 0 0, .slice none 0 0, .int .i64 (feedN (newK (ma - 1)) (T ++ lastK fs) : Int), .iface 48 (.int .i64 33)]) ∧ Below U.heap.size U w') from by
          have h9 := whole_a (T ++ lastK fs) q (mt + LL) d HL2.out hc (by omega) (ma - 1) (by omega) U hA (HOv.out (by omega)) (by decide)
          rw [show ((ma - 1 : Nat) : Int) = (ma : Int) - 1 by omega] at h9
          exact h9))
        clear hm0 HOv
        go_wp2_with (first | (at_builtin; refine wpList_append_any rfl (.tmp 65) (.tmp 66) rfl w.heap.size (.slice qt mt dt) mt T (lastK fs) (by go_simp) HS.out.t HTl.out q1 LL d1 (by go_simp) HLL.out HS.out.l.arg2 HS.out.l.nil (by omega) HS.out.low.size ?_; intro q2 d2 u2 ho2 hg2 hv2; have HS2 := hid (HS.out.appT hg2 ho2 hv2); clear ho2 hg2 hv2 HS) | (at_builtin; refine wpList_append_W rfl (.tmp 71) (.tmp 72) rfl w.heap.size q2 (mt + LL) d2 (T ++ lastK fs) bh (by go_simp) HL2.out (HS2.out.t.toM HNe.out) (by go_simp) (by rw [HL2.out]; omega) HS2.out.low.size ?_; intro q3 d3 u3 ho3 hg3 hA3; have HS3 := hid (BackS.more HS2.out ho3 hg3 hA3); have HW := hid (HWh.out u3 q3 d3 ho3); clear ho3 hg3 hA3 HS2) | (go_at_call 10; (with_reducible refine HW.out.mono ?_); rintro e u4 ⟨qb, db, tq, td, rfl, hob, hot, hb4⟩; have HS4 := hid (HS3.out.next hb4); have hcb := conv_own hob; have hca := conv_own HS4.out.a; rw [HTA.out] at hcb hca; have HFs := hid (fields_same fs tq pF nF td cF HnF.out u4 hot.fat (HFl.out.next HS4.out.low) HNn.out); clear hob hot hb4 HW HS3) | (go_at_call 11; (with_reducible refine HFs.out.mono ?_); rintro e u5 ⟨rfl, hb5⟩; have HS5 := hid (HS4.out.next hb5); have HE5 := hid (HE.out.next HS5.out.low); clear hb5 HFs HS4 hcb hca) | (go_at_call 10; (with_reducible refine (HWe.out u5 q2 d2 HS5.out.arg (HS5.out.cap)).mono ?_); rintro e u6 ⟨rfl, hb6⟩; have HB6 := hid (below_out HS5.out.low hb6); have HE6 := hid (HE.out.next HB6.out); clear hb6) | (go_at_call 12; (with_reducible refine (num_1 33 _).mono ?_); rintro e z2 ⟨rfl, hz2⟩; subst z2) | (go_at_call 7; (with_reducible refine (works_any _ HE6.out).mono ?_); rintro e v8 ⟨rfl, hv8⟩; have HV8 := hid hv8; clear hv8))
        go_ret
        exact ⟨rfl, below_out HB6.out HV8.out⟩
theorem back_any (ps : List B) (pP : Option Addr) (nP cP : Nat) (hnP : ps.length = nP) (fs : List (B × B)) (pF : Option Addr) (nF cF : Nat) (hnF : fs.length = nF) (bh : B) (hbh : bh.length ≤ 140737488355328) (w : World) (hP : PartsAt w pP ps) (hF : FAt w pF fs) (hsz : ∀ f ∈ fs, f.1.length ≤ 140737488355328 ∧ f.2.length ≤ 140737488355328) (hnn : nF ≤ 140737488355328) (hE : EnvK w) :
    Calls Tryd.prog 3 #[.slice pP nP cP, .slice pF nF cF, .string (str bh)] w fun e w' => e = .returned (.bool true) ∧ Below w.heap.size w w' := by
  by_cases he : lastE fs = 0
  · exact back_walk ps pP nP cP hnP fs pF nF cF hnF bh hbh w hP hF hsz hnn hE he
  · exact back_no pP nP cP fs pF nF cF hnF (str bh) w hF hsz hnn hE he
end Go.Proofs.YtjjalgnpppegnaaDoor
