/- A request that goes on, by the document. -/
import Derived.Test.YtnlmjlfoeodleaaGreatDoorOQRef
namespace Go.Proofs.YtnlmjlfoeodleaaGreatDoor
open Go.RowKit

set_option maxRecDepth 20000 in
set_option maxHeartbeats 4000000 in
theorem dposts (m : B) (w : World) : Calls Tryz.prog 52 #[.string (str m)] w fun e w' => e = .returned (.bool (postB m)) ∧ w' = w := by
  by_cases h0 : m = [80, 79, 83, 84]
  · have HT := hid (show postB m = true from by rw [h0]; decide)
    rw [HT.out, h0]
    obtain ⟨S, hS⟩ : ∃ S, str [80, 79, 83, 84] = S := ⟨_, rfl⟩
    obtain rfl : (⟨#[80, 79, 83, 84]⟩ : ByteArray) = S := hS
    clear HT h0
    go_enter Tryz.func52, Tryz.ntmps52
    go_wp2
    go_ret
    exact ⟨rfl, rfl⟩
  by_cases h1 : m = [80, 85, 84]
  · have HT := hid (show postB m = true from by rw [h1]; decide)
    rw [HT.out, h1]
    obtain ⟨S, hS⟩ : ∃ S, str [80, 85, 84] = S := ⟨_, rfl⟩
    obtain rfl : (⟨#[80, 85, 84]⟩ : ByteArray) = S := hS
    clear HT h0 h1
    go_enter Tryz.func52, Tryz.ntmps52
    go_wp2
    go_ret
    exact ⟨rfl, rfl⟩
  by_cases h2 : m = [80, 65, 84, 67, 72]
  · have HT := hid (show postB m = true from by rw [h2]; decide)
    rw [HT.out, h2]
    obtain ⟨S, hS⟩ : ∃ S, str [80, 65, 84, 67, 72] = S := ⟨_, rfl⟩
    obtain rfl : (⟨#[80, 65, 84, 67, 72]⟩ : ByteArray) = S := hS
    clear HT h0 h1 h2
    go_enter Tryz.func52, Tryz.ntmps52
    go_wp2
    go_ret
    exact ⟨rfl, rfl⟩
  have HT := hid (show postB m = false from by unfold postB; rw [beq_ne h0, beq_ne h1, beq_ne h2]; decide)
  rw [HT.out]
  obtain ⟨S, hS⟩ : ∃ S, str m = S := ⟨_, rfl⟩
  obtain ⟨p0, q0⟩ := tl_ne hS h0
  replace p0 : (S.toList == (⟨#[80, 79, 83, 84]⟩ : ByteArray).toList) = false := p0
  obtain ⟨p1, q1⟩ := tl_ne hS h1
  replace p1 : (S.toList == (⟨#[80, 85, 84]⟩ : ByteArray).toList) = false := p1
  obtain ⟨p2, q2⟩ := tl_ne hS h2
  replace p2 : (S.toList == (⟨#[80, 65, 84, 67, 72]⟩ : ByteArray).toList) = false := p2
  rw [hS]
  clear HT hS h0 h1 h2
  go_enter Tryz.func52, Tryz.ntmps52
  go_wp2
  go_ret
  exact ⟨rfl, rfl⟩
set_option maxRecDepth 20000 in
set_option maxHeartbeats 4000000 in
theorem dsized (p : Option Addr) (n c e : Nat) (w : World) : Calls Tryz.prog 56 #[.slice p n c, .int .i64 (e : Int)] w fun r w' => r = .returned (.int .i64 (greatE n e : Int)) ∧ w' = w := by
  by_cases h1 : 64 < n
  · have HT := hid (show greatE n e = 21 from by unfold greatE; rw [if_pos h1])
    rw [HT.out]
    have h2 : (n : Int) > 64 := by omega
    go_enter Tryz.func56, Tryz.ntmps56
    go_wp2
    go_ret
    exact ⟨rfl, rfl⟩
  · have h2 : ¬ (n : Int) > 64 := by omega
    by_cases h22 : e = 22
    · subst h22
      have HT := hid (show greatE n 22 = 22 from by unfold greatE; rw [if_neg h1, if_pos rfl])
      rw [HT.out]
      go_enter Tryz.func56, Tryz.ntmps56
      go_wp2
      go_ret
      exact ⟨rfl, rfl⟩
    · have HT := hid (show greatE n e = 0 from by unfold greatE; rw [if_neg h1, if_neg h22])
      rw [HT.out]
      have h23 : ((e : Int) == 22) = false := by simp; omega
      have h24 : ¬ (e : Int) = 22 := by omega
      go_enter Tryz.func56, Tryz.ntmps56
      go_wp2
      go_ret
      exact ⟨rfl, rfl⟩
theorem onQ1_doc (fs : List (B × B)) : onQ1 fs = (stripF fs).filter (fun f => !inB f.1 frmL && !sameB (str f.1) (str expB)) := by
  unfold onQ1 framF frmA
  rw [if_neg (by decide), if_neg (by decide), List.append_nil, bare_filter]
  unfold delB
  rw [List.filter_filter]
  rfl
theorem setB_ne (fs : List (B × B)) (nm : ByteArray) (x : B × B) : setB fs nm x ≠ [] := by
  unfold setB
  split
  · rename_i h
    intro e
    unfold getB at h
    cases hf : fs.find? (isF nm) with
    | none => rw [hf] at h; cases h
    | some f =>
      have h1 := List.find?_some hf
      have h2 := List.mem_of_find?_eq_some hf
      have h3 : ∀ l : List (B × B), f ∈ l → setR nm x false l ≠ [] := by
        intro l
        induction l with
        | nil => intro h; cases h
        | cons y l ih =>
          intro hm
          by_cases hy : isF nm y = true
          · rw [setR_put hy]; simp
          · rw [setR_no (by simpa using hy)]; simp
      exact h3 fs h2 e
  · simp
theorem fat_some {W : World} {q : Option Addr} {F : List (B × B)} (h : FAt W q F) (hF : F ≠ []) : q ≠ none := by
  intro e
  rw [e] at h
  exact hF (fat_nilW h)
theorem fat_apart {W : World} {b o g : Nat} {F : List (B × B)} {s0 s1 x2 x3 : Value} {T : TypeId} (h : FAt W (some ⟨b, o, none⟩) F) (hF : 2 ≤ F.length) (hg : W.heap[g]? = some (.cells #[s0, s1, x2, x3] T (0, 0))) (h2 : ∀ s, x2 ≠ .string s) (h3 : ∀ s, x3 ≠ .string s) : b ≠ g := by
  intro e
  subst e
  obtain ⟨b1, o1, e1, c0, c1⟩ := h 0 (F[0]'(by omega)) (List.getElem?_eq_getElem _)
  obtain ⟨b2, o2, e2, c2, c3⟩ := h 1 (F[1]'(by omega)) (List.getElem?_eq_getElem _)
  injection e1 with e1; injection e1 with e3 e4
  injection e2 with e2; injection e2 with e5 e6
  subst e3 e4 e5 e6
  have hc := cells4O hg
  rcases o with _ | _ | _ | _ | o
  · have h9 : W.cell? ⟨b, 2, none⟩ = some (.string (str (F[1]'(by omega)).1)) := c2
    rw [hc.a2] at h9
    exact h2 _ (Option.some.inj h9)
  · have h9 : W.cell? ⟨b, 2, none⟩ = some (.string (str (F[0]'(by omega)).2)) := c1
    rw [hc.a2] at h9
    exact h2 _ (Option.some.inj h9)
  · have h9 : W.cell? ⟨b, 2, none⟩ = some (.string (str (F[0]'(by omega)).1)) := c0
    rw [hc.a2] at h9
    exact h2 _ (Option.some.inj h9)
  · have h9 : W.cell? ⟨b, 3, none⟩ = some (.string (str (F[0]'(by omega)).1)) := c0
    rw [hc.a3] at h9
    exact h3 _ (Option.some.inj h9)
  · have h9 : W.cell? ⟨b, o + 4, none⟩ = some (.string (str (F[0]'(by omega)).1)) := c0
    simp [World.cell?, hg] at h9
theorem fat_set4 {W : World} {q : Option Addr} {F : List (B × B)} {g : Nat} {s0 s1 x2 x3 : Value} {T : TypeId} (h : FAt W q F) (hF : 2 ≤ F.length) (hg : W.heap[g]? = some (.cells #[s0, s1, x2, x3] T (0, 0))) (h2 : ∀ s, x2 ≠ .string s) (h3 : ∀ s, x3 ≠ .string s) (c0 c1 c2 c3 : Value) : FAt ((((W.setCell ⟨g, 0, none⟩ c0).setCell ⟨g, 1, none⟩ c1).setCell ⟨g, 2, none⟩ c2).setCell ⟨g, 3, none⟩ c3) q F := by
  intro j f hj
  obtain ⟨b, o, rfl, e0, e1⟩ := h j f hj
  have hne := fat_apart h hF hg h2 h3
  exact ⟨b, o, rfl, by rw [keep4O hne]; exact e0, by rw [keep4O hne]; exact e1⟩
theorem onQ2_two (fs : List (B × B)) (cl : B) (k : Int) : 2 ≤ (onQ2 fs cl k).length := by
  unfold onQ2 viaF
  rw [List.length_append]
  have h := setB_ne (onQ1 fs) (str xfB) (xfB, fwdV (onQ1 fs) cl)
  have h2 : 0 < (fwdF (onQ1 fs) cl).length := List.length_pos_iff.2 h
  simp only [List.length_cons, List.length_nil]
  omega
theorem onQ_two (m : B) (fs : List (B × B)) (cl : B) (k L : Int) : 2 ≤ (onQ m fs cl k L).length := by
  have h := onQ2_two fs cl k
  unfold onQ
  split
  · rw [List.length_append]; omega
  · exact h
theorem own_argsO {W : World} {b n d : Nat} {q : Option Addr} {fs : List (B × B)} (h : OwnF W b (.slice q n d) fs) : q = none → d = 0 := by
  rcases h.2 with ⟨h1, _⟩ | ⟨g, cap, cur, h1, _, _, h4, _⟩
  · cases h1
    exact fun _ => rfl
  · cases h1
    exact fun e => by cases e
structure RtD (w W : World) (A : Array Value) (q : Option Addr) (g9 : Nat) (F : List (B × B)) : Prop where
  low : Below w.heap.size w W
  rz : W.heap[w.heap.size + 1]? = some (.cells #[.string ⟨#[]⟩, .string ⟨#[]⟩, .int .i64 0, .slice none 0 0] 54 (0, 0))
  nw : W.heap[g9]? = some (.cells A 54 (0, 0))
  row : FAt W q F
theorem RtD.next {w W W' : World} {A : Array Value} {q : Option Addr} {g9 : Nat} {F : List (B × B)} (h : RtD w W A q g9 F) (hb : Below W.heap.size W W') : RtD w W' A q g9 F := ⟨below_out h.low hb, (hb.block _ (lt_of_heap h.rz)).trans h.rz, (hb.block _ (lt_of_heap h.nw)).trans h.nw, h.row.next hb⟩
/-- What the document's Request answers. -/
def DAns (m t : B) (F : List (B × B)) (w : World) (e : Ending) (w' : World) : Prop :=
  (greatE F.length (reqE m t 1 F) ≠ 0 ∧ e = .returned (.tuple #[.agg #[.string ⟨#[]⟩, .string ⟨#[]⟩, .int .i64 0, .slice none 0 0], .int .i64 (greatE F.length (reqE m t 1 F) : Int)]) ∧ Below w.heap.size w w') ∨
  (greatE F.length (reqE m t 1 F) = 0 ∧ ∃ q d, e = .returned (.tuple #[.agg #[.string (str m), .string (str t), .int .i64 1, .slice q F.length d], .int .i64 0]) ∧ FAt w' q F ∧ Below w.heap.size w w')
set_option maxRecDepth 20000 in
set_option maxHeartbeats 32000000 in
theorem dreq_p (m t : B) (k : Int) (fs : List (B × B)) (p : Option Addr) (n c : Nat) (hn : fs.length = n) (cl : B) (L : Int) (w : World) (hF : FAt w p fs) (hsz : szN fs) (hnn : n ≤ 1000) (hm : m.length ≤ 1048576) (ht : t.length ≤ 1048576) (hcl : cl.length ≤ 1048576) (hL0 : -9223372036854775808 ≤ L) (hL1 : L ≤ 9223372036854775807) (hF1z : szC 1048576 (onQ m fs cl k L)) (hLp : 0 < L) :
    Calls Tryz.prog 22 #[.agg #[.string (str m), .string (str t), .int .i64 k, .slice p n c], .string (str cl), .int .i64 L] w fun e w' => DAns m t (onQ m fs cl k L) w e w' := by
  have hTl : tellsB m L = true := by unfold tellsB; split <;> simp <;> omega
  have h1z : szC 1048576 (onQ1 fs) := fun f hf => hsz f (onQ1_mem hf)
  have h1w := szC_W h1z (by decide)
  have h0w : szW (stripF fs) := fun f hf => szC_W (C := 1048576) hsz (by decide) f (List.mem_filter.1 hf).1
  have HSt := hid (show ∀ W : World, Below w.heap.size w W → _ from fun W hb => dstrip fs p n c hn W (hF.next hb) hsz hnn)
  have hl0 := stripF_le fs
  have hl2 := onQ1_len fs
  have hl3 := fwdF_len (onQ1 fs) cl
  have hdoc := onQ1_doc fs
  obtain ⟨P, hP⟩ : ∃ P : B × B → Bool, (fun f : B × B => !inB f.1 frmL && !sameB (str f.1) (str expB)) = P := ⟨_, rfl⟩
  have HPe := hid (fun f : B × B => show (!inB f.1 frmL && !sameB (str f.1) (str expB)) = P f from by rw [← hP])
  rw [hP] at hdoc
  have HFw := hid (show ∀ (W : World) (q : Option Addr) (s d : Nat), (onQ1 fs).length = s → FAt W q (onQ1 fs) → (q = none → d = 0) → _ from fun W q s d hs h hc0 => dforwarded (onQ1 fs) cl q s d hs hc0 W h h1w (by omega) (Nat.le_trans hcl (by decide)) (fun f hf => Nat.le_trans (h1z f hf).2 (by decide)))
  have HVi := hid (show ∀ (W : World) (q : Option Addr) (d : Nat), FAt W q (fwdF (onQ1 fs) cl) → _ from fun W q d h => dvia (fwdF (onQ1 fs) cl) k q (fwdF (onQ1 fs) cl).length d rfl (fun e => absurd e (fat_some h (setB_ne _ _ _))) W h (by omega))
  rw [show viaF (fwdF (onQ1 fs) cl) k = onQ2 fs cl k from rfl] at HVi
  have hl4 : (onQ2 fs cl k).length = (fwdF (onQ1 fs) cl).length + 1 := by
    unfold onQ2 viaF
    rw [List.length_append]
    rfl
  have HL4 := hid hl4
  have HTx := hid (show ∀ W : World, _ from fun W => dtext L W hL0 hL1)
  have HAd0 := hid (show ∀ (W : World) (q : Option Addr) (s d : Nat), (onQ2 fs cl k).length = s → FAt W q (onQ2 fs cl k) → _ from fun W q s d hs h => dadd (onQ2 fs cl k) q s d hs clB (Lib.itoa L) W h (fun e => absurd e (fat_some h (by intro e9; have := onQ2_two fs cl k; rw [e9] at this; simp at this))) (by omega))
  obtain ⟨TX, hTX⟩ : ∃ X, str (Lib.itoa L) = X := ⟨_, rfl⟩
  rw [hTX] at HTx HAd0
  have HAd := hid (show ∀ (W : World) (q : Option Addr) (s d : Nat), (onQ2 fs cl k).length = s → FAt W q (onQ2 fs cl k) → Calls Tryz.prog 53 #[.slice q s d, .string (⟨#[67, 111, 110, 116, 101, 110, 116, 45, 76, 101, 110, 103, 116, 104]⟩ : ByteArray), .string TX] W _ from HAd0.out)
  have hlF : (onQ m fs cl k L).length ≤ 100000 := by
    unfold onQ
    rw [if_pos hTl, List.length_append]
    simp only [List.length_cons, List.length_nil]
    omega
  have h2F := onQ_two m fs cl k L
  obtain ⟨F, hFF⟩ : ∃ F, onQ m fs cl k L = F := ⟨_, rfl⟩
  rw [hFF] at hF1z h2F
  rw [hFF]
  have H2F := hid h2F
  have HWr := hid (show ∀ (W : World) (q : Option Addr) (s d : Nat), F.length = s → FAt W q F → _ from fun W q s d hs h => rreq_e m t 1 F q s d hs W h hF1z (by rw [← hs, ← hFF]; exact hlF) hm ht)
  have HFe := hid (show onQ2 fs cl k ++ [(clB, Lib.itoa L)] = F from by rw [← hFF]; unfold onQ; rw [if_pos hTl])
  have HSzd := hid (show ∀ (W : World) (q : Option Addr) (s d e : Nat), _ from fun W q s d e => dsized q s d e W)
  unfold DAns
  obtain ⟨e0, he0⟩ : ∃ e0, reqE m t 1 F = e0 := ⟨_, rfl⟩
  rw [he0] at HWr
  rw [he0]
  obtain ⟨M, hM⟩ : ∃ M, str m = M := ⟨_, rfl⟩
  obtain ⟨T, hT⟩ : ∃ T, str t = T := ⟨_, rfl⟩
  obtain ⟨CC, hCC⟩ : ∃ C, str cl = C := ⟨_, rfl⟩
  rw [hM] at HWr
  rw [hT] at HWr
  rw [hCC] at HFw
  rw [hM, hT, hCC]
  obtain ⟨X0, hX0⟩ : ∃ X, stripF fs = X := ⟨_, rfl⟩
  rw [hX0] at HSt hdoc h0w hl0
  obtain ⟨s0, hs0⟩ : ∃ s, X0.length = s := ⟨_, rfl⟩
  rw [hs0] at hl0
  have HS0 := hid hs0
  have HZ0 := hid h0w
  obtain ⟨X2, hX2⟩ : ∃ X, onQ1 fs = X := ⟨_, rfl⟩
  rw [hX2] at HFw HVi hdoc HL4
  have HDc := hid hdoc
  obtain ⟨X3, hX3⟩ : ∃ X, fwdF X2 cl = X := ⟨_, rfl⟩
  rw [hX3] at HFw HVi HL4
  obtain ⟨X4, hX4⟩ : ∃ X, onQ2 fs cl k = X := ⟨_, rfl⟩
  rw [hX4] at HVi HFe HL4 HAd
  have HR0 := hid (RqO.start w #[.string M, .string T, .int .i64 k, .slice p n c])
  obtain ⟨i0, hi0, hz0, hz1, hz2⟩ := info_parts infoF
  clear hF hsz hF1z h1z h1w hl2 hl3 hl4 hFF he0 hM hT hCC hX0 hX2 hX3 hX4 hTl hlF hP hs0 hdoc h0w h2F hm ht hcl hTX HAd0
  go_enter Tryz.func22, Tryz.ntmps22
  obtain ⟨y0, y1, y2, y3, _⟩ := cells4O HR0.out.bx
  go_wp2_with (go_at_call 47; (with_reducible refine (HSt.out _ HR0.out.low).mono ?_); rintro e w1 ⟨v1, rfl, ho, hb⟩; obtain ⟨q1, d1, rfl⟩ : ∃ q d, v1 = .slice q s0 d := (by have h9 := own_slice ho; rw [HS0.out] at h9; exact h9); have HR1 := hid (HR0.out.next hb); have HF1 := hid (OwnF.fat ho); clear hb ho HSt HR0 y0 y1 y2 y3)
  go_loopg [8, 10] (s0 + 1) (fun gk s8 s10 wr => ∃ (i : Nat) (q : Option Addr) (kk d : Nat), s8 = .slice q kk d ∧ s10 = .int .i64 (i : Int) ∧ i ≤ s0 ∧ gk = s0 - i + 1 ∧ ((X0.take i).filter P).length = kk ∧ OwnF wr w1.heap.size (.slice q kk d) ((X0.take i).filter P) ∧ Below w1.heap.size w1 wr)
  case atStart => exact ⟨0, none, 0, 0, rfl, rfl, by omega, rfl, rfl, OwnF.nil _ _, Below.refl _ _⟩
  case round =>
    obtain ⟨i, q, kk, d, rfl, rfl, hin, rfl, hk, ho, hb⟩ := hrel
    rename World => wr
    have hki : kk ≤ i := by rw [← hk]; exact filt_le i
    have HO := hid ho
    have HB := hid hb
    have HK := hid hk
    clear ho hb hk
    by_cases hlt : i < s0
    · obtain ⟨f, hf⟩ : ∃ f, X0[i]? = some f := ⟨X0[i]'(by rw [HS0.out]; exact hlt), List.getElem?_eq_getElem (by rw [HS0.out]; exact hlt)⟩
      obtain ⟨g, oo, hp, c0, c1⟩ := (HF1.out.next HB.out) i f hf
      subst hp
      have hltI : (i : Int) < (s0 : Int) := by omega
      obtain ⟨z1, z2⟩ := HZ0.out f (List.mem_of_getElem? hf)
      have HI1 := hid (show ∀ W : World, _ from fun W => dframe1 f.1 W z1)
      have HSm := hid (show ∀ W : World, _ from fun W => rsame_any (str f.1) (str expB) W (by rw [str_size]; exact z1) (by decide))
      have hpe := HPe.out f
      have HYy := hid (fun (h : P f = true) => filt_yes (P := P) hf h)
      have HYn := hid (fun (h : P f = false) => filt_no (P := P) hf h)
      obtain ⟨N, hN⟩ : ∃ N, str f.1 = N := ⟨_, rfl⟩
      obtain ⟨V, hV⟩ : ∃ V, str f.2 = V := ⟨_, rfl⟩
      have HNN := hid hN
      have HVV := hid hV
      obtain ⟨R1, h1⟩ : ∃ R, inB f.1 frmL = R := ⟨_, rfl⟩
      obtain ⟨R2, h2⟩ : ∃ R, sameB (str f.1) (str expB) = R := ⟨_, rfl⟩
      rw [h1] at HI1 hpe
      rw [h2] at HSm hpe
      rw [hN] at c0 HI1 HSm
      rw [hV] at c1
      have HSm2 := hid (show ∀ W : World, Calls Tryz.prog 49 #[.string N, .string (⟨#[69, 120, 112, 101, 99, 116]⟩ : ByteArray)] W fun e w' => e = .returned (.bool R2) ∧ Below W.heap.size W w' from HSm.out)
      clear hf hN hV z1 z2 h1 h2 HSm
      cases R1 with
      | true =>
        have HY := hid (HYn.out (by rw [← hpe]; rfl))
        clear hpe
        go_wp2_with (go_at_call 48; (with_reducible refine (HI1.out _).mono ?_); rintro e w2 ⟨rfl, hb⟩; have HB2 := hid (below_out HB.out hb); have HO2 := hid (HO.out.keep hb); have x0 := cell_keep hb c0; have x1 := cell_keep hb c1; clear hb HI1 c0 c1)
        go_roundg (s0 - (i + 1) + 1)
        case measure => omega
        case rel => exact ⟨i + 1, q, kk, d, rfl, by go_num, by omega, rfl, by rw [HY.out]; exact HK.out, by rw [HY.out]; exact HO2.out, HB2.out⟩
      | false =>
        cases R2 with
        | true =>
          have HY := hid (HYn.out (by rw [← hpe]; rfl))
          clear hpe
          go_wp2_with (first | (go_at_call 48; (with_reducible refine (HI1.out _).mono ?_); rintro e w2 ⟨rfl, hb⟩; have HB2 := hid (below_out HB.out hb); have HO2 := hid (HO.out.keep hb); have x0 := cell_keep hb c0; have x1 := cell_keep hb c1; clear hb HI1 c0 c1) | (go_at_call 49; (with_reducible refine (HSm2.out _).mono ?_); rintro e w3 ⟨rfl, hb⟩; have HB3 := hid (below_out HB2.out hb); have HO3 := hid (HO2.out.keep hb); have u0 := cell_keep hb x0; have u1 := cell_keep hb x1; clear hb HSm2 x0 x1))
          go_roundg (s0 - (i + 1) + 1)
          case measure => omega
          case rel => exact ⟨i + 1, q, kk, d, rfl, by go_num, by omega, rfl, by rw [HY.out]; exact HK.out, by rw [HY.out]; exact HO3.out, HB3.out⟩
        | false =>
          have HY := hid (HYy.out (by rw [← hpe]; rfl))
          clear hpe
          go_wp2_with (first | (go_at_call 48; (with_reducible refine (HI1.out _).mono ?_); rintro e w2 ⟨rfl, hb⟩; have HB2 := hid (below_out HB.out hb); have HO2 := hid (HO.out.keep hb); have x0 := cell_keep hb c0; have x1 := cell_keep hb c1; clear hb HI1 c0 c1) | (go_at_call 49; (with_reducible refine (HSm2.out _).mono ?_); rintro e w3 ⟨rfl, hb⟩; have HB3 := hid (below_out HB2.out hb); have HO3 := hid (HO2.out.keep hb); have u0 := cell_keep hb x0; have u1 := cell_keep hb x1; clear hb HSm2 x0 x1) | (at_builtin; refine wpList_append_own _ rfl (.tmp 40) (.tmp 45) 33 rfl w1.heap.size 88 i0 _ 2 32 Tryz.underlying33 hi0 hz0 hz1 hz2 rfl (by decide) (.slice q kk d) kk (fldC ((X0.take i).filter P)) (by go_simp) (by have h9 := HO3.out.alloc (.cells #[.string N, .string V] 88 (0, 0)); unfold OwnF at h9; rw [HK.out] at h9; exact h9) ⟨w3.heap.size, 0, none⟩ 1 1 [.string N, .string V] (by go_simp) rfl (cells_new w3 _ _) (by simp [Value.oneCell']) (by unfold maxLen; omega) (by omega) (Nat.le_trans HB3.out.size (below_new _ _).size) ?_; intro v' w7 hown' hgrow _; have HB7 := hid (app_below' HB3.out HB3.out.size HO3.out hgrow); obtain ⟨q', d', rfl⟩ := own_slice hown'; have HO7 := hid (show OwnF w7 w1.heap.size (.slice q' (kk + 1) d') ((X0.take i).filter P ++ [f]) from OwnF.snocW HK.out.symm HNN.out HVV.out hown'); clear hown' hgrow))
          go_roundg (s0 - (i + 1) + 1)
          case measure => omega
          case rel => exact ⟨i + 1, q', kk + 1, d', rfl, by go_num, by omega, rfl, by rw [HY.out, List.length_append, HK.out]; rfl, by rw [HY.out]; exact HO7.out, HB7.out⟩
    · obtain rfl : i = s0 := by omega
      have hltI : ¬ (i : Int) < (i : Int) := by omega
      have HT0 := hid (show (X0.take i).filter P = X2 from by rw [List.take_of_length_le (by rw [HS0.out]; exact Nat.le_refl _)]; exact HDc.out.symm)
      rw [HT0.out] at HO HK
      have HR2 := hid (HR1.out.next HB.out)
      clear hlt HT0
      go_wp2
      have HR4 := hid (show RqO w wr.drew #[.string M, .string T, .int .i64 k, .slice p n c] from HR2.out.next ⟨rfl, rfl, rfl, Nat.le_refl _, fun _ _ => rfl⟩)
      have HO4 := hid (show OwnF wr.drew w1.heap.size (.slice q kk d) X2 from HO.out.keep ⟨rfl, rfl, rfl, Nat.le_refl _, fun _ _ => rfl⟩)
      generalize hW4 : wr.drew = w4 at HR4 HO4
      refine wp_region_noPanic ?_
      refine any_begin 7 (by kernel_rfl) (by kernel_rfl) ?_
      rw [hW4]
      clear hW4 HR2 HO HB
      refine late_begin (fun U => Cells4O U w.heap.size (.string M) (.string T) (.int .i64 k) (.slice p n c)) (fun _ => false) (show Cells4O w4 w.heap.size (.string M) (.string T) (.int .i64 k) (.slice p n c) from cells4O HR4.out.bx) (fun hS => ?_)
      refine late_take (i := 0) (some 47) rfl rfl (by kernel_rfl) (by kernel_rfl) (by kernel_rfl) (by kernel_rfl) (by kernel_rfl) (fun _ _ _ h => h) (by rfl) (v := ?v0r8dreq_p) ?hy0r8dreq_p hS ?rest0r8dreq_p
      case hy0r8dreq_p => intro w0 hSw; obtain ⟨a0, a1, a2, a3, _⟩ := hSw; go_simp; try with_reducible rfl
      simp only [Act.put, List.setIfInBounds_toArray, List.set_cons_zero, List.set_cons_succ]
      refine late_take (i := 1) (some 48) rfl rfl (by kernel_rfl) (by kernel_rfl) (by kernel_rfl) (by kernel_rfl) (by kernel_rfl) (fun _ _ _ h => h) (by rfl) (v := ?v1r8dreq_p) ?hy1r8dreq_p hS ?rest1r8dreq_p
      case hy1r8dreq_p => intro w0 hSw; obtain ⟨a0, a1, a2, a3, _⟩ := hSw; go_simp; try with_reducible rfl
      simp only [Act.put, List.setIfInBounds_toArray, List.set_cons_zero, List.set_cons_succ]
      refine late_take (i := 3) (some 50) rfl rfl (by kernel_rfl) (by kernel_rfl) (by kernel_rfl) (by kernel_rfl) (by kernel_rfl) (fun _ _ _ h => h) (by rfl) (v := ?v3r8dreq_p) ?hy3r8dreq_p hS ?rest3r8dreq_p
      case hy3r8dreq_p => intro w0 hSw; obtain ⟨a0, a1, a2, a3, _⟩ := hSw; go_simp; try with_reducible rfl
      simp only [Act.put, List.setIfInBounds_toArray, List.set_cons_zero, List.set_cons_succ]
      refine late_take (i := 4) (some 51) rfl rfl (by kernel_rfl) (by kernel_rfl) (by kernel_rfl) (by kernel_rfl) (by kernel_rfl) (fun _ _ _ h => h) (by rfl) (v := ?v4r8dreq_p) ?hy4r8dreq_p hS ?rest4r8dreq_p
      case hy4r8dreq_p => intro w0 hSw; obtain ⟨a0, a1, a2, a3, _⟩ := hSw; go_simp; try with_reducible rfl
      simp only [Act.put, List.setIfInBounds_toArray, List.set_cons_zero, List.set_cons_succ]
      refine wpAnyD_one (i := 2) (by kernel_rfl) rfl (fun K' hK => ?_)
      go_simp
      go_at_call 51
      refine (HFw.out _ _ _ _ HK.out HO4.out.fat (own_argsO HO4.out)).mono ?_
      rintro e w5 ⟨q5, d5, rfl, hf5, hb⟩
      have HR5 := hid (HR4.out.next hb)
      have HK5 := hid hf5
      have hS5 : Cells4O w5 w.heap.size (.string M) (.string T) (.int .i64 k) (.slice p n c) := cells4O HR5.out.bx
      refine hK _ _ ⟨fun _ => hS5, ?_⟩
      clear hK K' hb hf5 HFw HR4 HO4 hS
      refine wpAnyD_one (i := 5) (by kernel_rfl) rfl (fun K' hK => ?_)
      go_simp
      go_at_call 50
      refine (HVi.out _ _ _ HK5.out).mono ?_
      rintro e w6 ⟨q6, d6, rfl, hf6, hb⟩
      have HR6 := hid (HR5.out.next hb)
      have HK6 := hid hf6
      have hS6 : Cells4O w6 w.heap.size (.string M) (.string T) (.int .i64 k) (.slice p n c) := cells4O HR6.out.bx
      refine hK _ _ ⟨fun _ => hS6, ?_⟩
      clear hK K' hb hf6 HVi HR5 HK5 hS5
      refine late_take (i := 6) (some 8) rfl rfl (by kernel_rfl) (by kernel_rfl) (by kernel_rfl) (by kernel_rfl) (by kernel_rfl) (fun _ _ _ h => h) (by rfl) (v := ?v6r8dreq_p) ?hy6r8dreq_p hS6 ?rest6r8dreq_p
      case hy6r8dreq_p => intro w0 hSw; obtain ⟨a0, a1, a2, a3, _⟩ := hSw; go_simp; try with_reducible rfl
      simp only [Act.put, List.setIfInBounds_toArray, List.set_cons_zero, List.set_cons_succ]
      refine late_done (by kernel_rfl) ?_ _
      refine NoPanic.normal ?_
      clear hS6
      obtain ⟨y0, y1, y2, y3, _⟩ := cells4O HR6.out.bx
      have HNF := hid (show F.length = (X3.length + 1 + 1) from by rw [← HFe.out, List.length_append, HL4.out]; rfl)
      by_cases hgr : greatE F.length e0 = 0
      · as_aux_lemma =>
          have HGr := hid (show ∀ (W : World) (q : Option Addr) (d : Nat), Calls Tryz.prog 56 #[.slice q (X3.length + 1 + 1) d, .int .i64 (e0 : Int)] W fun r w' => r = .returned (.int .i64 0) ∧ w' = W from fun W q d => by
            have h := HSzd.out W q (X3.length + 1 + 1) d e0
            rw [← HNF.out, hgr] at h
            rw [← HNF.out]
            exact h)
          
          have HGz := hid hgr
          clear hgr HSzd
          go_wp2_with (first | (go_at_call 54; (with_reducible refine (HTx.out _).mono ?_); rintro e w8 ⟨rfl, hb⟩; have HR8 := hid (HR6.out.next hb); have HK8 := hid (HK6.out.next hb); clear hb HTx HR6 HK6 y0 y1 y2 y3) | (go_at_call 53; (with_reducible refine (HAd.out _ _ _ _ HL4.out HK8.out).mono ?_); rintro e w9 ⟨q9, d9, rfl, hf9, hb⟩; have HR9 := hid (HR8.out.next hb); have HK9 := hid hf9; rw [HFe.out] at HK9; have HN9 := hid (show F.length = X3.length + 1 + 1 from by rw [← HFe.out, List.length_append, HL4.out]; rfl); obtain ⟨y0, y1, y2, y3, _⟩ := cells4O HR9.out.bx; clear hb hf9 HAd HR8 HK8) | (go_at_call 55; have HT5 := hid (show RtD w (w9.alloc (.cells #[.string M, .string T, .int .i64 1, .slice q9 (X3.length + 1 + 1) d9] 54 (0, 0))) #[.string M, .string T, .int .i64 1, .slice q9 (X3.length + 1 + 1) d9] q9 w9.heap.size F from ⟨below_out HR9.out.low (below_new _ _), ((below_new w9 _).block _ (lt_of_heap HR9.out.rz)).trans HR9.out.rz, heap_alloc_new w9 _, HK9.out.next (below_new _ _)⟩); (with_reducible refine (HWr.out _ _ _ _ HN9.out HT5.out.row).mono ?_); rintro e w10 ⟨v10, rfl, hb⟩; have HT10 := hid (HT5.out.next hb); obtain ⟨c0, c1, c2, c3, _⟩ := cells4O HT10.out.nw; obtain ⟨z0, z1, z2, z3, zz⟩ := cells4O HT10.out.rz; have zz0 := zz 0; have zz1 := zz 1; have zz2 := zz 2; have zz3 := zz 3; clear zz hb HWr HT5 y0 y1 y2 y3) | (go_at_call 56; (with_reducible refine (HGr.out _ _ _).mono ?_); rintro e w11 ⟨rfl, hw11⟩; subst w11; clear HGr))
          (try simp only [Exit.inBlock, Exit.then])
          refine bodyPost_ret (results_reqO rfl _ _ _ 54 _ (0, 0) rfl (fourCO HT10.out.rz _ _ _ _) rfl) rfl ?_
          refine .inr ⟨HGz.out, q9, d9, ?_, fat_set4 HT10.out.row H2F.out HT10.out.rz (fun s e => by cases e) (fun s e => by cases e) _ _ _ _, ?_⟩
          · rw [HNF.out]
            rfl
          · iterate 4 refine Below.setCell ?_ (Nat.le_succ _) _
            exact HT10.out.low
      · as_aux_lemma =>
          obtain ⟨ge, hge⟩ : ∃ ge : Int, (greatE F.length e0 : Int) = ge := ⟨_, rfl⟩
          have hge0 : (ge != 0) = true := by simp; omega
          have hge1 : ¬ ge = 0 := by omega
          have HGE := hid hge
          
          have HGr := hid (show ∀ (W : World) (q : Option Addr) (d : Nat), Calls Tryz.prog 56 #[.slice q (X3.length + 1 + 1) d, .int .i64 (e0 : Int)] W fun r w' => r = .returned (.int .i64 ge) ∧ w' = W from fun W q d => by
            have h := HSzd.out W q (X3.length + 1 + 1) d e0
            rw [← HNF.out, hge] at h
            rw [← HNF.out]
            exact h)
          
          have HGz := hid hgr
          clear hgr HSzd hge
          go_wp2_with (first | (go_at_call 54; (with_reducible refine (HTx.out _).mono ?_); rintro e w8 ⟨rfl, hb⟩; have HR8 := hid (HR6.out.next hb); have HK8 := hid (HK6.out.next hb); clear hb HTx HR6 HK6 y0 y1 y2 y3) | (go_at_call 53; (with_reducible refine (HAd.out _ _ _ _ HL4.out HK8.out).mono ?_); rintro e w9 ⟨q9, d9, rfl, hf9, hb⟩; have HR9 := hid (HR8.out.next hb); have HK9 := hid hf9; rw [HFe.out] at HK9; have HN9 := hid (show F.length = X3.length + 1 + 1 from by rw [← HFe.out, List.length_append, HL4.out]; rfl); obtain ⟨y0, y1, y2, y3, _⟩ := cells4O HR9.out.bx; clear hb hf9 HAd HR8 HK8) | (go_at_call 55; have HT5 := hid (show RtD w (w9.alloc (.cells #[.string M, .string T, .int .i64 1, .slice q9 (X3.length + 1 + 1) d9] 54 (0, 0))) #[.string M, .string T, .int .i64 1, .slice q9 (X3.length + 1 + 1) d9] q9 w9.heap.size F from ⟨below_out HR9.out.low (below_new _ _), ((below_new w9 _).block _ (lt_of_heap HR9.out.rz)).trans HR9.out.rz, heap_alloc_new w9 _, HK9.out.next (below_new _ _)⟩); (with_reducible refine (HWr.out _ _ _ _ HN9.out HT5.out.row).mono ?_); rintro e w10 ⟨v10, rfl, hb⟩; have HT10 := hid (HT5.out.next hb); obtain ⟨c0, c1, c2, c3, _⟩ := cells4O HT10.out.nw; obtain ⟨z0, z1, z2, z3, zz⟩ := cells4O HT10.out.rz; have zz0 := zz 0; have zz1 := zz 1; have zz2 := zz 2; have zz3 := zz 3; clear zz hb HWr HT5 y0 y1 y2 y3) | (go_at_call 56; (with_reducible refine (HGr.out _ _ _).mono ?_); rintro e w11 ⟨rfl, hw11⟩; subst w11; clear HGr))
          (try simp only [Exit.inBlock, Exit.then])
          refine bodyPost_ret (results_reqO rfl _ _ _ 54 _ (0, 0) rfl (fourCO HT10.out.rz _ _ _ _) rfl) rfl ?_
          refine .inl ⟨HGz.out, (by rw [HGE.out]; rfl), ?_⟩
          iterate 4 refine Below.setCell ?_ (Nat.le_succ _) _
          exact HT10.out.low
set_option maxRecDepth 20000 in
set_option maxHeartbeats 32000000 in
theorem dreq_y (m t : B) (k : Int) (fs : List (B × B)) (p : Option Addr) (n c : Nat) (hn : fs.length = n) (cl : B) (L : Int) (w : World) (hF : FAt w p fs) (hsz : szN fs) (hnn : n ≤ 1000) (hm : m.length ≤ 1048576) (ht : t.length ≤ 1048576) (hcl : cl.length ≤ 1048576) (hL0 : -9223372036854775808 ≤ L) (hL1 : L ≤ 9223372036854775807) (hF1z : szC 1048576 (onQ m fs cl k L)) (hLz : L = 0) (hPo : postB m = true) :
    Calls Tryz.prog 22 #[.agg #[.string (str m), .string (str t), .int .i64 k, .slice p n c], .string (str cl), .int .i64 L] w fun e w' => DAns m t (onQ m fs cl k L) w e w' := by
  have hTl : tellsB m L = true := by unfold tellsB; rw [if_pos hPo]; simp [hLz]
  have h1z : szC 1048576 (onQ1 fs) := fun f hf => hsz f (onQ1_mem hf)
  have h1w := szC_W h1z (by decide)
  have h0w : szW (stripF fs) := fun f hf => szC_W (C := 1048576) hsz (by decide) f (List.mem_filter.1 hf).1
  have HSt := hid (show ∀ W : World, Below w.heap.size w W → _ from fun W hb => dstrip fs p n c hn W (hF.next hb) hsz hnn)
  have hl0 := stripF_le fs
  have hl2 := onQ1_len fs
  have hl3 := fwdF_len (onQ1 fs) cl
  have hdoc := onQ1_doc fs
  obtain ⟨P, hP⟩ : ∃ P : B × B → Bool, (fun f : B × B => !inB f.1 frmL && !sameB (str f.1) (str expB)) = P := ⟨_, rfl⟩
  have HPe := hid (fun f : B × B => show (!inB f.1 frmL && !sameB (str f.1) (str expB)) = P f from by rw [← hP])
  rw [hP] at hdoc
  have HFw := hid (show ∀ (W : World) (q : Option Addr) (s d : Nat), (onQ1 fs).length = s → FAt W q (onQ1 fs) → (q = none → d = 0) → _ from fun W q s d hs h hc0 => dforwarded (onQ1 fs) cl q s d hs hc0 W h h1w (by omega) (Nat.le_trans hcl (by decide)) (fun f hf => Nat.le_trans (h1z f hf).2 (by decide)))
  have HVi := hid (show ∀ (W : World) (q : Option Addr) (d : Nat), FAt W q (fwdF (onQ1 fs) cl) → _ from fun W q d h => dvia (fwdF (onQ1 fs) cl) k q (fwdF (onQ1 fs) cl).length d rfl (fun e => absurd e (fat_some h (setB_ne _ _ _))) W h (by omega))
  rw [show viaF (fwdF (onQ1 fs) cl) k = onQ2 fs cl k from rfl] at HVi
  have hl4 : (onQ2 fs cl k).length = (fwdF (onQ1 fs) cl).length + 1 := by
    unfold onQ2 viaF
    rw [List.length_append]
    rfl
  have HL4 := hid hl4
  have HTx := hid (show ∀ W : World, _ from fun W => dtext L W hL0 hL1)
  have HAd0 := hid (show ∀ (W : World) (q : Option Addr) (s d : Nat), (onQ2 fs cl k).length = s → FAt W q (onQ2 fs cl k) → _ from fun W q s d hs h => dadd (onQ2 fs cl k) q s d hs clB (Lib.itoa L) W h (fun e => absurd e (fat_some h (by intro e9; have := onQ2_two fs cl k; rw [e9] at this; simp at this))) (by omega))
  obtain ⟨TX, hTX⟩ : ∃ X, str (Lib.itoa L) = X := ⟨_, rfl⟩
  rw [hTX] at HTx HAd0
  have HAd := hid (show ∀ (W : World) (q : Option Addr) (s d : Nat), (onQ2 fs cl k).length = s → FAt W q (onQ2 fs cl k) → Calls Tryz.prog 53 #[.slice q s d, .string (⟨#[67, 111, 110, 116, 101, 110, 116, 45, 76, 101, 110, 103, 116, 104]⟩ : ByteArray), .string TX] W _ from HAd0.out)
  have HPo := hid (show ∀ W : World, _ from fun W => dposts m W)
  rw [hPo] at HPo
  have hlF : (onQ m fs cl k L).length ≤ 100000 := by
    unfold onQ
    rw [if_pos hTl, List.length_append]
    simp only [List.length_cons, List.length_nil]
    omega
  have h2F := onQ_two m fs cl k L
  obtain ⟨F, hFF⟩ : ∃ F, onQ m fs cl k L = F := ⟨_, rfl⟩
  rw [hFF] at hF1z h2F
  rw [hFF]
  have H2F := hid h2F
  have HWr := hid (show ∀ (W : World) (q : Option Addr) (s d : Nat), F.length = s → FAt W q F → _ from fun W q s d hs h => rreq_e m t 1 F q s d hs W h hF1z (by rw [← hs, ← hFF]; exact hlF) hm ht)
  have HFe := hid (show onQ2 fs cl k ++ [(clB, Lib.itoa L)] = F from by rw [← hFF]; unfold onQ; rw [if_pos hTl])
  have HSzd := hid (show ∀ (W : World) (q : Option Addr) (s d e : Nat), _ from fun W q s d e => dsized q s d e W)
  unfold DAns
  obtain ⟨e0, he0⟩ : ∃ e0, reqE m t 1 F = e0 := ⟨_, rfl⟩
  rw [he0] at HWr
  rw [he0]
  obtain ⟨M, hM⟩ : ∃ M, str m = M := ⟨_, rfl⟩
  obtain ⟨T, hT⟩ : ∃ T, str t = T := ⟨_, rfl⟩
  obtain ⟨CC, hCC⟩ : ∃ C, str cl = C := ⟨_, rfl⟩
  rw [hM] at HWr HPo
  rw [hT] at HWr
  rw [hCC] at HFw
  rw [hM, hT, hCC]
  obtain ⟨X0, hX0⟩ : ∃ X, stripF fs = X := ⟨_, rfl⟩
  rw [hX0] at HSt hdoc h0w hl0
  obtain ⟨s0, hs0⟩ : ∃ s, X0.length = s := ⟨_, rfl⟩
  rw [hs0] at hl0
  have HS0 := hid hs0
  have HZ0 := hid h0w
  obtain ⟨X2, hX2⟩ : ∃ X, onQ1 fs = X := ⟨_, rfl⟩
  rw [hX2] at HFw HVi hdoc HL4
  have HDc := hid hdoc
  obtain ⟨X3, hX3⟩ : ∃ X, fwdF X2 cl = X := ⟨_, rfl⟩
  rw [hX3] at HFw HVi HL4
  obtain ⟨X4, hX4⟩ : ∃ X, onQ2 fs cl k = X := ⟨_, rfl⟩
  rw [hX4] at HVi HFe HL4 HAd
  have HR0 := hid (RqO.start w #[.string M, .string T, .int .i64 k, .slice p n c])
  obtain ⟨i0, hi0, hz0, hz1, hz2⟩ := info_parts infoF
  clear hF hsz hF1z h1z h1w hl2 hl3 hl4 hFF he0 hM hT hCC hX0 hX2 hX3 hX4 hTl hlF hP hs0 hdoc h0w h2F hm ht hcl hTX HAd0
  subst hLz
  go_enter Tryz.func22, Tryz.ntmps22
  obtain ⟨y0, y1, y2, y3, _⟩ := cells4O HR0.out.bx
  go_wp2_with (go_at_call 47; (with_reducible refine (HSt.out _ HR0.out.low).mono ?_); rintro e w1 ⟨v1, rfl, ho, hb⟩; obtain ⟨q1, d1, rfl⟩ : ∃ q d, v1 = .slice q s0 d := (by have h9 := own_slice ho; rw [HS0.out] at h9; exact h9); have HR1 := hid (HR0.out.next hb); have HF1 := hid (OwnF.fat ho); clear hb ho HSt HR0 y0 y1 y2 y3)
  go_loopg [8, 10] (s0 + 1) (fun gk s8 s10 wr => ∃ (i : Nat) (q : Option Addr) (kk d : Nat), s8 = .slice q kk d ∧ s10 = .int .i64 (i : Int) ∧ i ≤ s0 ∧ gk = s0 - i + 1 ∧ ((X0.take i).filter P).length = kk ∧ OwnF wr w1.heap.size (.slice q kk d) ((X0.take i).filter P) ∧ Below w1.heap.size w1 wr)
  case atStart => exact ⟨0, none, 0, 0, rfl, rfl, by omega, rfl, rfl, OwnF.nil _ _, Below.refl _ _⟩
  case round =>
    obtain ⟨i, q, kk, d, rfl, rfl, hin, rfl, hk, ho, hb⟩ := hrel
    rename World => wr
    have hki : kk ≤ i := by rw [← hk]; exact filt_le i
    have HO := hid ho
    have HB := hid hb
    have HK := hid hk
    clear ho hb hk
    by_cases hlt : i < s0
    · obtain ⟨f, hf⟩ : ∃ f, X0[i]? = some f := ⟨X0[i]'(by rw [HS0.out]; exact hlt), List.getElem?_eq_getElem (by rw [HS0.out]; exact hlt)⟩
      obtain ⟨g, oo, hp, c0, c1⟩ := (HF1.out.next HB.out) i f hf
      subst hp
      have hltI : (i : Int) < (s0 : Int) := by omega
      obtain ⟨z1, z2⟩ := HZ0.out f (List.mem_of_getElem? hf)
      have HI1 := hid (show ∀ W : World, _ from fun W => dframe1 f.1 W z1)
      have HSm := hid (show ∀ W : World, _ from fun W => rsame_any (str f.1) (str expB) W (by rw [str_size]; exact z1) (by decide))
      have hpe := HPe.out f
      have HYy := hid (fun (h : P f = true) => filt_yes (P := P) hf h)
      have HYn := hid (fun (h : P f = false) => filt_no (P := P) hf h)
      obtain ⟨N, hN⟩ : ∃ N, str f.1 = N := ⟨_, rfl⟩
      obtain ⟨V, hV⟩ : ∃ V, str f.2 = V := ⟨_, rfl⟩
      have HNN := hid hN
      have HVV := hid hV
      obtain ⟨R1, h1⟩ : ∃ R, inB f.1 frmL = R := ⟨_, rfl⟩
      obtain ⟨R2, h2⟩ : ∃ R, sameB (str f.1) (str expB) = R := ⟨_, rfl⟩
      rw [h1] at HI1 hpe
      rw [h2] at HSm hpe
      rw [hN] at c0 HI1 HSm
      rw [hV] at c1
      have HSm2 := hid (show ∀ W : World, Calls Tryz.prog 49 #[.string N, .string (⟨#[69, 120, 112, 101, 99, 116]⟩ : ByteArray)] W fun e w' => e = .returned (.bool R2) ∧ Below W.heap.size W w' from HSm.out)
      clear hf hN hV z1 z2 h1 h2 HSm
      cases R1 with
      | true =>
        have HY := hid (HYn.out (by rw [← hpe]; rfl))
        clear hpe
        go_wp2_with (go_at_call 48; (with_reducible refine (HI1.out _).mono ?_); rintro e w2 ⟨rfl, hb⟩; have HB2 := hid (below_out HB.out hb); have HO2 := hid (HO.out.keep hb); have x0 := cell_keep hb c0; have x1 := cell_keep hb c1; clear hb HI1 c0 c1)
        go_roundg (s0 - (i + 1) + 1)
        case measure => omega
        case rel => exact ⟨i + 1, q, kk, d, rfl, by go_num, by omega, rfl, by rw [HY.out]; exact HK.out, by rw [HY.out]; exact HO2.out, HB2.out⟩
      | false =>
        cases R2 with
        | true =>
          have HY := hid (HYn.out (by rw [← hpe]; rfl))
          clear hpe
          go_wp2_with (first | (go_at_call 48; (with_reducible refine (HI1.out _).mono ?_); rintro e w2 ⟨rfl, hb⟩; have HB2 := hid (below_out HB.out hb); have HO2 := hid (HO.out.keep hb); have x0 := cell_keep hb c0; have x1 := cell_keep hb c1; clear hb HI1 c0 c1) | (go_at_call 49; (with_reducible refine (HSm2.out _).mono ?_); rintro e w3 ⟨rfl, hb⟩; have HB3 := hid (below_out HB2.out hb); have HO3 := hid (HO2.out.keep hb); have u0 := cell_keep hb x0; have u1 := cell_keep hb x1; clear hb HSm2 x0 x1))
          go_roundg (s0 - (i + 1) + 1)
          case measure => omega
          case rel => exact ⟨i + 1, q, kk, d, rfl, by go_num, by omega, rfl, by rw [HY.out]; exact HK.out, by rw [HY.out]; exact HO3.out, HB3.out⟩
        | false =>
          have HY := hid (HYy.out (by rw [← hpe]; rfl))
          clear hpe
          go_wp2_with (first | (go_at_call 48; (with_reducible refine (HI1.out _).mono ?_); rintro e w2 ⟨rfl, hb⟩; have HB2 := hid (below_out HB.out hb); have HO2 := hid (HO.out.keep hb); have x0 := cell_keep hb c0; have x1 := cell_keep hb c1; clear hb HI1 c0 c1) | (go_at_call 49; (with_reducible refine (HSm2.out _).mono ?_); rintro e w3 ⟨rfl, hb⟩; have HB3 := hid (below_out HB2.out hb); have HO3 := hid (HO2.out.keep hb); have u0 := cell_keep hb x0; have u1 := cell_keep hb x1; clear hb HSm2 x0 x1) | (at_builtin; refine wpList_append_own _ rfl (.tmp 40) (.tmp 45) 33 rfl w1.heap.size 88 i0 _ 2 32 Tryz.underlying33 hi0 hz0 hz1 hz2 rfl (by decide) (.slice q kk d) kk (fldC ((X0.take i).filter P)) (by go_simp) (by have h9 := HO3.out.alloc (.cells #[.string N, .string V] 88 (0, 0)); unfold OwnF at h9; rw [HK.out] at h9; exact h9) ⟨w3.heap.size, 0, none⟩ 1 1 [.string N, .string V] (by go_simp) rfl (cells_new w3 _ _) (by simp [Value.oneCell']) (by unfold maxLen; omega) (by omega) (Nat.le_trans HB3.out.size (below_new _ _).size) ?_; intro v' w7 hown' hgrow _; have HB7 := hid (app_below' HB3.out HB3.out.size HO3.out hgrow); obtain ⟨q', d', rfl⟩ := own_slice hown'; have HO7 := hid (show OwnF w7 w1.heap.size (.slice q' (kk + 1) d') ((X0.take i).filter P ++ [f]) from OwnF.snocW HK.out.symm HNN.out HVV.out hown'); clear hown' hgrow))
          go_roundg (s0 - (i + 1) + 1)
          case measure => omega
          case rel => exact ⟨i + 1, q', kk + 1, d', rfl, by go_num, by omega, rfl, by rw [HY.out, List.length_append, HK.out]; rfl, by rw [HY.out]; exact HO7.out, HB7.out⟩
    · obtain rfl : i = s0 := by omega
      have hltI : ¬ (i : Int) < (i : Int) := by omega
      have HT0 := hid (show (X0.take i).filter P = X2 from by rw [List.take_of_length_le (by rw [HS0.out]; exact Nat.le_refl _)]; exact HDc.out.symm)
      rw [HT0.out] at HO HK
      have HR2 := hid (HR1.out.next HB.out)
      clear hlt HT0
      go_wp2
      have HR4 := hid (show RqO w wr.drew #[.string M, .string T, .int .i64 k, .slice p n c] from HR2.out.next ⟨rfl, rfl, rfl, Nat.le_refl _, fun _ _ => rfl⟩)
      have HO4 := hid (show OwnF wr.drew w1.heap.size (.slice q kk d) X2 from HO.out.keep ⟨rfl, rfl, rfl, Nat.le_refl _, fun _ _ => rfl⟩)
      generalize hW4 : wr.drew = w4 at HR4 HO4
      refine wp_region_noPanic ?_
      refine any_begin 7 (by kernel_rfl) (by kernel_rfl) ?_
      rw [hW4]
      clear hW4 HR2 HO HB
      refine late_begin (fun U => Cells4O U w.heap.size (.string M) (.string T) (.int .i64 k) (.slice p n c)) (fun _ => false) (show Cells4O w4 w.heap.size (.string M) (.string T) (.int .i64 k) (.slice p n c) from cells4O HR4.out.bx) (fun hS => ?_)
      refine late_take (i := 0) (some 47) rfl rfl (by kernel_rfl) (by kernel_rfl) (by kernel_rfl) (by kernel_rfl) (by kernel_rfl) (fun _ _ _ h => h) (by rfl) (v := ?v0r8dreq_y) ?hy0r8dreq_y hS ?rest0r8dreq_y
      case hy0r8dreq_y => intro w0 hSw; obtain ⟨a0, a1, a2, a3, _⟩ := hSw; go_simp; try with_reducible rfl
      simp only [Act.put, List.setIfInBounds_toArray, List.set_cons_zero, List.set_cons_succ]
      refine late_take (i := 1) (some 48) rfl rfl (by kernel_rfl) (by kernel_rfl) (by kernel_rfl) (by kernel_rfl) (by kernel_rfl) (fun _ _ _ h => h) (by rfl) (v := ?v1r8dreq_y) ?hy1r8dreq_y hS ?rest1r8dreq_y
      case hy1r8dreq_y => intro w0 hSw; obtain ⟨a0, a1, a2, a3, _⟩ := hSw; go_simp; try with_reducible rfl
      simp only [Act.put, List.setIfInBounds_toArray, List.set_cons_zero, List.set_cons_succ]
      refine late_take (i := 3) (some 50) rfl rfl (by kernel_rfl) (by kernel_rfl) (by kernel_rfl) (by kernel_rfl) (by kernel_rfl) (fun _ _ _ h => h) (by rfl) (v := ?v3r8dreq_y) ?hy3r8dreq_y hS ?rest3r8dreq_y
      case hy3r8dreq_y => intro w0 hSw; obtain ⟨a0, a1, a2, a3, _⟩ := hSw; go_simp; try with_reducible rfl
      simp only [Act.put, List.setIfInBounds_toArray, List.set_cons_zero, List.set_cons_succ]
      refine late_take (i := 4) (some 51) rfl rfl (by kernel_rfl) (by kernel_rfl) (by kernel_rfl) (by kernel_rfl) (by kernel_rfl) (fun _ _ _ h => h) (by rfl) (v := ?v4r8dreq_y) ?hy4r8dreq_y hS ?rest4r8dreq_y
      case hy4r8dreq_y => intro w0 hSw; obtain ⟨a0, a1, a2, a3, _⟩ := hSw; go_simp; try with_reducible rfl
      simp only [Act.put, List.setIfInBounds_toArray, List.set_cons_zero, List.set_cons_succ]
      refine wpAnyD_one (i := 2) (by kernel_rfl) rfl (fun K' hK => ?_)
      go_simp
      go_at_call 51
      refine (HFw.out _ _ _ _ HK.out HO4.out.fat (own_argsO HO4.out)).mono ?_
      rintro e w5 ⟨q5, d5, rfl, hf5, hb⟩
      have HR5 := hid (HR4.out.next hb)
      have HK5 := hid hf5
      have hS5 : Cells4O w5 w.heap.size (.string M) (.string T) (.int .i64 k) (.slice p n c) := cells4O HR5.out.bx
      refine hK _ _ ⟨fun _ => hS5, ?_⟩
      clear hK K' hb hf5 HFw HR4 HO4 hS
      refine wpAnyD_one (i := 5) (by kernel_rfl) rfl (fun K' hK => ?_)
      go_simp
      go_at_call 50
      refine (HVi.out _ _ _ HK5.out).mono ?_
      rintro e w6 ⟨q6, d6, rfl, hf6, hb⟩
      have HR6 := hid (HR5.out.next hb)
      have HK6 := hid hf6
      have hS6 : Cells4O w6 w.heap.size (.string M) (.string T) (.int .i64 k) (.slice p n c) := cells4O HR6.out.bx
      refine hK _ _ ⟨fun _ => hS6, ?_⟩
      clear hK K' hb hf6 HVi HR5 HK5 hS5
      refine late_take (i := 6) (some 8) rfl rfl (by kernel_rfl) (by kernel_rfl) (by kernel_rfl) (by kernel_rfl) (by kernel_rfl) (fun _ _ _ h => h) (by rfl) (v := ?v6r8dreq_y) ?hy6r8dreq_y hS6 ?rest6r8dreq_y
      case hy6r8dreq_y => intro w0 hSw; obtain ⟨a0, a1, a2, a3, _⟩ := hSw; go_simp; try with_reducible rfl
      simp only [Act.put, List.setIfInBounds_toArray, List.set_cons_zero, List.set_cons_succ]
      refine late_done (by kernel_rfl) ?_ _
      refine NoPanic.normal ?_
      clear hS6
      obtain ⟨y0, y1, y2, y3, _⟩ := cells4O HR6.out.bx
      have HNF := hid (show F.length = (X3.length + 1 + 1) from by rw [← HFe.out, List.length_append, HL4.out]; rfl)
      by_cases hgr : greatE F.length e0 = 0
      · as_aux_lemma =>
          have HGr := hid (show ∀ (W : World) (q : Option Addr) (d : Nat), Calls Tryz.prog 56 #[.slice q (X3.length + 1 + 1) d, .int .i64 (e0 : Int)] W fun r w' => r = .returned (.int .i64 0) ∧ w' = W from fun W q d => by
            have h := HSzd.out W q (X3.length + 1 + 1) d e0
            rw [← HNF.out, hgr] at h
            rw [← HNF.out]
            exact h)
          
          have HGz := hid hgr
          clear hgr HSzd
          go_wp2_with (first | (go_at_call 52; (with_reducible refine (HPo.out _).mono ?_); rintro e w7 ⟨rfl, hw7⟩; subst w7; clear HPo) | (go_at_call 54; (with_reducible refine (HTx.out _).mono ?_); rintro e w8 ⟨rfl, hb⟩; have HR8 := hid (HR6.out.next hb); have HK8 := hid (HK6.out.next hb); clear hb HTx HR6 HK6 y0 y1 y2 y3) | (go_at_call 53; (with_reducible refine (HAd.out _ _ _ _ HL4.out HK8.out).mono ?_); rintro e w9 ⟨q9, d9, rfl, hf9, hb⟩; have HR9 := hid (HR8.out.next hb); have HK9 := hid hf9; rw [HFe.out] at HK9; have HN9 := hid (show F.length = X3.length + 1 + 1 from by rw [← HFe.out, List.length_append, HL4.out]; rfl); obtain ⟨y0, y1, y2, y3, _⟩ := cells4O HR9.out.bx; clear hb hf9 HAd HR8 HK8) | (go_at_call 55; have HT5 := hid (show RtD w (w9.alloc (.cells #[.string M, .string T, .int .i64 1, .slice q9 (X3.length + 1 + 1) d9] 54 (0, 0))) #[.string M, .string T, .int .i64 1, .slice q9 (X3.length + 1 + 1) d9] q9 w9.heap.size F from ⟨below_out HR9.out.low (below_new _ _), ((below_new w9 _).block _ (lt_of_heap HR9.out.rz)).trans HR9.out.rz, heap_alloc_new w9 _, HK9.out.next (below_new _ _)⟩); (with_reducible refine (HWr.out _ _ _ _ HN9.out HT5.out.row).mono ?_); rintro e w10 ⟨v10, rfl, hb⟩; have HT10 := hid (HT5.out.next hb); obtain ⟨c0, c1, c2, c3, _⟩ := cells4O HT10.out.nw; obtain ⟨z0, z1, z2, z3, zz⟩ := cells4O HT10.out.rz; have zz0 := zz 0; have zz1 := zz 1; have zz2 := zz 2; have zz3 := zz 3; clear zz hb HWr HT5 y0 y1 y2 y3) | (go_at_call 56; (with_reducible refine (HGr.out _ _ _).mono ?_); rintro e w11 ⟨rfl, hw11⟩; subst w11; clear HGr))
          (try simp only [Exit.inBlock, Exit.then])
          refine bodyPost_ret (results_reqO rfl _ _ _ 54 _ (0, 0) rfl (fourCO HT10.out.rz _ _ _ _) rfl) rfl ?_
          refine .inr ⟨HGz.out, q9, d9, ?_, fat_set4 HT10.out.row H2F.out HT10.out.rz (fun s e => by cases e) (fun s e => by cases e) _ _ _ _, ?_⟩
          · rw [HNF.out]
            rfl
          · iterate 4 refine Below.setCell ?_ (Nat.le_succ _) _
            exact HT10.out.low
      · as_aux_lemma =>
          obtain ⟨ge, hge⟩ : ∃ ge : Int, (greatE F.length e0 : Int) = ge := ⟨_, rfl⟩
          have hge0 : (ge != 0) = true := by simp; omega
          have hge1 : ¬ ge = 0 := by omega
          have HGE := hid hge
          
          have HGr := hid (show ∀ (W : World) (q : Option Addr) (d : Nat), Calls Tryz.prog 56 #[.slice q (X3.length + 1 + 1) d, .int .i64 (e0 : Int)] W fun r w' => r = .returned (.int .i64 ge) ∧ w' = W from fun W q d => by
            have h := HSzd.out W q (X3.length + 1 + 1) d e0
            rw [← HNF.out, hge] at h
            rw [← HNF.out]
            exact h)
          
          have HGz := hid hgr
          clear hgr HSzd hge
          go_wp2_with (first | (go_at_call 52; (with_reducible refine (HPo.out _).mono ?_); rintro e w7 ⟨rfl, hw7⟩; subst w7; clear HPo) | (go_at_call 54; (with_reducible refine (HTx.out _).mono ?_); rintro e w8 ⟨rfl, hb⟩; have HR8 := hid (HR6.out.next hb); have HK8 := hid (HK6.out.next hb); clear hb HTx HR6 HK6 y0 y1 y2 y3) | (go_at_call 53; (with_reducible refine (HAd.out _ _ _ _ HL4.out HK8.out).mono ?_); rintro e w9 ⟨q9, d9, rfl, hf9, hb⟩; have HR9 := hid (HR8.out.next hb); have HK9 := hid hf9; rw [HFe.out] at HK9; have HN9 := hid (show F.length = X3.length + 1 + 1 from by rw [← HFe.out, List.length_append, HL4.out]; rfl); obtain ⟨y0, y1, y2, y3, _⟩ := cells4O HR9.out.bx; clear hb hf9 HAd HR8 HK8) | (go_at_call 55; have HT5 := hid (show RtD w (w9.alloc (.cells #[.string M, .string T, .int .i64 1, .slice q9 (X3.length + 1 + 1) d9] 54 (0, 0))) #[.string M, .string T, .int .i64 1, .slice q9 (X3.length + 1 + 1) d9] q9 w9.heap.size F from ⟨below_out HR9.out.low (below_new _ _), ((below_new w9 _).block _ (lt_of_heap HR9.out.rz)).trans HR9.out.rz, heap_alloc_new w9 _, HK9.out.next (below_new _ _)⟩); (with_reducible refine (HWr.out _ _ _ _ HN9.out HT5.out.row).mono ?_); rintro e w10 ⟨v10, rfl, hb⟩; have HT10 := hid (HT5.out.next hb); obtain ⟨c0, c1, c2, c3, _⟩ := cells4O HT10.out.nw; obtain ⟨z0, z1, z2, z3, zz⟩ := cells4O HT10.out.rz; have zz0 := zz 0; have zz1 := zz 1; have zz2 := zz 2; have zz3 := zz 3; clear zz hb HWr HT5 y0 y1 y2 y3) | (go_at_call 56; (with_reducible refine (HGr.out _ _ _).mono ?_); rintro e w11 ⟨rfl, hw11⟩; subst w11; clear HGr))
          (try simp only [Exit.inBlock, Exit.then])
          refine bodyPost_ret (results_reqO rfl _ _ _ 54 _ (0, 0) rfl (fourCO HT10.out.rz _ _ _ _) rfl) rfl ?_
          refine .inl ⟨HGz.out, (by rw [HGE.out]; rfl), ?_⟩
          iterate 4 refine Below.setCell ?_ (Nat.le_succ _) _
          exact HT10.out.low
set_option maxRecDepth 20000 in
set_option maxHeartbeats 32000000 in
theorem dreq_z (m t : B) (k : Int) (fs : List (B × B)) (p : Option Addr) (n c : Nat) (hn : fs.length = n) (cl : B) (L : Int) (w : World) (hF : FAt w p fs) (hsz : szN fs) (hnn : n ≤ 1000) (hm : m.length ≤ 1048576) (ht : t.length ≤ 1048576) (hcl : cl.length ≤ 1048576) (hF1z : szC 1048576 (onQ m fs cl k L)) (hLz : L = 0) (hPo : postB m = false) :
    Calls Tryz.prog 22 #[.agg #[.string (str m), .string (str t), .int .i64 k, .slice p n c], .string (str cl), .int .i64 L] w fun e w' => DAns m t (onQ m fs cl k L) w e w' := by
  have hTl : tellsB m L = false := by unfold tellsB; rw [if_neg (by rw [hPo]; decide)]; simp [hLz]
  have h1z : szC 1048576 (onQ1 fs) := fun f hf => hsz f (onQ1_mem hf)
  have h1w := szC_W h1z (by decide)
  have h0w : szW (stripF fs) := fun f hf => szC_W (C := 1048576) hsz (by decide) f (List.mem_filter.1 hf).1
  have HSt := hid (show ∀ W : World, Below w.heap.size w W → _ from fun W hb => dstrip fs p n c hn W (hF.next hb) hsz hnn)
  have hl0 := stripF_le fs
  have hl2 := onQ1_len fs
  have hl3 := fwdF_len (onQ1 fs) cl
  have hdoc := onQ1_doc fs
  obtain ⟨P, hP⟩ : ∃ P : B × B → Bool, (fun f : B × B => !inB f.1 frmL && !sameB (str f.1) (str expB)) = P := ⟨_, rfl⟩
  have HPe := hid (fun f : B × B => show (!inB f.1 frmL && !sameB (str f.1) (str expB)) = P f from by rw [← hP])
  rw [hP] at hdoc
  have HFw := hid (show ∀ (W : World) (q : Option Addr) (s d : Nat), (onQ1 fs).length = s → FAt W q (onQ1 fs) → (q = none → d = 0) → _ from fun W q s d hs h hc0 => dforwarded (onQ1 fs) cl q s d hs hc0 W h h1w (by omega) (Nat.le_trans hcl (by decide)) (fun f hf => Nat.le_trans (h1z f hf).2 (by decide)))
  have HVi := hid (show ∀ (W : World) (q : Option Addr) (d : Nat), FAt W q (fwdF (onQ1 fs) cl) → _ from fun W q d h => dvia (fwdF (onQ1 fs) cl) k q (fwdF (onQ1 fs) cl).length d rfl (fun e => absurd e (fat_some h (setB_ne _ _ _))) W h (by omega))
  rw [show viaF (fwdF (onQ1 fs) cl) k = onQ2 fs cl k from rfl] at HVi
  have hl4 : (onQ2 fs cl k).length = (fwdF (onQ1 fs) cl).length + 1 := by
    unfold onQ2 viaF
    rw [List.length_append]
    rfl
  have HL4 := hid hl4
  have HPo := hid (show ∀ W : World, _ from fun W => dposts m W)
  rw [hPo] at HPo
  have hlF : (onQ m fs cl k L).length ≤ 100000 := by
    unfold onQ
    rw [if_neg (by rw [hTl]; decide)]
    skip
    omega
  have h2F := onQ_two m fs cl k L
  obtain ⟨F, hFF⟩ : ∃ F, onQ m fs cl k L = F := ⟨_, rfl⟩
  rw [hFF] at hF1z h2F
  rw [hFF]
  have H2F := hid h2F
  have HWr := hid (show ∀ (W : World) (q : Option Addr) (s d : Nat), F.length = s → FAt W q F → _ from fun W q s d hs h => rreq_e m t 1 F q s d hs W h hF1z (by rw [← hs, ← hFF]; exact hlF) hm ht)
  have HFe := hid (show onQ2 fs cl k = F from by rw [← hFF]; unfold onQ; rw [if_neg (by rw [hTl]; decide)])
  have HSzd := hid (show ∀ (W : World) (q : Option Addr) (s d e : Nat), _ from fun W q s d e => dsized q s d e W)
  unfold DAns
  obtain ⟨e0, he0⟩ : ∃ e0, reqE m t 1 F = e0 := ⟨_, rfl⟩
  rw [he0] at HWr
  rw [he0]
  obtain ⟨M, hM⟩ : ∃ M, str m = M := ⟨_, rfl⟩
  obtain ⟨T, hT⟩ : ∃ T, str t = T := ⟨_, rfl⟩
  obtain ⟨CC, hCC⟩ : ∃ C, str cl = C := ⟨_, rfl⟩
  rw [hM] at HWr HPo
  rw [hT] at HWr
  rw [hCC] at HFw
  rw [hM, hT, hCC]
  obtain ⟨X0, hX0⟩ : ∃ X, stripF fs = X := ⟨_, rfl⟩
  rw [hX0] at HSt hdoc h0w hl0
  obtain ⟨s0, hs0⟩ : ∃ s, X0.length = s := ⟨_, rfl⟩
  rw [hs0] at hl0
  have HS0 := hid hs0
  have HZ0 := hid h0w
  obtain ⟨X2, hX2⟩ : ∃ X, onQ1 fs = X := ⟨_, rfl⟩
  rw [hX2] at HFw HVi hdoc HL4
  have HDc := hid hdoc
  obtain ⟨X3, hX3⟩ : ∃ X, fwdF X2 cl = X := ⟨_, rfl⟩
  rw [hX3] at HFw HVi HL4
  obtain ⟨X4, hX4⟩ : ∃ X, onQ2 fs cl k = X := ⟨_, rfl⟩
  rw [hX4] at HVi HFe HL4
  have HR0 := hid (RqO.start w #[.string M, .string T, .int .i64 k, .slice p n c])
  obtain ⟨i0, hi0, hz0, hz1, hz2⟩ := info_parts infoF
  clear hF hsz hF1z h1z h1w hl2 hl3 hl4 hFF he0 hM hT hCC hX0 hX2 hX3 hX4 hTl hlF hP hs0 hdoc h0w h2F hm ht hcl
  subst hLz
  go_enter Tryz.func22, Tryz.ntmps22
  obtain ⟨y0, y1, y2, y3, _⟩ := cells4O HR0.out.bx
  go_wp2_with (go_at_call 47; (with_reducible refine (HSt.out _ HR0.out.low).mono ?_); rintro e w1 ⟨v1, rfl, ho, hb⟩; obtain ⟨q1, d1, rfl⟩ : ∃ q d, v1 = .slice q s0 d := (by have h9 := own_slice ho; rw [HS0.out] at h9; exact h9); have HR1 := hid (HR0.out.next hb); have HF1 := hid (OwnF.fat ho); clear hb ho HSt HR0 y0 y1 y2 y3)
  go_loopg [8, 10] (s0 + 1) (fun gk s8 s10 wr => ∃ (i : Nat) (q : Option Addr) (kk d : Nat), s8 = .slice q kk d ∧ s10 = .int .i64 (i : Int) ∧ i ≤ s0 ∧ gk = s0 - i + 1 ∧ ((X0.take i).filter P).length = kk ∧ OwnF wr w1.heap.size (.slice q kk d) ((X0.take i).filter P) ∧ Below w1.heap.size w1 wr)
  case atStart => exact ⟨0, none, 0, 0, rfl, rfl, by omega, rfl, rfl, OwnF.nil _ _, Below.refl _ _⟩
  case round =>
    obtain ⟨i, q, kk, d, rfl, rfl, hin, rfl, hk, ho, hb⟩ := hrel
    rename World => wr
    have hki : kk ≤ i := by rw [← hk]; exact filt_le i
    have HO := hid ho
    have HB := hid hb
    have HK := hid hk
    clear ho hb hk
    by_cases hlt : i < s0
    · obtain ⟨f, hf⟩ : ∃ f, X0[i]? = some f := ⟨X0[i]'(by rw [HS0.out]; exact hlt), List.getElem?_eq_getElem (by rw [HS0.out]; exact hlt)⟩
      obtain ⟨g, oo, hp, c0, c1⟩ := (HF1.out.next HB.out) i f hf
      subst hp
      have hltI : (i : Int) < (s0 : Int) := by omega
      obtain ⟨z1, z2⟩ := HZ0.out f (List.mem_of_getElem? hf)
      have HI1 := hid (show ∀ W : World, _ from fun W => dframe1 f.1 W z1)
      have HSm := hid (show ∀ W : World, _ from fun W => rsame_any (str f.1) (str expB) W (by rw [str_size]; exact z1) (by decide))
      have hpe := HPe.out f
      have HYy := hid (fun (h : P f = true) => filt_yes (P := P) hf h)
      have HYn := hid (fun (h : P f = false) => filt_no (P := P) hf h)
      obtain ⟨N, hN⟩ : ∃ N, str f.1 = N := ⟨_, rfl⟩
      obtain ⟨V, hV⟩ : ∃ V, str f.2 = V := ⟨_, rfl⟩
      have HNN := hid hN
      have HVV := hid hV
      obtain ⟨R1, h1⟩ : ∃ R, inB f.1 frmL = R := ⟨_, rfl⟩
      obtain ⟨R2, h2⟩ : ∃ R, sameB (str f.1) (str expB) = R := ⟨_, rfl⟩
      rw [h1] at HI1 hpe
      rw [h2] at HSm hpe
      rw [hN] at c0 HI1 HSm
      rw [hV] at c1
      have HSm2 := hid (show ∀ W : World, Calls Tryz.prog 49 #[.string N, .string (⟨#[69, 120, 112, 101, 99, 116]⟩ : ByteArray)] W fun e w' => e = .returned (.bool R2) ∧ Below W.heap.size W w' from HSm.out)
      clear hf hN hV z1 z2 h1 h2 HSm
      cases R1 with
      | true =>
        have HY := hid (HYn.out (by rw [← hpe]; rfl))
        clear hpe
        go_wp2_with (go_at_call 48; (with_reducible refine (HI1.out _).mono ?_); rintro e w2 ⟨rfl, hb⟩; have HB2 := hid (below_out HB.out hb); have HO2 := hid (HO.out.keep hb); have x0 := cell_keep hb c0; have x1 := cell_keep hb c1; clear hb HI1 c0 c1)
        go_roundg (s0 - (i + 1) + 1)
        case measure => omega
        case rel => exact ⟨i + 1, q, kk, d, rfl, by go_num, by omega, rfl, by rw [HY.out]; exact HK.out, by rw [HY.out]; exact HO2.out, HB2.out⟩
      | false =>
        cases R2 with
        | true =>
          have HY := hid (HYn.out (by rw [← hpe]; rfl))
          clear hpe
          go_wp2_with (first | (go_at_call 48; (with_reducible refine (HI1.out _).mono ?_); rintro e w2 ⟨rfl, hb⟩; have HB2 := hid (below_out HB.out hb); have HO2 := hid (HO.out.keep hb); have x0 := cell_keep hb c0; have x1 := cell_keep hb c1; clear hb HI1 c0 c1) | (go_at_call 49; (with_reducible refine (HSm2.out _).mono ?_); rintro e w3 ⟨rfl, hb⟩; have HB3 := hid (below_out HB2.out hb); have HO3 := hid (HO2.out.keep hb); have u0 := cell_keep hb x0; have u1 := cell_keep hb x1; clear hb HSm2 x0 x1))
          go_roundg (s0 - (i + 1) + 1)
          case measure => omega
          case rel => exact ⟨i + 1, q, kk, d, rfl, by go_num, by omega, rfl, by rw [HY.out]; exact HK.out, by rw [HY.out]; exact HO3.out, HB3.out⟩
        | false =>
          have HY := hid (HYy.out (by rw [← hpe]; rfl))
          clear hpe
          go_wp2_with (first | (go_at_call 48; (with_reducible refine (HI1.out _).mono ?_); rintro e w2 ⟨rfl, hb⟩; have HB2 := hid (below_out HB.out hb); have HO2 := hid (HO.out.keep hb); have x0 := cell_keep hb c0; have x1 := cell_keep hb c1; clear hb HI1 c0 c1) | (go_at_call 49; (with_reducible refine (HSm2.out _).mono ?_); rintro e w3 ⟨rfl, hb⟩; have HB3 := hid (below_out HB2.out hb); have HO3 := hid (HO2.out.keep hb); have u0 := cell_keep hb x0; have u1 := cell_keep hb x1; clear hb HSm2 x0 x1) | (at_builtin; refine wpList_append_own _ rfl (.tmp 40) (.tmp 45) 33 rfl w1.heap.size 88 i0 _ 2 32 Tryz.underlying33 hi0 hz0 hz1 hz2 rfl (by decide) (.slice q kk d) kk (fldC ((X0.take i).filter P)) (by go_simp) (by have h9 := HO3.out.alloc (.cells #[.string N, .string V] 88 (0, 0)); unfold OwnF at h9; rw [HK.out] at h9; exact h9) ⟨w3.heap.size, 0, none⟩ 1 1 [.string N, .string V] (by go_simp) rfl (cells_new w3 _ _) (by simp [Value.oneCell']) (by unfold maxLen; omega) (by omega) (Nat.le_trans HB3.out.size (below_new _ _).size) ?_; intro v' w7 hown' hgrow _; have HB7 := hid (app_below' HB3.out HB3.out.size HO3.out hgrow); obtain ⟨q', d', rfl⟩ := own_slice hown'; have HO7 := hid (show OwnF w7 w1.heap.size (.slice q' (kk + 1) d') ((X0.take i).filter P ++ [f]) from OwnF.snocW HK.out.symm HNN.out HVV.out hown'); clear hown' hgrow))
          go_roundg (s0 - (i + 1) + 1)
          case measure => omega
          case rel => exact ⟨i + 1, q', kk + 1, d', rfl, by go_num, by omega, rfl, by rw [HY.out, List.length_append, HK.out]; rfl, by rw [HY.out]; exact HO7.out, HB7.out⟩
    · obtain rfl : i = s0 := by omega
      have hltI : ¬ (i : Int) < (i : Int) := by omega
      have HT0 := hid (show (X0.take i).filter P = X2 from by rw [List.take_of_length_le (by rw [HS0.out]; exact Nat.le_refl _)]; exact HDc.out.symm)
      rw [HT0.out] at HO HK
      have HR2 := hid (HR1.out.next HB.out)
      clear hlt HT0
      go_wp2
      have HR4 := hid (show RqO w wr.drew #[.string M, .string T, .int .i64 k, .slice p n c] from HR2.out.next ⟨rfl, rfl, rfl, Nat.le_refl _, fun _ _ => rfl⟩)
      have HO4 := hid (show OwnF wr.drew w1.heap.size (.slice q kk d) X2 from HO.out.keep ⟨rfl, rfl, rfl, Nat.le_refl _, fun _ _ => rfl⟩)
      generalize hW4 : wr.drew = w4 at HR4 HO4
      refine wp_region_noPanic ?_
      refine any_begin 7 (by kernel_rfl) (by kernel_rfl) ?_
      rw [hW4]
      clear hW4 HR2 HO HB
      refine late_begin (fun U => Cells4O U w.heap.size (.string M) (.string T) (.int .i64 k) (.slice p n c)) (fun _ => false) (show Cells4O w4 w.heap.size (.string M) (.string T) (.int .i64 k) (.slice p n c) from cells4O HR4.out.bx) (fun hS => ?_)
      refine late_take (i := 0) (some 47) rfl rfl (by kernel_rfl) (by kernel_rfl) (by kernel_rfl) (by kernel_rfl) (by kernel_rfl) (fun _ _ _ h => h) (by rfl) (v := ?v0r8dreq_z) ?hy0r8dreq_z hS ?rest0r8dreq_z
      case hy0r8dreq_z => intro w0 hSw; obtain ⟨a0, a1, a2, a3, _⟩ := hSw; go_simp; try with_reducible rfl
      simp only [Act.put, List.setIfInBounds_toArray, List.set_cons_zero, List.set_cons_succ]
      refine late_take (i := 1) (some 48) rfl rfl (by kernel_rfl) (by kernel_rfl) (by kernel_rfl) (by kernel_rfl) (by kernel_rfl) (fun _ _ _ h => h) (by rfl) (v := ?v1r8dreq_z) ?hy1r8dreq_z hS ?rest1r8dreq_z
      case hy1r8dreq_z => intro w0 hSw; obtain ⟨a0, a1, a2, a3, _⟩ := hSw; go_simp; try with_reducible rfl
      simp only [Act.put, List.setIfInBounds_toArray, List.set_cons_zero, List.set_cons_succ]
      refine late_take (i := 3) (some 50) rfl rfl (by kernel_rfl) (by kernel_rfl) (by kernel_rfl) (by kernel_rfl) (by kernel_rfl) (fun _ _ _ h => h) (by rfl) (v := ?v3r8dreq_z) ?hy3r8dreq_z hS ?rest3r8dreq_z
      case hy3r8dreq_z => intro w0 hSw; obtain ⟨a0, a1, a2, a3, _⟩ := hSw; go_simp; try with_reducible rfl
      simp only [Act.put, List.setIfInBounds_toArray, List.set_cons_zero, List.set_cons_succ]
      refine late_take (i := 4) (some 51) rfl rfl (by kernel_rfl) (by kernel_rfl) (by kernel_rfl) (by kernel_rfl) (by kernel_rfl) (fun _ _ _ h => h) (by rfl) (v := ?v4r8dreq_z) ?hy4r8dreq_z hS ?rest4r8dreq_z
      case hy4r8dreq_z => intro w0 hSw; obtain ⟨a0, a1, a2, a3, _⟩ := hSw; go_simp; try with_reducible rfl
      simp only [Act.put, List.setIfInBounds_toArray, List.set_cons_zero, List.set_cons_succ]
      refine wpAnyD_one (i := 2) (by kernel_rfl) rfl (fun K' hK => ?_)
      go_simp
      go_at_call 51
      refine (HFw.out _ _ _ _ HK.out HO4.out.fat (own_argsO HO4.out)).mono ?_
      rintro e w5 ⟨q5, d5, rfl, hf5, hb⟩
      have HR5 := hid (HR4.out.next hb)
      have HK5 := hid hf5
      have hS5 : Cells4O w5 w.heap.size (.string M) (.string T) (.int .i64 k) (.slice p n c) := cells4O HR5.out.bx
      refine hK _ _ ⟨fun _ => hS5, ?_⟩
      clear hK K' hb hf5 HFw HR4 HO4 hS
      refine wpAnyD_one (i := 5) (by kernel_rfl) rfl (fun K' hK => ?_)
      go_simp
      go_at_call 50
      refine (HVi.out _ _ _ HK5.out).mono ?_
      rintro e w6 ⟨q6, d6, rfl, hf6, hb⟩
      have HR6 := hid (HR5.out.next hb)
      have HK6 := hid hf6
      have hS6 : Cells4O w6 w.heap.size (.string M) (.string T) (.int .i64 k) (.slice p n c) := cells4O HR6.out.bx
      refine hK _ _ ⟨fun _ => hS6, ?_⟩
      clear hK K' hb hf6 HVi HR5 HK5 hS5
      refine late_take (i := 6) (some 8) rfl rfl (by kernel_rfl) (by kernel_rfl) (by kernel_rfl) (by kernel_rfl) (by kernel_rfl) (fun _ _ _ h => h) (by rfl) (v := ?v6r8dreq_z) ?hy6r8dreq_z hS6 ?rest6r8dreq_z
      case hy6r8dreq_z => intro w0 hSw; obtain ⟨a0, a1, a2, a3, _⟩ := hSw; go_simp; try with_reducible rfl
      simp only [Act.put, List.setIfInBounds_toArray, List.set_cons_zero, List.set_cons_succ]
      refine late_done (by kernel_rfl) ?_ _
      refine NoPanic.normal ?_
      clear hS6
      obtain ⟨y0, y1, y2, y3, _⟩ := cells4O HR6.out.bx
      rw [HFe.out] at HK6
      have HN6 := hid (show F.length = X3.length + 1 from by rw [← HFe.out, HL4.out])
      have HNF := hid (show F.length = (X3.length + 1) from by rw [← HFe.out, HL4.out])
      by_cases hgr : greatE F.length e0 = 0
      · as_aux_lemma =>
          have HGr := hid (show ∀ (W : World) (q : Option Addr) (d : Nat), Calls Tryz.prog 56 #[.slice q (X3.length + 1) d, .int .i64 (e0 : Int)] W fun r w' => r = .returned (.int .i64 0) ∧ w' = W from fun W q d => by
            have h := HSzd.out W q (X3.length + 1) d e0
            rw [← HNF.out, hgr] at h
            rw [← HNF.out]
            exact h)
          
          have HGz := hid hgr
          clear hgr HSzd
          go_wp2_with (first | (go_at_call 52; (with_reducible refine (HPo.out _).mono ?_); rintro e w7 ⟨rfl, hw7⟩; subst w7; clear HPo) | (go_at_call 55; have HT5 := hid (show RtD w (w6.alloc (.cells #[.string M, .string T, .int .i64 1, .slice q6 (X3.length + 1) d6] 54 (0, 0))) #[.string M, .string T, .int .i64 1, .slice q6 (X3.length + 1) d6] q6 w6.heap.size F from ⟨below_out HR6.out.low (below_new _ _), ((below_new w6 _).block _ (lt_of_heap HR6.out.rz)).trans HR6.out.rz, heap_alloc_new w6 _, HK6.out.next (below_new _ _)⟩); (with_reducible refine (HWr.out _ _ _ _ HN6.out HT5.out.row).mono ?_); rintro e w10 ⟨v10, rfl, hb⟩; have HT10 := hid (HT5.out.next hb); obtain ⟨c0, c1, c2, c3, _⟩ := cells4O HT10.out.nw; obtain ⟨z0, z1, z2, z3, zz⟩ := cells4O HT10.out.rz; have zz0 := zz 0; have zz1 := zz 1; have zz2 := zz 2; have zz3 := zz 3; clear zz hb HWr HT5 y0 y1 y2 y3) | (go_at_call 56; (with_reducible refine (HGr.out _ _ _).mono ?_); rintro e w11 ⟨rfl, hw11⟩; subst w11; clear HGr))
          (try simp only [Exit.inBlock, Exit.then])
          refine bodyPost_ret (results_reqO rfl _ _ _ 54 _ (0, 0) rfl (fourCO HT10.out.rz _ _ _ _) rfl) rfl ?_
          refine .inr ⟨HGz.out, q6, d6, ?_, fat_set4 HT10.out.row H2F.out HT10.out.rz (fun s e => by cases e) (fun s e => by cases e) _ _ _ _, ?_⟩
          · rw [HNF.out]
            rfl
          · iterate 4 refine Below.setCell ?_ (Nat.le_succ _) _
            exact HT10.out.low
      · as_aux_lemma =>
          obtain ⟨ge, hge⟩ : ∃ ge : Int, (greatE F.length e0 : Int) = ge := ⟨_, rfl⟩
          have hge0 : (ge != 0) = true := by simp; omega
          have hge1 : ¬ ge = 0 := by omega
          have HGE := hid hge
          
          have HGr := hid (show ∀ (W : World) (q : Option Addr) (d : Nat), Calls Tryz.prog 56 #[.slice q (X3.length + 1) d, .int .i64 (e0 : Int)] W fun r w' => r = .returned (.int .i64 ge) ∧ w' = W from fun W q d => by
            have h := HSzd.out W q (X3.length + 1) d e0
            rw [← HNF.out, hge] at h
            rw [← HNF.out]
            exact h)
          
          have HGz := hid hgr
          clear hgr HSzd hge
          go_wp2_with (first | (go_at_call 52; (with_reducible refine (HPo.out _).mono ?_); rintro e w7 ⟨rfl, hw7⟩; subst w7; clear HPo) | (go_at_call 55; have HT5 := hid (show RtD w (w6.alloc (.cells #[.string M, .string T, .int .i64 1, .slice q6 (X3.length + 1) d6] 54 (0, 0))) #[.string M, .string T, .int .i64 1, .slice q6 (X3.length + 1) d6] q6 w6.heap.size F from ⟨below_out HR6.out.low (below_new _ _), ((below_new w6 _).block _ (lt_of_heap HR6.out.rz)).trans HR6.out.rz, heap_alloc_new w6 _, HK6.out.next (below_new _ _)⟩); (with_reducible refine (HWr.out _ _ _ _ HN6.out HT5.out.row).mono ?_); rintro e w10 ⟨v10, rfl, hb⟩; have HT10 := hid (HT5.out.next hb); obtain ⟨c0, c1, c2, c3, _⟩ := cells4O HT10.out.nw; obtain ⟨z0, z1, z2, z3, zz⟩ := cells4O HT10.out.rz; have zz0 := zz 0; have zz1 := zz 1; have zz2 := zz 2; have zz3 := zz 3; clear zz hb HWr HT5 y0 y1 y2 y3) | (go_at_call 56; (with_reducible refine (HGr.out _ _ _).mono ?_); rintro e w11 ⟨rfl, hw11⟩; subst w11; clear HGr))
          (try simp only [Exit.inBlock, Exit.then])
          refine bodyPost_ret (results_reqO rfl _ _ _ 54 _ (0, 0) rfl (fourCO HT10.out.rz _ _ _ _) rfl) rfl ?_
          refine .inl ⟨HGz.out, (by rw [HGE.out]; rfl), ?_⟩
          iterate 4 refine Below.setCell ?_ (Nat.le_succ _) _
          exact HT10.out.low
set_option maxRecDepth 20000 in
set_option maxHeartbeats 32000000 in
theorem dreq_n (m t : B) (k : Int) (fs : List (B × B)) (p : Option Addr) (n c : Nat) (hn : fs.length = n) (cl : B) (L : Int) (w : World) (hF : FAt w p fs) (hsz : szN fs) (hnn : n ≤ 1000) (hm : m.length ≤ 1048576) (ht : t.length ≤ 1048576) (hcl : cl.length ≤ 1048576) (hF1z : szC 1048576 (onQ m fs cl k L)) (hLn : L < 0) :
    Calls Tryz.prog 22 #[.agg #[.string (str m), .string (str t), .int .i64 k, .slice p n c], .string (str cl), .int .i64 L] w fun e w' => DAns m t (onQ m fs cl k L) w e w' := by
  have hTl : tellsB m L = false := by unfold tellsB; split <;> simp <;> omega
  have h1z : szC 1048576 (onQ1 fs) := fun f hf => hsz f (onQ1_mem hf)
  have h1w := szC_W h1z (by decide)
  have h0w : szW (stripF fs) := fun f hf => szC_W (C := 1048576) hsz (by decide) f (List.mem_filter.1 hf).1
  have HSt := hid (show ∀ W : World, Below w.heap.size w W → _ from fun W hb => dstrip fs p n c hn W (hF.next hb) hsz hnn)
  have hl0 := stripF_le fs
  have hl2 := onQ1_len fs
  have hl3 := fwdF_len (onQ1 fs) cl
  have hdoc := onQ1_doc fs
  obtain ⟨P, hP⟩ : ∃ P : B × B → Bool, (fun f : B × B => !inB f.1 frmL && !sameB (str f.1) (str expB)) = P := ⟨_, rfl⟩
  have HPe := hid (fun f : B × B => show (!inB f.1 frmL && !sameB (str f.1) (str expB)) = P f from by rw [← hP])
  rw [hP] at hdoc
  have HFw := hid (show ∀ (W : World) (q : Option Addr) (s d : Nat), (onQ1 fs).length = s → FAt W q (onQ1 fs) → (q = none → d = 0) → _ from fun W q s d hs h hc0 => dforwarded (onQ1 fs) cl q s d hs hc0 W h h1w (by omega) (Nat.le_trans hcl (by decide)) (fun f hf => Nat.le_trans (h1z f hf).2 (by decide)))
  have HVi := hid (show ∀ (W : World) (q : Option Addr) (d : Nat), FAt W q (fwdF (onQ1 fs) cl) → _ from fun W q d h => dvia (fwdF (onQ1 fs) cl) k q (fwdF (onQ1 fs) cl).length d rfl (fun e => absurd e (fat_some h (setB_ne _ _ _))) W h (by omega))
  rw [show viaF (fwdF (onQ1 fs) cl) k = onQ2 fs cl k from rfl] at HVi
  have hl4 : (onQ2 fs cl k).length = (fwdF (onQ1 fs) cl).length + 1 := by
    unfold onQ2 viaF
    rw [List.length_append]
    rfl
  have HL4 := hid hl4
  have hlF : (onQ m fs cl k L).length ≤ 100000 := by
    unfold onQ
    rw [if_neg (by rw [hTl]; decide)]
    skip
    omega
  have h2F := onQ_two m fs cl k L
  obtain ⟨F, hFF⟩ : ∃ F, onQ m fs cl k L = F := ⟨_, rfl⟩
  rw [hFF] at hF1z h2F
  rw [hFF]
  have H2F := hid h2F
  have HWr := hid (show ∀ (W : World) (q : Option Addr) (s d : Nat), F.length = s → FAt W q F → _ from fun W q s d hs h => rreq_e m t 1 F q s d hs W h hF1z (by rw [← hs, ← hFF]; exact hlF) hm ht)
  have HFe := hid (show onQ2 fs cl k = F from by rw [← hFF]; unfold onQ; rw [if_neg (by rw [hTl]; decide)])
  have HSzd := hid (show ∀ (W : World) (q : Option Addr) (s d e : Nat), _ from fun W q s d e => dsized q s d e W)
  unfold DAns
  obtain ⟨e0, he0⟩ : ∃ e0, reqE m t 1 F = e0 := ⟨_, rfl⟩
  rw [he0] at HWr
  rw [he0]
  obtain ⟨M, hM⟩ : ∃ M, str m = M := ⟨_, rfl⟩
  obtain ⟨T, hT⟩ : ∃ T, str t = T := ⟨_, rfl⟩
  obtain ⟨CC, hCC⟩ : ∃ C, str cl = C := ⟨_, rfl⟩
  rw [hM] at HWr
  rw [hT] at HWr
  rw [hCC] at HFw
  rw [hM, hT, hCC]
  obtain ⟨X0, hX0⟩ : ∃ X, stripF fs = X := ⟨_, rfl⟩
  rw [hX0] at HSt hdoc h0w hl0
  obtain ⟨s0, hs0⟩ : ∃ s, X0.length = s := ⟨_, rfl⟩
  rw [hs0] at hl0
  have HS0 := hid hs0
  have HZ0 := hid h0w
  obtain ⟨X2, hX2⟩ : ∃ X, onQ1 fs = X := ⟨_, rfl⟩
  rw [hX2] at HFw HVi hdoc HL4
  have HDc := hid hdoc
  obtain ⟨X3, hX3⟩ : ∃ X, fwdF X2 cl = X := ⟨_, rfl⟩
  rw [hX3] at HFw HVi HL4
  obtain ⟨X4, hX4⟩ : ∃ X, onQ2 fs cl k = X := ⟨_, rfl⟩
  rw [hX4] at HVi HFe HL4
  have HR0 := hid (RqO.start w #[.string M, .string T, .int .i64 k, .slice p n c])
  obtain ⟨i0, hi0, hz0, hz1, hz2⟩ := info_parts infoF
  clear hF hsz hF1z h1z h1w hl2 hl3 hl4 hFF he0 hM hT hCC hX0 hX2 hX3 hX4 hTl hlF hP hs0 hdoc h0w h2F hm ht hcl
  go_enter Tryz.func22, Tryz.ntmps22
  obtain ⟨y0, y1, y2, y3, _⟩ := cells4O HR0.out.bx
  go_wp2_with (go_at_call 47; (with_reducible refine (HSt.out _ HR0.out.low).mono ?_); rintro e w1 ⟨v1, rfl, ho, hb⟩; obtain ⟨q1, d1, rfl⟩ : ∃ q d, v1 = .slice q s0 d := (by have h9 := own_slice ho; rw [HS0.out] at h9; exact h9); have HR1 := hid (HR0.out.next hb); have HF1 := hid (OwnF.fat ho); clear hb ho HSt HR0 y0 y1 y2 y3)
  go_loopg [8, 10] (s0 + 1) (fun gk s8 s10 wr => ∃ (i : Nat) (q : Option Addr) (kk d : Nat), s8 = .slice q kk d ∧ s10 = .int .i64 (i : Int) ∧ i ≤ s0 ∧ gk = s0 - i + 1 ∧ ((X0.take i).filter P).length = kk ∧ OwnF wr w1.heap.size (.slice q kk d) ((X0.take i).filter P) ∧ Below w1.heap.size w1 wr)
  case atStart => exact ⟨0, none, 0, 0, rfl, rfl, by omega, rfl, rfl, OwnF.nil _ _, Below.refl _ _⟩
  case round =>
    obtain ⟨i, q, kk, d, rfl, rfl, hin, rfl, hk, ho, hb⟩ := hrel
    rename World => wr
    have hki : kk ≤ i := by rw [← hk]; exact filt_le i
    have HO := hid ho
    have HB := hid hb
    have HK := hid hk
    clear ho hb hk
    by_cases hlt : i < s0
    · obtain ⟨f, hf⟩ : ∃ f, X0[i]? = some f := ⟨X0[i]'(by rw [HS0.out]; exact hlt), List.getElem?_eq_getElem (by rw [HS0.out]; exact hlt)⟩
      obtain ⟨g, oo, hp, c0, c1⟩ := (HF1.out.next HB.out) i f hf
      subst hp
      have hltI : (i : Int) < (s0 : Int) := by omega
      obtain ⟨z1, z2⟩ := HZ0.out f (List.mem_of_getElem? hf)
      have HI1 := hid (show ∀ W : World, _ from fun W => dframe1 f.1 W z1)
      have HSm := hid (show ∀ W : World, _ from fun W => rsame_any (str f.1) (str expB) W (by rw [str_size]; exact z1) (by decide))
      have hpe := HPe.out f
      have HYy := hid (fun (h : P f = true) => filt_yes (P := P) hf h)
      have HYn := hid (fun (h : P f = false) => filt_no (P := P) hf h)
      obtain ⟨N, hN⟩ : ∃ N, str f.1 = N := ⟨_, rfl⟩
      obtain ⟨V, hV⟩ : ∃ V, str f.2 = V := ⟨_, rfl⟩
      have HNN := hid hN
      have HVV := hid hV
      obtain ⟨R1, h1⟩ : ∃ R, inB f.1 frmL = R := ⟨_, rfl⟩
      obtain ⟨R2, h2⟩ : ∃ R, sameB (str f.1) (str expB) = R := ⟨_, rfl⟩
      rw [h1] at HI1 hpe
      rw [h2] at HSm hpe
      rw [hN] at c0 HI1 HSm
      rw [hV] at c1
      have HSm2 := hid (show ∀ W : World, Calls Tryz.prog 49 #[.string N, .string (⟨#[69, 120, 112, 101, 99, 116]⟩ : ByteArray)] W fun e w' => e = .returned (.bool R2) ∧ Below W.heap.size W w' from HSm.out)
      clear hf hN hV z1 z2 h1 h2 HSm
      cases R1 with
      | true =>
        have HY := hid (HYn.out (by rw [← hpe]; rfl))
        clear hpe
        go_wp2_with (go_at_call 48; (with_reducible refine (HI1.out _).mono ?_); rintro e w2 ⟨rfl, hb⟩; have HB2 := hid (below_out HB.out hb); have HO2 := hid (HO.out.keep hb); have x0 := cell_keep hb c0; have x1 := cell_keep hb c1; clear hb HI1 c0 c1)
        go_roundg (s0 - (i + 1) + 1)
        case measure => omega
        case rel => exact ⟨i + 1, q, kk, d, rfl, by go_num, by omega, rfl, by rw [HY.out]; exact HK.out, by rw [HY.out]; exact HO2.out, HB2.out⟩
      | false =>
        cases R2 with
        | true =>
          have HY := hid (HYn.out (by rw [← hpe]; rfl))
          clear hpe
          go_wp2_with (first | (go_at_call 48; (with_reducible refine (HI1.out _).mono ?_); rintro e w2 ⟨rfl, hb⟩; have HB2 := hid (below_out HB.out hb); have HO2 := hid (HO.out.keep hb); have x0 := cell_keep hb c0; have x1 := cell_keep hb c1; clear hb HI1 c0 c1) | (go_at_call 49; (with_reducible refine (HSm2.out _).mono ?_); rintro e w3 ⟨rfl, hb⟩; have HB3 := hid (below_out HB2.out hb); have HO3 := hid (HO2.out.keep hb); have u0 := cell_keep hb x0; have u1 := cell_keep hb x1; clear hb HSm2 x0 x1))
          go_roundg (s0 - (i + 1) + 1)
          case measure => omega
          case rel => exact ⟨i + 1, q, kk, d, rfl, by go_num, by omega, rfl, by rw [HY.out]; exact HK.out, by rw [HY.out]; exact HO3.out, HB3.out⟩
        | false =>
          have HY := hid (HYy.out (by rw [← hpe]; rfl))
          clear hpe
          go_wp2_with (first | (go_at_call 48; (with_reducible refine (HI1.out _).mono ?_); rintro e w2 ⟨rfl, hb⟩; have HB2 := hid (below_out HB.out hb); have HO2 := hid (HO.out.keep hb); have x0 := cell_keep hb c0; have x1 := cell_keep hb c1; clear hb HI1 c0 c1) | (go_at_call 49; (with_reducible refine (HSm2.out _).mono ?_); rintro e w3 ⟨rfl, hb⟩; have HB3 := hid (below_out HB2.out hb); have HO3 := hid (HO2.out.keep hb); have u0 := cell_keep hb x0; have u1 := cell_keep hb x1; clear hb HSm2 x0 x1) | (at_builtin; refine wpList_append_own _ rfl (.tmp 40) (.tmp 45) 33 rfl w1.heap.size 88 i0 _ 2 32 Tryz.underlying33 hi0 hz0 hz1 hz2 rfl (by decide) (.slice q kk d) kk (fldC ((X0.take i).filter P)) (by go_simp) (by have h9 := HO3.out.alloc (.cells #[.string N, .string V] 88 (0, 0)); unfold OwnF at h9; rw [HK.out] at h9; exact h9) ⟨w3.heap.size, 0, none⟩ 1 1 [.string N, .string V] (by go_simp) rfl (cells_new w3 _ _) (by simp [Value.oneCell']) (by unfold maxLen; omega) (by omega) (Nat.le_trans HB3.out.size (below_new _ _).size) ?_; intro v' w7 hown' hgrow _; have HB7 := hid (app_below' HB3.out HB3.out.size HO3.out hgrow); obtain ⟨q', d', rfl⟩ := own_slice hown'; have HO7 := hid (show OwnF w7 w1.heap.size (.slice q' (kk + 1) d') ((X0.take i).filter P ++ [f]) from OwnF.snocW HK.out.symm HNN.out HVV.out hown'); clear hown' hgrow))
          go_roundg (s0 - (i + 1) + 1)
          case measure => omega
          case rel => exact ⟨i + 1, q', kk + 1, d', rfl, by go_num, by omega, rfl, by rw [HY.out, List.length_append, HK.out]; rfl, by rw [HY.out]; exact HO7.out, HB7.out⟩
    · obtain rfl : i = s0 := by omega
      have hltI : ¬ (i : Int) < (i : Int) := by omega
      have HT0 := hid (show (X0.take i).filter P = X2 from by rw [List.take_of_length_le (by rw [HS0.out]; exact Nat.le_refl _)]; exact HDc.out.symm)
      rw [HT0.out] at HO HK
      have HR2 := hid (HR1.out.next HB.out)
      clear hlt HT0
      go_wp2
      have HR4 := hid (show RqO w wr.drew #[.string M, .string T, .int .i64 k, .slice p n c] from HR2.out.next ⟨rfl, rfl, rfl, Nat.le_refl _, fun _ _ => rfl⟩)
      have HO4 := hid (show OwnF wr.drew w1.heap.size (.slice q kk d) X2 from HO.out.keep ⟨rfl, rfl, rfl, Nat.le_refl _, fun _ _ => rfl⟩)
      generalize hW4 : wr.drew = w4 at HR4 HO4
      refine wp_region_noPanic ?_
      refine any_begin 7 (by kernel_rfl) (by kernel_rfl) ?_
      rw [hW4]
      clear hW4 HR2 HO HB
      refine late_begin (fun U => Cells4O U w.heap.size (.string M) (.string T) (.int .i64 k) (.slice p n c)) (fun _ => false) (show Cells4O w4 w.heap.size (.string M) (.string T) (.int .i64 k) (.slice p n c) from cells4O HR4.out.bx) (fun hS => ?_)
      refine late_take (i := 0) (some 47) rfl rfl (by kernel_rfl) (by kernel_rfl) (by kernel_rfl) (by kernel_rfl) (by kernel_rfl) (fun _ _ _ h => h) (by rfl) (v := ?v0r8dreq_n) ?hy0r8dreq_n hS ?rest0r8dreq_n
      case hy0r8dreq_n => intro w0 hSw; obtain ⟨a0, a1, a2, a3, _⟩ := hSw; go_simp; try with_reducible rfl
      simp only [Act.put, List.setIfInBounds_toArray, List.set_cons_zero, List.set_cons_succ]
      refine late_take (i := 1) (some 48) rfl rfl (by kernel_rfl) (by kernel_rfl) (by kernel_rfl) (by kernel_rfl) (by kernel_rfl) (fun _ _ _ h => h) (by rfl) (v := ?v1r8dreq_n) ?hy1r8dreq_n hS ?rest1r8dreq_n
      case hy1r8dreq_n => intro w0 hSw; obtain ⟨a0, a1, a2, a3, _⟩ := hSw; go_simp; try with_reducible rfl
      simp only [Act.put, List.setIfInBounds_toArray, List.set_cons_zero, List.set_cons_succ]
      refine late_take (i := 3) (some 50) rfl rfl (by kernel_rfl) (by kernel_rfl) (by kernel_rfl) (by kernel_rfl) (by kernel_rfl) (fun _ _ _ h => h) (by rfl) (v := ?v3r8dreq_n) ?hy3r8dreq_n hS ?rest3r8dreq_n
      case hy3r8dreq_n => intro w0 hSw; obtain ⟨a0, a1, a2, a3, _⟩ := hSw; go_simp; try with_reducible rfl
      simp only [Act.put, List.setIfInBounds_toArray, List.set_cons_zero, List.set_cons_succ]
      refine late_take (i := 4) (some 51) rfl rfl (by kernel_rfl) (by kernel_rfl) (by kernel_rfl) (by kernel_rfl) (by kernel_rfl) (fun _ _ _ h => h) (by rfl) (v := ?v4r8dreq_n) ?hy4r8dreq_n hS ?rest4r8dreq_n
      case hy4r8dreq_n => intro w0 hSw; obtain ⟨a0, a1, a2, a3, _⟩ := hSw; go_simp; try with_reducible rfl
      simp only [Act.put, List.setIfInBounds_toArray, List.set_cons_zero, List.set_cons_succ]
      refine wpAnyD_one (i := 2) (by kernel_rfl) rfl (fun K' hK => ?_)
      go_simp
      go_at_call 51
      refine (HFw.out _ _ _ _ HK.out HO4.out.fat (own_argsO HO4.out)).mono ?_
      rintro e w5 ⟨q5, d5, rfl, hf5, hb⟩
      have HR5 := hid (HR4.out.next hb)
      have HK5 := hid hf5
      have hS5 : Cells4O w5 w.heap.size (.string M) (.string T) (.int .i64 k) (.slice p n c) := cells4O HR5.out.bx
      refine hK _ _ ⟨fun _ => hS5, ?_⟩
      clear hK K' hb hf5 HFw HR4 HO4 hS
      refine wpAnyD_one (i := 5) (by kernel_rfl) rfl (fun K' hK => ?_)
      go_simp
      go_at_call 50
      refine (HVi.out _ _ _ HK5.out).mono ?_
      rintro e w6 ⟨q6, d6, rfl, hf6, hb⟩
      have HR6 := hid (HR5.out.next hb)
      have HK6 := hid hf6
      have hS6 : Cells4O w6 w.heap.size (.string M) (.string T) (.int .i64 k) (.slice p n c) := cells4O HR6.out.bx
      refine hK _ _ ⟨fun _ => hS6, ?_⟩
      clear hK K' hb hf6 HVi HR5 HK5 hS5
      refine late_take (i := 6) (some 8) rfl rfl (by kernel_rfl) (by kernel_rfl) (by kernel_rfl) (by kernel_rfl) (by kernel_rfl) (fun _ _ _ h => h) (by rfl) (v := ?v6r8dreq_n) ?hy6r8dreq_n hS6 ?rest6r8dreq_n
      case hy6r8dreq_n => intro w0 hSw; obtain ⟨a0, a1, a2, a3, _⟩ := hSw; go_simp; try with_reducible rfl
      simp only [Act.put, List.setIfInBounds_toArray, List.set_cons_zero, List.set_cons_succ]
      refine late_done (by kernel_rfl) ?_ _
      refine NoPanic.normal ?_
      clear hS6
      obtain ⟨y0, y1, y2, y3, _⟩ := cells4O HR6.out.bx
      rw [HFe.out] at HK6
      have HN6 := hid (show F.length = X3.length + 1 from by rw [← HFe.out, HL4.out])
      have HNF := hid (show F.length = (X3.length + 1) from by rw [← HFe.out, HL4.out])
      by_cases hgr : greatE F.length e0 = 0
      · as_aux_lemma =>
          have HGr := hid (show ∀ (W : World) (q : Option Addr) (d : Nat), Calls Tryz.prog 56 #[.slice q (X3.length + 1) d, .int .i64 (e0 : Int)] W fun r w' => r = .returned (.int .i64 0) ∧ w' = W from fun W q d => by
            have h := HSzd.out W q (X3.length + 1) d e0
            rw [← HNF.out, hgr] at h
            rw [← HNF.out]
            exact h)
          
          have HGz := hid hgr
          clear hgr HSzd
          go_wp2_with (first | (go_at_call 55; have HT5 := hid (show RtD w (w6.alloc (.cells #[.string M, .string T, .int .i64 1, .slice q6 (X3.length + 1) d6] 54 (0, 0))) #[.string M, .string T, .int .i64 1, .slice q6 (X3.length + 1) d6] q6 w6.heap.size F from ⟨below_out HR6.out.low (below_new _ _), ((below_new w6 _).block _ (lt_of_heap HR6.out.rz)).trans HR6.out.rz, heap_alloc_new w6 _, HK6.out.next (below_new _ _)⟩); (with_reducible refine (HWr.out _ _ _ _ HN6.out HT5.out.row).mono ?_); rintro e w10 ⟨v10, rfl, hb⟩; have HT10 := hid (HT5.out.next hb); obtain ⟨c0, c1, c2, c3, _⟩ := cells4O HT10.out.nw; obtain ⟨z0, z1, z2, z3, zz⟩ := cells4O HT10.out.rz; have zz0 := zz 0; have zz1 := zz 1; have zz2 := zz 2; have zz3 := zz 3; clear zz hb HWr HT5 y0 y1 y2 y3) | (go_at_call 56; (with_reducible refine (HGr.out _ _ _).mono ?_); rintro e w11 ⟨rfl, hw11⟩; subst w11; clear HGr))
          (try simp only [Exit.inBlock, Exit.then])
          refine bodyPost_ret (results_reqO rfl _ _ _ 54 _ (0, 0) rfl (fourCO HT10.out.rz _ _ _ _) rfl) rfl ?_
          refine .inr ⟨HGz.out, q6, d6, ?_, fat_set4 HT10.out.row H2F.out HT10.out.rz (fun s e => by cases e) (fun s e => by cases e) _ _ _ _, ?_⟩
          · rw [HNF.out]
            rfl
          · iterate 4 refine Below.setCell ?_ (Nat.le_succ _) _
            exact HT10.out.low
      · as_aux_lemma =>
          obtain ⟨ge, hge⟩ : ∃ ge : Int, (greatE F.length e0 : Int) = ge := ⟨_, rfl⟩
          have hge0 : (ge != 0) = true := by simp; omega
          have hge1 : ¬ ge = 0 := by omega
          have HGE := hid hge
          
          have HGr := hid (show ∀ (W : World) (q : Option Addr) (d : Nat), Calls Tryz.prog 56 #[.slice q (X3.length + 1) d, .int .i64 (e0 : Int)] W fun r w' => r = .returned (.int .i64 ge) ∧ w' = W from fun W q d => by
            have h := HSzd.out W q (X3.length + 1) d e0
            rw [← HNF.out, hge] at h
            rw [← HNF.out]
            exact h)
          
          have HGz := hid hgr
          clear hgr HSzd hge
          go_wp2_with (first | (go_at_call 55; have HT5 := hid (show RtD w (w6.alloc (.cells #[.string M, .string T, .int .i64 1, .slice q6 (X3.length + 1) d6] 54 (0, 0))) #[.string M, .string T, .int .i64 1, .slice q6 (X3.length + 1) d6] q6 w6.heap.size F from ⟨below_out HR6.out.low (below_new _ _), ((below_new w6 _).block _ (lt_of_heap HR6.out.rz)).trans HR6.out.rz, heap_alloc_new w6 _, HK6.out.next (below_new _ _)⟩); (with_reducible refine (HWr.out _ _ _ _ HN6.out HT5.out.row).mono ?_); rintro e w10 ⟨v10, rfl, hb⟩; have HT10 := hid (HT5.out.next hb); obtain ⟨c0, c1, c2, c3, _⟩ := cells4O HT10.out.nw; obtain ⟨z0, z1, z2, z3, zz⟩ := cells4O HT10.out.rz; have zz0 := zz 0; have zz1 := zz 1; have zz2 := zz 2; have zz3 := zz 3; clear zz hb HWr HT5 y0 y1 y2 y3) | (go_at_call 56; (with_reducible refine (HGr.out _ _ _).mono ?_); rintro e w11 ⟨rfl, hw11⟩; subst w11; clear HGr))
          (try simp only [Exit.inBlock, Exit.then])
          refine bodyPost_ret (results_reqO rfl _ _ _ 54 _ (0, 0) rfl (fourCO HT10.out.rz _ _ _ _) rfl) rfl ?_
          refine .inl ⟨HGz.out, (by rw [HGE.out]; rfl), ?_⟩
          iterate 4 refine Below.setCell ?_ (Nat.le_succ _) _
          exact HT10.out.low
theorem dreq (m t : B) (k : Int) (fs : List (B × B)) (p : Option Addr) (n c : Nat) (hn : fs.length = n) (cl : B) (L : Int) (w : World) (hF : FAt w p fs) (hsz : szN fs) (hnn : n ≤ 1000) (hm : m.length ≤ 1048576) (ht : t.length ≤ 1048576) (hcl : cl.length ≤ 1048576) (hL0 : -9223372036854775808 ≤ L) (hL1 : L ≤ 9223372036854775807) (hF1z : szC 1048576 (onQ m fs cl k L)) :
    Calls Tryz.prog 22 #[.agg #[.string (str m), .string (str t), .int .i64 k, .slice p n c], .string (str cl), .int .i64 L] w fun e w' => DAns m t (onQ m fs cl k L) w e w' := by
  by_cases h1 : 0 < L
  · exact dreq_p m t k fs p n c hn cl L w hF hsz hnn hm ht hcl hL0 hL1 hF1z h1
  · by_cases h2 : L = 0
    · cases h3 : postB m with
      | true => exact dreq_y m t k fs p n c hn cl L w hF hsz hnn hm ht hcl hL0 hL1 hF1z h2 h3
      | false => exact dreq_z m t k fs p n c hn cl L w hF hsz hnn hm ht hcl hF1z h2 h3
    · exact dreq_n m t k fs p n c hn cl L w hF hsz hnn hm ht hcl hF1z (by omega)
end Go.Proofs.YtnlmjlfoeodleaaGreatDoor
