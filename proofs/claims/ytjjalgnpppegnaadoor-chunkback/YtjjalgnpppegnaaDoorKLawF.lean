/- A whole body; the law's small functions. -/
import Derived.Test.YtjjalgnpppegnaaDoorKLast
import Derived.Laws.AppendOwnNone
namespace Go.Proofs.YtjjalgnpppegnaaDoor
open Go.RowKit

theorem FedG.below {F G : Nat → Prop} {w w' : World} {g N : Nat} {s : KS} {l : B} {v : Value} (h : FedG F w w' g s l G v) (hF : ∀ k, F k → N ≤ k) (hN : N ≤ w.heap.size) : Below N w w' := h.only.below hF hN
theorem feed_as {F : Nat → Prop} {w : World} {g : Nat} {s : KS} (h : RdAt F w g s) (hi : InvK s) (l : B) (p : Option Addr) (n c : Nat) (hn : l.length = n) (hnc : n ≤ c) (ha : ArgAt w p l) (hp : ArgOut F p l) (hl : n ≤ 281474976710656) {N M : Nat} {b : Bool} {E : Value} (h1 : feedN s l = N) (h2 : (feedB s l).length = M) (h3 : decide ((feedK s l).st = 11) = b) (h4 : errOf (feedK s l).err = E) :
    Calls Tryd.prog 14 #[.pointer (some ⟨g, 0, none⟩), .slice p n c] w fun e w' => ∃ q d G, e = .returned (.tuple #[.int .i64 (N : Int), .slice q M d, .bool b, E]) ∧ FedG F w w' g s l G (.slice q M d) := by
  refine (feed_any h hi l p n c hn hnc ha hp hl).mono ?_
  rintro e w' ⟨q, d, rfl, G, hG⟩
  subst h1 h2 h3 h4
  exact ⟨q, d, G, rfl, hG⟩
def wholeE (s : KS) : Nat := if s.err ≠ 0 then s.err else if s.st = 11 then 0 else 31
set_option maxRecDepth 20000 in
set_option maxHeartbeats 8000000 in
theorem whole_a (l : B) (p : Option Addr) (n c : Nat) (hn : l.length = n) (hnc : n ≤ c) (hl : n ≤ 281474976710656) (m : Nat) (hm : m ≤ 1099511627776) (w : World) (ha : ArgAt w p l) {k : Nat} (he : (feedK (newK m) l).err = k) (hk : k ≠ 0) :
    Calls Tryd.prog 10 #[.slice p n c, .int .i64 (m : Int)] w fun e w' => e = .returned (.tuple #[.slice none 0 0, .slice none 0 0, .int .i64 (feedN (newK m) l : Int), .iface 48 (.int .i64 (k : Int))]) ∧ Below w.heap.size w w' := by
  have HN0 := hid (new_yes m w hm)
  obtain ⟨N, hN⟩ : ∃ N, feedN (newK m) l = N := ⟨_, rfl⟩
  obtain ⟨M, hM⟩ : ∃ M, (feedB (newK m) l).length = M := ⟨_, rfl⟩
  have HFd := hid (fun (w1 : World) (h1 : RdAt (fun k => k = w.heap.size) w1 w.heap.size (newK m)) (hb : Below w.heap.size w w1) => feed_as h1 (invK_new hm) l p n c hn hnc (ha.next hb) (ha.out (fun k hk => by omega)) hl hN hM (b := decide ((feedK (newK m) l).st = 11)) (E := .iface 48 (.int .i64 (k : Int))) rfl (by rw [he]; exact errOf_pos hk))
  have HIv := hid (feed_inv l (invK_new hm))
  rw [hN]
  obtain ⟨b, hb⟩ : ∃ b, decide ((feedK (newK m) l).st = 11) = b := ⟨_, rfl⟩
  rw [hb] at HFd
  clear hn hnc ha hl hm hN hM he hk hb
  go_enter Tryd.func10, Tryd.ntmps10
  go_wp2_with (first | (go_at_call 13; (with_reducible refine HN0.out.mono ?_); rintro e w1 ⟨rfl, hr1, hb1, hs1⟩; have HF1 := hid (HFd.out w1 hr1 hb1); have HB1 := hid hb1; have HS1 := hid hs1; clear hr1 hb1 hs1) | (go_at_call 14; (with_reducible refine HF1.out.mono ?_); rintro e w2 ⟨q, d, G, rfl, hG⟩; have HG := hid hG; have HB2 := hid (show Below w.heap.size w w2 from HB1.out.trans (hG.below (fun k hk => by have hk2 : k = w.heap.size := hk; omega) HB1.out.size)); clear hG))
  (try rw [Exit.noGoto_ret])
  refine bodyPost_ret (results_tmp4 rfl _ _ _) rfl ?_
  exact ⟨rfl, HB2.out⟩
set_option maxRecDepth 20000 in
set_option maxHeartbeats 8000000 in
theorem whole_b (l : B) (p : Option Addr) (n c : Nat) (hn : l.length = n) (hnc : n ≤ c) (hl : n ≤ 281474976710656) (m : Nat) (hm : m ≤ 1099511627776) (w : World) (ha : ArgAt w p l) (he : (feedK (newK m) l).err = 0) (hst : (feedK (newK m) l).st ≠ 11) :
    Calls Tryd.prog 10 #[.slice p n c, .int .i64 (m : Int)] w fun e w' => e = .returned (.tuple #[.slice none 0 0, .slice none 0 0, .int .i64 (feedN (newK m) l : Int), .iface 48 (.int .i64 31)]) ∧ Below w.heap.size w w' := by
  have HN0 := hid (new_yes m w hm)
  obtain ⟨N, hN⟩ : ∃ N, feedN (newK m) l = N := ⟨_, rfl⟩
  obtain ⟨M, hM⟩ : ∃ M, (feedB (newK m) l).length = M := ⟨_, rfl⟩
  have HFd := hid (fun (w1 : World) (h1 : RdAt (fun k => k = w.heap.size) w1 w.heap.size (newK m)) (hb : Below w.heap.size w w1) => feed_as h1 (invK_new hm) l p n c hn hnc (ha.next hb) (ha.out (fun k hk => by omega)) hl hN hM (b := false) (E := .nilIface) (by simp [hst]) (by rw [he]; rfl))
  have HIv := hid (feed_inv l (invK_new hm))
  rw [hN]
  clear hn hnc ha hl hm hN hM he hst
  go_enter Tryd.func10, Tryd.ntmps10
  go_wp2_with (first | (go_at_call 13; (with_reducible refine HN0.out.mono ?_); rintro e w1 ⟨rfl, hr1, hb1, hs1⟩; have HF1 := hid (HFd.out w1 hr1 hb1); have HB1 := hid hb1; have HS1 := hid hs1; clear hr1 hb1 hs1) | (go_at_call 14; (with_reducible refine HF1.out.mono ?_); rintro e w2 ⟨q, d, G, rfl, hG⟩; have HG := hid hG; have HB2 := hid (show Below w.heap.size w w2 from HB1.out.trans (hG.below (fun k hk => by have hk2 : k = w.heap.size := hk; omega) HB1.out.size)); clear hG))
  (try rw [Exit.noGoto_ret])
  refine bodyPost_ret (results_tmp4 rfl _ _ _) rfl ?_
  exact ⟨rfl, HB2.out⟩
set_option maxRecDepth 20000 in
set_option maxHeartbeats 8000000 in
theorem whole_c (l : B) (p : Option Addr) (n c : Nat) (hn : l.length = n) (hnc : n ≤ c) (hl : n ≤ 281474976710656) (m : Nat) (hm : m ≤ 1099511627776) (w : World) (ha : ArgAt w p l) (he : (feedK (newK m) l).err = 0) (hst : (feedK (newK m) l).st = 11) :
    Calls Tryd.prog 10 #[.slice p n c, .int .i64 (m : Int)] w fun e w' => ∃ q d t dt, e = .returned (.tuple #[.slice q (feedB (newK m) l).length d, .slice t (feedK (newK m) l).tr.length dt, .int .i64 (feedN (newK m) l : Int), .nilIface]) ∧ Own w' w.heap.size (.slice q (feedB (newK m) l).length d) (feedB (newK m) l) ∧ OwnF w' w.heap.size (.slice t (feedK (newK m) l).tr.length dt) (feedK (newK m) l).tr ∧ Below w.heap.size w w' := by
  have HN0 := hid (new_yes m w hm)
  obtain ⟨N, hN⟩ : ∃ N, feedN (newK m) l = N := ⟨_, rfl⟩
  obtain ⟨M, hM⟩ : ∃ M, (feedB (newK m) l).length = M := ⟨_, rfl⟩
  have HFd := hid (fun (w1 : World) (h1 : RdAt (fun k => k = w.heap.size) w1 w.heap.size (newK m)) (hb : Below w.heap.size w w1) => feed_as h1 (invK_new hm) l p n c hn hnc (ha.next hb) (ha.out (fun k hk => by omega)) hl hN hM (b := true) (E := .nilIface) (by simp [hst]) (by rw [he]; rfl))
  have HIv := hid (feed_inv l (invK_new hm))
  rw [hN, hM]
  obtain ⟨tl, htl⟩ : ∃ tl, (feedK (newK m) l).tr.length = tl := ⟨_, rfl⟩
  have HTl := hid htl
  rw [htl]
  clear hn hnc ha hl hm hN hM he hst htl
  go_enter Tryd.func10, Tryd.ntmps10
  go_wp2_with (first | (go_at_call 13; (with_reducible refine HN0.out.mono ?_); rintro e w1 ⟨rfl, hr1, hb1, hs1⟩; have HF1 := hid (HFd.out w1 hr1 hb1); have HB1 := hid hb1; have HS1 := hid hs1; clear hr1 hb1 hs1) | (go_at_call 14; (with_reducible refine HF1.out.mono ?_); rintro e w2 ⟨q, d, G, rfl, hG⟩; have HG := hid hG; have HB2 := hid (show Below w.heap.size w w2 from HB1.out.trans (hG.below (fun k hk => by have hk2 : k = w.heap.size := hk; omega) HB1.out.size)); clear hG) | (go_at_call 15; (with_reducible refine (trailers_any HG.out.rd HIv.out.tr).mono ?_); rintro e w3 ⟨t3, d3, rfl, ho3, hb3⟩; rw [HTl.out] at ho3 ⊢; have HO3 := hid ho3; have HB3 := hid hb3; clear ho3 hb3))
  (try rw [Exit.noGoto_ret])
  refine bodyPost_ret (results_tmp4 rfl _ _ _) rfl ?_
  exact ⟨q, d, t3, d3, rfl, (own_base HG.out.body HB1.out.size).keep HB3.out, HO3.out.lower HB2.out.size, below_out HB2.out HB3.out⟩
theorem assertE (v : Value) (w : World) : (Instr.typeAssert (.iface 48 v) 26 48 true).run Tryd.prog w = .ok (.tuple #[v, .bool true]) w := by kernel_rfl
set_option maxRecDepth 20000 in
set_option maxHeartbeats 8000000 in
theorem num_0 (w : World) : Calls Tryd.prog 12 #[.nilIface] w fun e w' => e = .returned (.int .i64 0) ∧ w' = w := by
  go_enter Tryd.func12, Tryd.ntmps12
  go_wp2
  go_ret
  exact ⟨rfl, rfl⟩
set_option maxRecDepth 20000 in
set_option maxHeartbeats 8000000 in
theorem num_1 (k : Int) (w : World) : Calls Tryd.prog 12 #[.iface 48 (.int .i64 k)] w fun e w' => e = .returned (.int .i64 k) ∧ w' = w := by
  have hA := fun w : World => assertE (.int .i64 k) w
  go_enter Tryd.func12, Tryd.ntmps12
  go_wp2
  go_ret
  exact ⟨rfl, rfl⟩
theorem num_any (k : Nat) (w : World) : Calls Tryd.prog 12 #[errOf k] w fun e w' => e = .returned (.int .i64 (k : Int)) ∧ w' = w := by
  by_cases h : k = 0
  · subst h; exact num_0 w
  · rw [errOf_pos h]; exact num_1 _ w
/-- A copy of bytes that were handed in. -/
theorem wpList_copy {w : World} {ops : Array Oper} {rest : List Oper} {o : Oper} {a : Act} {Q : Exit → Act → World → Prop} (hgd : o.guard = none) (s x : Operand)
    (ho : o.op = .call { callee := .builtin .append, args := #[s, x], argTypes := #[24, 24] }) (hs : a.eval s = .slice none 0 0) (L : B) (p : Option Addr) (n c : Nat) (hx : a.eval x = .slice p n c) (hn : L.length = n) (hA : ArgAt w p L) (hp : p = none → c = 0) (hl : n ≤ 140737488355328)
    (h : ∀ q d w', Own w' w.heap.size (.slice q n d) L → Below w.heap.size w w' → (n = 0 → q = none ∧ d = 0) → (0 < n → ∃ g, q = some ⟨g, 0, none⟩) → wpList Tryd.prog ops Q rest (a.put o.dst (.slice q n d)) w') : wpList Tryd.prog ops Q (o :: rest) a w := by
  obtain ⟨i0, hi0, hz0, hz1, hz2⟩ := info_parts infoB
  cases p with
  | none =>
    have hL : L = [] := by
      cases L with
      | nil => rfl
      | cons y r => obtain ⟨_, _, e, _⟩ := hA 0 y rfl; cases e
    subst hL
    obtain rfl : n = 0 := by simpa using hn.symm
    obtain rfl := hp rfl
    exact wpList_append_own_none hgd s x 24 ho w.heap.size 5 i0 1 Tryd.underlying24 hi0 (.slice none 0 0) 0 [] hs ⟨rfl, .inl ⟨rfl, rfl⟩⟩ hx (h none 0 w (Own.nil _ _) (Below.refl _ _) (fun _ => ⟨rfl, rfl⟩) (fun h => absurd h (by omega)))
  | some ad =>
    refine wpList_append_own_at w hgd s x 24 ho w.heap.size 5 i0 _ 1 1 Tryd.underlying24 hi0 hz0 hz1 hz2 rfl (by decide) (.slice none 0 0) 0 [] hs ⟨rfl, .inl ⟨rfl, rfl⟩⟩ ad n c (Lib.byteCells L) hx (by simp [Lib.byteCells, hn]) (fun j u hj => ?_) (fun u hu => ?_) (by unfold maxLen; omega) (by omega) (Nat.le_refl _) ?_
    · unfold Lib.byteCells at hj
      rw [List.getElem?_map] at hj
      cases hy : L[j]? with
      | none => rw [hy] at hj; cases hj
      | some y =>
        rw [hy] at hj
        obtain rfl := Option.some.inj hj
        obtain ⟨g, o2, e, hc⟩ := hA j y hy
        obtain rfl := Option.some.inj e
        have : (⟨g, o2, none⟩ : Addr).add j = ⟨g, o2 + j, none⟩ := by unfold Addr.add; split <;> simp_all
        rw [this]
        exact hc
    · unfold Lib.byteCells at hu
      obtain ⟨c, _, rfl⟩ := List.mem_map.1 hu
      rfl
    · intro v' w' hown hgr hnil _
      rw [Nat.zero_add, List.nil_append] at hown
      have hsome : 0 < n → ∃ g cp, v' = .slice (some ⟨g, 0, none⟩) n cp := fun hp => by
        rcases hown.2 with ⟨_, h0⟩ | ⟨g, cap, cur, h1, _⟩
        · omega
        · exact ⟨g, cap, h1⟩
      obtain ⟨q, d, rfl⟩ := own_slice hown
      refine h q d w' (by unfold Own; rw [hn]; exact hown) (below_grown hgr) (fun h0 => ?_) (fun h0 => ?_)
      · have := hnil.2 ⟨rfl, h0⟩
        simp only [Value.slice.injEq] at this
        exact ⟨this.1, this.2.2⟩
      · obtain ⟨g, cp, e⟩ := hsome h0
        simp only [Value.slice.injEq] at e
        exact ⟨g, e.1⟩
set_option maxRecDepth 20000 in
set_option maxHeartbeats 8000000 in
theorem twin_any (L : B) (p : Option Addr) (n c : Nat) (hn : L.length = n) (w : World) (ha : ArgAt w p L) (hp : p = none → c = 0) (hl : n ≤ 140737488355328) :
    Calls Tryd.prog 9 #[.slice p n c] w fun e w' => ∃ q d, e = .returned (.slice q n d) ∧ Own w' w.heap.size (.slice q n d) L ∧ Below w.heap.size w w' := by
  have HN := hid hn
  have HA := hid ha
  have HP := hid hp
  clear hn ha hp
  go_enter Tryd.func9, Tryd.ntmps9
  go_wp2_with (at_builtin; refine wpList_copy rfl (.tmp 4) (.tmp 5) rfl (by go_simp) L p n c (by go_simp) HN.out HA.out HP.out hl ?_; intro q d w1 ho hb _ _; have HO := hid ho; have HB := hid hb; clear ho hb)
  go_ret
  exact ⟨q, d, rfl, HO.out, HB.out⟩
structure RdL (U : World) (g o g' o' : Nat) (N V : ByteArray) : Prop where
  a0 : U.cell? ⟨g, o, none⟩ = some (.string N)
  a1 : U.cell? ⟨g, o + 1, none⟩ = some (.string V)
  b0 : U.cell? ⟨g', o', none⟩ = some (.string N)
  b1 : U.cell? ⟨g', o' + 1, none⟩ = some (.string V)
set_option maxRecDepth 20000 in
set_option maxHeartbeats 8000000 in
theorem fields_same (fs : List (B × B)) (p p' : Option Addr) (n c c' : Nat) (hn : fs.length = n) (w : World) (hF : FAt w p fs) (hF' : FAt w p' fs) (hnn : n ≤ 140737488355328) :
    Calls Tryd.prog 11 #[.slice p n c, .slice p' n c'] w fun e w' => e = .returned (.bool true) ∧ Below w.heap.size w w' := by
  have HF := hid hF
  have HF' := hid hF'
  have HN := hid hn
  clear hF hF' hn
  go_enter Tryd.func11, Tryd.ntmps11
  go_wp2
  go_loopg [5] (n + 1) (fun gk s5 wr => ∃ i : Nat, s5 = .int .i64 (i : Int) ∧ i ≤ n ∧ gk = n - i + 1 ∧ Below w.heap.size w wr)
  case atStart => exact ⟨0, rfl, by omega, rfl, Below.refl _ _⟩
  case round =>
    obtain ⟨i, rfl, hin, rfl, hb⟩ := hrel
    have HB := hid hb
    clear hb
    by_cases hlt : i < n
    · obtain ⟨f, hf⟩ : ∃ f, fs[i]? = some f := ⟨fs[i]'(by rw [HN.out]; exact hlt), List.getElem?_eq_getElem (by rw [HN.out]; exact hlt)⟩
      obtain ⟨g, o, hp, c0, c1⟩ := (HF.out.next HB.out) i f hf
      obtain ⟨g', o', hp', d0, d1⟩ := (HF'.out.next HB.out) i f hf
      subst hp hp'
      have hltI : (i : Int) < (n : Int) := by omega
      obtain ⟨N, hN⟩ : ∃ N, str f.1 = N := ⟨_, rfl⟩
      obtain ⟨V, hV⟩ : ∃ V, str f.2 = V := ⟨_, rfl⟩
      rw [hN] at c0 d0
      rw [hV] at c1 d1
      have hS0 : RdL wr.drew g (o + i * 2) g' (o' + i * 2) N V := ⟨c0, c1, d0, d1⟩
      clear hf hN hV
      go_wp2
      refine wp_region_noPanic ?_
      refine any_begin 9 (by kernel_rfl) (by kernel_rfl) ?_
      refine late_begin (fun U => RdL U g (o + i * 2) g' (o' + i * 2) N V) (fun _ => false) hS0 (fun hS => ?_)
      refine late_take (i := 0) (some 17) rfl rfl (by kernel_rfl) (by kernel_rfl) (by kernel_rfl) (by kernel_rfl) (by kernel_rfl) (fun _ _ _ h => h) (by rfl) (v := ?v0f) ?hy0f hS ?rest0f
      case hy0f => intro w0 hSw; obtain ⟨a0, a1, b0, b1⟩ := hSw; go_simp; try with_reducible rfl
      simp only [Act.put, List.setIfInBounds_toArray, List.set_cons_zero, List.set_cons_succ]
      refine late_take (i := 1) (some 18) rfl rfl (by kernel_rfl) (by kernel_rfl) (by kernel_rfl) (by kernel_rfl) (by kernel_rfl) (fun _ _ _ h => h) (by rfl) (v := ?v1f) ?hy1f hS ?rest1f
      case hy1f => intro w0 hSw; obtain ⟨a0, a1, b0, b1⟩ := hSw; go_simp; try with_reducible rfl
      simp only [Act.put, List.setIfInBounds_toArray, List.set_cons_zero, List.set_cons_succ]
      refine late_take (i := 2) (some 19) rfl rfl (by kernel_rfl) (by kernel_rfl) (by kernel_rfl) (by kernel_rfl) (by kernel_rfl) (fun _ _ _ h => h) (by rfl) (v := ?v2f) ?hy2f hS ?rest2f
      case hy2f => intro w0 hSw; obtain ⟨a0, a1, b0, b1⟩ := hSw; go_simp; try with_reducible rfl
      simp only [Act.put, List.setIfInBounds_toArray, List.set_cons_zero, List.set_cons_succ]
      refine late_take (i := 3) (some 20) rfl rfl (by kernel_rfl) (by kernel_rfl) (by kernel_rfl) (by kernel_rfl) (by kernel_rfl) (fun _ _ _ h => h) (by rfl) (v := ?v3f) ?hy3f hS ?rest3f
      case hy3f => intro w0 hSw; obtain ⟨a0, a1, b0, b1⟩ := hSw; go_simp; try with_reducible rfl
      simp only [Act.put, List.setIfInBounds_toArray, List.set_cons_zero, List.set_cons_succ]
      refine late_take (i := 4) (some 21) rfl rfl (by kernel_rfl) (by kernel_rfl) (by kernel_rfl) (by kernel_rfl) (by kernel_rfl) (fun _ _ _ h => h) (by rfl) (v := ?v4f) ?hy4f hS ?rest4f
      case hy4f => intro w0 hSw; obtain ⟨a0, a1, b0, b1⟩ := hSw; go_simp; try with_reducible rfl
      simp only [Act.put, List.setIfInBounds_toArray, List.set_cons_zero, List.set_cons_succ]
      refine late_take (i := 5) (some 22) rfl rfl (by kernel_rfl) (by kernel_rfl) (by kernel_rfl) (by kernel_rfl) (by kernel_rfl) (fun _ _ _ h => h) (by rfl) (v := ?v5f) ?hy5f hS ?rest5f
      case hy5f => intro w0 hSw; obtain ⟨a0, a1, b0, b1⟩ := hSw; go_simp; try with_reducible rfl
      simp only [Act.put, List.setIfInBounds_toArray, List.set_cons_zero, List.set_cons_succ]
      refine late_take (i := 6) (some 23) rfl rfl (by kernel_rfl) (by kernel_rfl) (by kernel_rfl) (by kernel_rfl) (by kernel_rfl) (fun _ _ _ h => h) (by rfl) (v := ?v6f) ?hy6f hS ?rest6f
      case hy6f => intro w0 hSw; obtain ⟨a0, a1, b0, b1⟩ := hSw; go_simp; try with_reducible rfl
      simp only [Act.put, List.setIfInBounds_toArray, List.set_cons_zero, List.set_cons_succ]
      refine late_take (i := 7) (some 24) rfl rfl (by kernel_rfl) (by kernel_rfl) (by kernel_rfl) (by kernel_rfl) (by kernel_rfl) (fun _ _ _ h => h) (by rfl) (v := ?v7f) ?hy7f hS ?rest7f
      case hy7f => intro w0 hSw; obtain ⟨a0, a1, b0, b1⟩ := hSw; go_simp; try with_reducible rfl
      simp only [Act.put, List.setIfInBounds_toArray, List.set_cons_zero, List.set_cons_succ]
      refine late_take (i := 8) (some 25) rfl rfl (by kernel_rfl) (by kernel_rfl) (by kernel_rfl) (by kernel_rfl) (by kernel_rfl) (fun _ _ _ h => h) (by rfl) (v := ?v8f) ?hy8f hS ?rest8f
      case hy8f => intro w0 hSw; obtain ⟨a0, a1, b0, b1⟩ := hSw; go_simp; try with_reducible rfl
      simp only [Act.put, List.setIfInBounds_toArray, List.set_cons_zero, List.set_cons_succ]
      refine late_done (by kernel_rfl) ?_ _
      refine NoPanic.normal ?_
      go_wp2
      go_roundg (n - (i + 1) + 1)
      case measure => omega
      case rel => exact ⟨i + 1, by go_num, by omega, rfl, HB.out.drew⟩
    · obtain rfl : i = n := by omega
      have hltI : ¬ (i : Int) < (i : Int) := by omega
      clear hlt
      go_wp2
      go_ret
      exact ⟨rfl, HB.out⟩
theorem OwnF.fat {w : World} {b n c : Nat} {p : Option Addr} {fs : List (B × B)} (h : OwnF w b (.slice p n c) fs) : FAt w p fs := fun j f hj => by
  obtain ⟨g, o, e, h1, h2⟩ := h.at hj
  exact ⟨g, o, e, by rw [Nat.mul_comm]; exact h1, by rw [Nat.mul_comm]; exact h2⟩
theorem const_arg (w : World) (C : Array Value) (L : B) (fr : Nat × Nat) (hC : C = (Lib.byteCells L).toArray) : ArgAt (w.alloc (.cells C 5 fr)) (some ⟨w.heap.size, 0, none⟩) L := by
  subst hC
  intro i y hi
  refine ⟨w.heap.size, 0, rfl, ?_⟩
  have h1 := heap_alloc_new w (.cells (Lib.byteCells L).toArray 5 fr)
  rw [Nat.zero_add]
  simp only [World.cell?, h1]
  simp [Lib.byteCells, hi]
def wkA : B := [51, 13, 10, 97, 98, 99, 13, 10, 48, 13, 10, 13, 10, 88]
def wkB : B := [51, 10, 97, 98, 99]
def wkH : B := [104, 101, 108, 108, 111]
theorem wk_a : (feedK (newK 10) wkA).err = 0 ∧ (feedK (newK 10) wkA).st = 11 ∧ feedB (newK 10) wkA = [97, 98, 99] ∧ (feedK (newK 10) wkA).tr = [] ∧ feedN (newK 10) wkA = 13 := by decide +kernel
theorem wk_b : (feedK (newK 10) wkB).err = 31 ∧ feedN (newK 10) wkB = 2 := by decide +kernel
theorem wk_h : encK wkH = [53, 13, 10, 104, 101, 108, 108, 111, 13, 10] := by decide +kernel
theorem wk_A (W : World) : Calls Tryd.prog 10 #[.slice (some ⟨W.heap.size, 0, none⟩) 14 14, .int .i64 10] (W.alloc (.cells #[.int .u8 51, .int .u8 13, .int .u8 10, .int .u8 97, .int .u8 98, .int .u8 99, .int .u8 13, .int .u8 10, .int .u8 48, .int .u8 13, .int .u8 10, .int .u8 13, .int .u8 10, .int .u8 88] 5 (14, 15))) (fun e w' => ∃ q d t dt, e = .returned (.tuple #[.slice q 3 d, .slice t 0 dt, .int .i64 13, .nilIface]) ∧ Own w' W.heap.size (.slice q 3 d) [97, 98, 99] ∧ Below W.heap.size W w') := by
  obtain ⟨a1, a2, a3, a4, a5⟩ := wk_a
  have h := whole_c wkA (some ⟨W.heap.size, 0, none⟩) 14 14 rfl (by omega) (by omega) 10 (by omega) (W.alloc (.cells #[.int .u8 51, .int .u8 13, .int .u8 10, .int .u8 97, .int .u8 98, .int .u8 99, .int .u8 13, .int .u8 10, .int .u8 48, .int .u8 13, .int .u8 10, .int .u8 13, .int .u8 10, .int .u8 88] 5 (14, 15))) (const_arg W _ wkA _ rfl) a1 a2
  rw [a3, a4, a5] at h
  refine h.mono ?_
  rintro e w' ⟨q, d, t, dt, rfl, ho, _, hb⟩
  exact ⟨q, d, t, dt, rfl, own_base ho (by simp), (below_new W _).trans (hb.mono (by simp))⟩
theorem wk_B (W : World) : Calls Tryd.prog 10 #[.slice (some ⟨W.heap.size, 0, none⟩) 5 5, .int .i64 10] (W.alloc (.cells #[.int .u8 51, .int .u8 10, .int .u8 97, .int .u8 98, .int .u8 99] 5 (5, 6))) (fun e w' => e = .returned (.tuple #[.slice none 0 0, .slice none 0 0, .int .i64 2, .iface 48 (.int .i64 31)]) ∧ Below W.heap.size W w') := by
  obtain ⟨a1, a2⟩ := wk_b
  have h := whole_a wkB (some ⟨W.heap.size, 0, none⟩) 5 5 rfl (by omega) (by omega) 10 (by omega) (W.alloc (.cells #[.int .u8 51, .int .u8 10, .int .u8 97, .int .u8 98, .int .u8 99] 5 (5, 6))) (const_arg W _ wkB _ rfl) a1 (by decide)
  rw [a2] at h
  refine h.mono ?_
  rintro e w' ⟨rfl, hb⟩
  exact ⟨rfl, (below_new W _).trans (hb.mono (by simp))⟩
theorem wk_H (W : World) (hE : EnvK W) : Calls Tryd.prog 8 #[.slice (some ⟨W.heap.size, 0, none⟩) 5 5] (W.alloc (.cells #[.int .u8 104, .int .u8 101, .int .u8 108, .int .u8 108, .int .u8 111] 5 (5, 6))) (fun e w' => ∃ q d, e = .returned (.slice q 10 d) ∧ Own w' W.heap.size (.slice q 10 d) [53, 13, 10, 104, 101, 108, 108, 111, 13, 10] ∧ Below W.heap.size W w') := by
  have h := enc_any wkH (some ⟨W.heap.size, 0, none⟩) 5 5 rfl (by omega) (W.alloc (.cells #[.int .u8 104, .int .u8 101, .int .u8 108, .int .u8 108, .int .u8 111] 5 (5, 6))) (const_arg W _ wkH _ rfl) (hE.next (below_new W _))
  rw [wk_h] at h
  refine h.mono ?_
  rintro e w' ⟨q, m, d, rfl, ho, hb⟩
  obtain rfl := slice_part ho
  exact ⟨q, d, rfl, own_base ho (by simp), (below_new W _).trans (hb.mono (by simp))⟩
set_option maxRecDepth 20000 in
set_option maxHeartbeats 8000000 in
theorem works_any (w : World) (hE : EnvK w) : Calls Tryd.prog 7 #[] w fun e w' => e = .returned (.bool true) ∧ Below w.heap.size w w' := by
  have hcA : ∀ W : World, (convert 24 24 (.slice (some ⟨W.heap.size, 0, none⟩) 14 14)).run Tryd.prog (W.alloc (.cells #[.int .u8 51, .int .u8 13, .int .u8 10, .int .u8 97, .int .u8 98, .int .u8 99, .int .u8 13, .int .u8 10, .int .u8 48, .int .u8 13, .int .u8 10, .int .u8 13, .int .u8 10, .int .u8 88] 5)) = .ok (.slice (some ⟨W.heap.size, 0, none⟩) 14 14) (W.alloc (.cells #[.int .u8 51, .int .u8 13, .int .u8 10, .int .u8 97, .int .u8 98, .int .u8 99, .int .u8 13, .int .u8 10, .int .u8 48, .int .u8 13, .int .u8 10, .int .u8 13, .int .u8 10, .int .u8 88] 5 (14, 15))) := fun W => Lib.run_convert_bytes_const W 24 5 _ 14 14 Tryd.underlying24 Tryd.underlying5
  have hcB : ∀ W : World, (convert 24 24 (.slice (some ⟨W.heap.size, 0, none⟩) 5 5)).run Tryd.prog (W.alloc (.cells #[.int .u8 51, .int .u8 10, .int .u8 97, .int .u8 98, .int .u8 99] 5)) = .ok (.slice (some ⟨W.heap.size, 0, none⟩) 5 5) (W.alloc (.cells #[.int .u8 51, .int .u8 10, .int .u8 97, .int .u8 98, .int .u8 99] 5 (5, 6))) := fun W => Lib.run_convert_bytes_const W 24 5 _ 5 5 Tryd.underlying24 Tryd.underlying5
  have hcH : ∀ W : World, (convert 24 24 (.slice (some ⟨W.heap.size, 0, none⟩) 5 5)).run Tryd.prog (W.alloc (.cells #[.int .u8 104, .int .u8 101, .int .u8 108, .int .u8 108, .int .u8 111] 5)) = .ok (.slice (some ⟨W.heap.size, 0, none⟩) 5 5) (W.alloc (.cells #[.int .u8 104, .int .u8 101, .int .u8 108, .int .u8 108, .int .u8 111] 5 (5, 6))) := fun W => Lib.run_convert_bytes_const W 24 5 _ 5 5 Tryd.underlying24 Tryd.underlying5
  have HcB := hid hcB
  have HcH := hid hcH
  have hc1 := hcA w
  have HE := hid hE
  have HA := hid (wk_A w)
  clear hcA hcB hcH hE
  go_enter Tryd.func7, Tryd.ntmps7
  go_wp2_with (first | (go_at_call 10; (with_reducible refine HA.out.mono ?_); rintro e w2 ⟨q, d, t, dt, rfl, ho, hb⟩; have HO := hid ho; have HB2 := hid hb; have hc2 := HcB.out w2; have HB := hid (wk_B w2); clear hc1 ho hb HA) | (go_at_call 10; (with_reducible refine HB.out.mono ?_); rintro e w4 ⟨rfl, hb⟩; have HB4 := hid (below_out HB2.out hb); have hs := conv_own (HO.out.keep hb); have hc3 := HcH.out w4; have HH := hid (wk_H w4 (HE.out.next HB4.out)); clear hc2 hb HB) | (go_at_call 12; (with_reducible refine (num_1 31 _).mono ?_); rintro e w5 ⟨rfl, hw5⟩; subst w5) | (go_at_call 8; (with_reducible refine HH.out.mono ?_); rintro e w6 ⟨q6, d6, rfl, ho, hb⟩; have HB6 := hid (below_out HB4.out hb); have hs6 := conv_own ho; clear hc3 ho hb HH))
  go_ret
  exact ⟨rfl, HB6.out⟩
end Go.Proofs.YtjjalgnpppegnaaDoor
