/- The document's steps of a path, and the place that a step tells. -/
import Derived.Test.YtiglabpemlogbaaDoorFollow
import Derived.Maps.AppendAt
namespace Go.Proofs.YtiglabpemlogbaaDoor
open Go.RowKit

/-- Some pieces are cut off; from f to k there is no point. -/
def Scan (p : B) (k f : Nat) (G : List B) : Prop := G.length ≤ k ∧ ((k ≤ p.length ∧ f ≤ k ∧ (∀ x ∈ (p.drop f).take (k - f), x ≠ 46) ∧ G ++ cutL (p.drop f) = cutL p) ∨ (k = p.length + 1 ∧ G = cutL p))
theorem Scan.start (p : B) : Scan p 0 0 [] := ⟨Nat.zero_le _, .inl ⟨Nat.zero_le _, Nat.le_refl _, by intro x hx; simp at hx, by simp⟩⟩
theorem Scan.le {p : B} {k f : Nat} {G : List B} (h : Scan p k f G) (hk : k ≤ p.length) : f ≤ k := by
  rcases h.2 with h | h <;> omega
theorem Scan.done {p : B} {k f : Nat} {G : List B} (h : Scan p k f G) (hk : ¬ k ≤ p.length) : G = cutL p := by
  rcases h.2 with h | h
  · omega
  · exact h.2
theorem drop_take_succ {p : B} {f k : Nat} (h : k < p.length) (hf : f ≤ k) : (p.drop f).take (k + 1 - f) = (p.drop f).take (k - f) ++ [p[k]] := by
  rw [show k + 1 - f = (k - f) + 1 by omega, List.take_add_one, List.getElem?_drop, show f + (k - f) = k by omega, List.getElem?_eq_getElem h]
  rfl
theorem Scan.on {p : B} {k f : Nat} {G : List B} (h : Scan p k f G) (hk : k < p.length) (hc : p[k] ≠ 46) : Scan p (k + 1) f G := by
  rcases h with ⟨h0, ⟨h1, h2, h3, h4⟩ | h1⟩
  · refine ⟨by omega, .inl ⟨by omega, by omega, ?_, h4⟩⟩
    rw [drop_take_succ hk h2]
    intro x hx
    rcases List.mem_append.1 hx with hx | hx
    · exact h3 x hx
    · simp at hx
      rw [hx]
      exact hc
  · omega
theorem Scan.cut {p : B} {k f : Nat} {G : List B} (h : Scan p k f G) (hk : k < p.length) (hc : p[k] = 46) : Scan p (k + 1) (k + 1) (G ++ [(p.drop f).take (k - f)]) := by
  rcases h with ⟨h0, ⟨h1, h2, h3, h4⟩ | h1⟩
  · refine ⟨by simp; omega, .inl ⟨by omega, Nat.le_refl _, by intro x hx; simp at hx, ?_⟩⟩
    have e : p.drop f = (p.drop f).take (k - f) ++ 46 :: p.drop (k + 1) := by
      conv => lhs; rw [← List.take_append_drop (k - f) (p.drop f)]
      rw [List.drop_drop, show f + (k - f) = k by omega, List.drop_eq_getElem_cons hk, hc]
    have e2 := cutL_at ((p.drop f).take (k - f)) (p.drop (k + 1)) h3
    rw [← e] at e2
    rw [List.append_assoc, List.singleton_append, ← e2]
    exact h4
  · omega
theorem Scan.last {p : B} {f : Nat} {G : List B} (h : Scan p p.length f G) : Scan p (p.length + 1) (p.length + 1) (G ++ [(p.drop f).take (p.length - f)]) := by
  rcases h with ⟨h0, ⟨h1, h2, h3, h4⟩ | h1⟩
  · refine ⟨by simp; omega, .inr ⟨rfl, ?_⟩⟩
    have e : (p.drop f).take (p.length - f) = p.drop f := List.take_of_length_le (by simp)
    rw [e] at h3 ⊢
    rw [← h4, cutL_none _ h3]
  · omega
theorem ext_str (p : B) (f k : Nat) : (str p).extract f k = str ((p.drop f).take (k - f)) := by
  apply arr_inj
  simp [List.extract]
def strC (ns : List B) : List Value := ns.map fun t => .string (str t)
theorem names_own {w : World} {base : Nat} {v : Value} {ns : List B} (h : w.ownsRow base 9 1 v ns.length (strC ns)) : ∃ p c, v = .slice p ns.length c ∧ ns.length ≤ c ∧ NamesOn w ns p ∧ ∀ a, p = some a → base ≤ a.block := by
  rcases h.2 with ⟨h1, h2⟩ | ⟨g, cap, cur, h1, h2, h3, h4, _, h6, h7⟩
  · have h0 : ns = [] := List.eq_nil_of_length_eq_zero h2
    subst h0
    exact ⟨none, 0, h1, Nat.le_refl _, fun j t hj => (by simp at hj), fun a h => (by cases h)⟩
  · refine ⟨_, cap, h1, h4, fun j t hj => ⟨g, 0, rfl, ?_⟩, fun a h => by simp only [Option.some.injEq] at h; rw [← h]; exact h2⟩
    have hlt : j < ns.length := (List.getElem?_eq_some_iff.1 hj).1
    have e : (cur.toList.take (ns.length * 1))[j]? = some (.string (str t)) := by
      rw [h7]
      simp [strC, hj]
    rw [List.getElem?_take] at e
    rw [if_pos (by omega)] at e
    simp only [Nat.zero_add]
    simp only [World.cell?, h3]
    simpa using e
theorem infoS : (Tryd.prog.info? 9).map (fun i => (i.zero, i.size, i.bytes)) = some (some (.string ⟨#[]⟩), 1, 16) := by kernel_rfl
theorem one_new (w : World) (u : Value) (T : TypeId) : ∀ j v, [u][j]? = some v → (w.alloc (.cells #[u] T (0, 0))).cell? ((⟨w.heap.size, 0, none⟩ : Addr).add j) = some v := by
  intro j v hj
  cases j with
  | zero =>
    simp at hj
    subst hj
    simp [Addr.add]
  | succ j => simp at hj
theorem info_parts {P : Program} {t : TypeId} {z : Option Value} {s b : Nat} (h : (P.info? t).map (fun i => (i.zero, i.size, i.bytes)) = some (z, s, b)) : ∃ i, P.info? t = some i ∧ i.zero = z ∧ i.size = s ∧ i.bytes = b := by
  cases e : P.info? t with
  | none => rw [e] at h; cases h
  | some i =>
    rw [e] at h
    simp only [Option.map_some, Option.some.injEq, Prod.mk.injEq] at h
    exact ⟨i, rfl, h.1, h.2.1, h.2.2⟩
theorem own_below {w w' : World} {base n m : Nat} {e : TypeId} {v : Value} {xs : List Value} (ho : w.ownsRow base e m v n xs) (hb : base ≤ w.heap.size) (hg : w.grownBy w' v.ownBlock) : Below base w w' :=
  ⟨hg.os, hg.tape, hg.output, hg.size, fun k hk => hg.block k (Nat.lt_of_lt_of_le hk hb) (fun e => by have := ho.lt k e.symm; omega)⟩
theorem own_form {w : World} {base n m : Nat} {e : TypeId} {u : Value} {ys : List Value} (h : w.ownsRow base e m u n ys) : ∃ p c, u = .slice p n c := by
  rcases h.2 with ⟨h1, h2⟩ | ⟨g, cap, cur, h1, _⟩
  · exact ⟨none, 0, by rw [h1, h2]⟩
  · exact ⟨_, _, h1⟩
set_option maxRecDepth 20000 in
set_option maxHeartbeats 8000000 in
theorem rsteps_any (p : B) (hp : p.length ≤ 1048577) (w : World) : Calls Tryd.prog 34 #[.string (str p)] w fun e w' => ∃ q c, e = .returned (.slice q (steps p).length c) ∧ NamesOn w' (steps p) q ∧ (∀ a, q = some a → w.heap.size ≤ a.block) ∧ Below w.heap.size w w' := by
  by_cases h0 : p = []
  · subst h0
    clear hp
    go_enter Tryd.func34, Tryd.ntmps34
    go_wp2
    go_ret
    exact ⟨none, 0, rfl, fun j t hj => (by simp [steps] at hj), fun a h => (by cases h), Below.refl _ _⟩
  · have hst : steps p = cutL p := by unfold steps; rw [if_neg h0]
    rw [hst]
    have hq : ¬ str p = ⟨#[]⟩ := str_ne (b := []) h0
    have hq2 := ne_empty hq
    obtain ⟨i0, hi0, hz0, hz1, hz2⟩ := info_parts infoS
    obtain ⟨n, hn⟩ : ∃ n, p.length = n := ⟨_, rfl⟩
    have HN := hid hn
    have HEx := hid (ext_str p)
    obtain ⟨S, hS⟩ : ∃ S, str p = S := ⟨_, rfl⟩
    have hSn : S.size = n := by rw [← hS, str_size, hn]
    have HByte := hid (show ∀ (k : Nat) (h : k < p.length) (h2 : k < S.size), S[k]'h2 = p[k]'h from fun k h h2 => by subst hS; rfl)
    rw [hS] at hq hq2 HEx ⊢
    rw [hn] at hp
    clear h0 hst hS hn hq
    go_enter Tryd.func34, Tryd.ntmps34
    go_wp2
    go_loopg [3, 4, 5] (n + 2) (fun gk s3 s4 s5 wr => ∃ (k f : Nat) (G : List B), k ≤ n + 1 ∧ f ≤ n + 1 ∧ gk = n + 1 - k + 1 ∧ s4 = .int .i64 (f : Int) ∧ s5 = .int .i64 (k : Int) ∧ Scan p k f G ∧ wr.ownsRow w.heap.size 9 1 s3 G.length (strC G) ∧ Below w.heap.size w wr)
    case atStart => exact ⟨0, 0, [], by omega, by omega, rfl, rfl, rfl, Scan.start p, World.ownsRow_nil _ _ _ _, Below.refl _ _⟩
    case round =>
      obtain ⟨k, f, G, hk, hf, rfl, rfl, rfl, hsc, ho, hb⟩ := hrel
      obtain ⟨q, c0, rfl⟩ := own_form ho
      have HSc := hid hsc
      have HO := hid ho
      have HB := hid hb
      obtain ⟨ln, hln⟩ : ∃ ln, G.length = ln := ⟨_, rfl⟩
      have hlk : ln ≤ k := by rw [← hln]; exact hsc.1
      have HLn := hid hln
      rw [hln] at HO ⊢
      clear hsc ho hb hln
      by_cases hkn : k ≤ n
      · have hfk : f ≤ k := HSc.out.le (by rw [HN.out]; exact hkn)
        by_cases hlast : k = n
        · subst hlast
          have HNx := hid (show Scan p (k + 1) (k + 1) (G ++ [(p.drop f).take (k - f)]) from by have := HSc.out; rw [← HN.out] at this ⊢; exact this.last)
          have hext : S.extract f k = str ((p.drop f).take (k - f)) := HEx.out f k
          go_wp2_with (at_builtin; refine wpList_append_own_at _ rfl (.tmp 24) (.tmp 29) 23 rfl w.heap.size 9 i0 _ 1 16 Tryd.underlying23 hi0 hz0 hz1 hz2 rfl (by decide) (.slice q ln c0) ln (strC G) (by go_simp) (HO.out.alloc _) ⟨wr.heap.size, 0, none⟩ 1 1 [.string (str ((p.drop f).take (k - f)))] (by go_simp) rfl (one_new wr _ _) (by simp [Value.oneCell']) (by unfold maxLen; omega) (by omega) (Nat.le_trans HB.out.size (below_new _ _).size) ?_; intro v' w' hown hgr _ _; have HB2 := hid (HB.out.trans (((below_new wr _).mono HB.out.size).trans (own_below (HO.out.alloc (.cells #[.string (str ((p.drop f).take (k - f)))] 9 (0, 0))) (Nat.le_trans HB.out.size (below_new _ _).size) hgr))); have HW := hid (show w'.ownsRow w.heap.size 9 1 v' (G ++ [(p.drop f).take (k - f)]).length (strC (G ++ [(p.drop f).take (k - f)])) from by rw [List.length_append, HLn.out]; simpa [strC] using hown); obtain ⟨q7, c7, rfl⟩ := own_form hown; clear hown hgr)
          go_roundg (k + 1 - (k + 1) + 1)
          case measure => omega
          case rel => exact ⟨k + 1, k + 1, _, by omega, by omega, rfl, by push_cast; rfl, by push_cast; rfl, HNx.out, HW.out, HB2.out⟩
        · have hlt : k < n := by omega
          have hk1 : k < p.length := by rw [HN.out]; exact hlt
          obtain ⟨bt, hbt⟩ : ∃ bt, p[k] = bt := ⟨_, rfl⟩
          have hbyte : ∀ h : k < S.size, (S[k]'h) = bt := fun h => by rw [HByte.out k hk1 h, hbt]
          by_cases hc : bt = 46
          · subst hc
            have HNx := hid (HSc.out.cut hk1 hbt)
            have hext : S.extract f k = str ((p.drop f).take (k - f)) := HEx.out f k
            clear hbt hk1
            go_wp2_with (at_builtin; refine wpList_append_own_at _ rfl (.tmp 24) (.tmp 29) 23 rfl w.heap.size 9 i0 _ 1 16 Tryd.underlying23 hi0 hz0 hz1 hz2 rfl (by decide) (.slice q ln c0) ln (strC G) (by go_simp) (HO.out.alloc _) ⟨wr.heap.size, 0, none⟩ 1 1 [.string (str ((p.drop f).take (k - f)))] (by go_simp) rfl (one_new wr _ _) (by simp [Value.oneCell']) (by unfold maxLen; omega) (by omega) (Nat.le_trans HB.out.size (below_new _ _).size) ?_; intro v' w' hown hgr _ _; have HB2 := hid (HB.out.trans (((below_new wr _).mono HB.out.size).trans (own_below (HO.out.alloc (.cells #[.string (str ((p.drop f).take (k - f)))] 9 (0, 0))) (Nat.le_trans HB.out.size (below_new _ _).size) hgr))); have HW := hid (show w'.ownsRow w.heap.size 9 1 v' (G ++ [(p.drop f).take (k - f)]).length (strC (G ++ [(p.drop f).take (k - f)])) from by rw [List.length_append, HLn.out]; simpa [strC] using hown); obtain ⟨q7, c7, rfl⟩ := own_form hown; clear hown hgr)
            go_roundg (n + 1 - (k + 1) + 1)
            case measure => omega
            case rel => exact ⟨k + 1, k + 1, _, by omega, by omega, rfl, by push_cast; rfl, by push_cast; rfl, HNx.out, HW.out, HB2.out⟩
          · have HNx := hid (HSc.out.on hk1 (by rw [hbt]; exact hc))
            have hc2 : ¬ (bt.toNat : Int) = 46 := fun e => hc (UInt8.toNat_inj.1 (by show bt.toNat = 46; omega))
            have hc3 : ((bt.toNat : Int) == 46) = false := by simpa using hc2
            clear hbt hk1
            go_wp2
            go_roundg (n + 1 - (k + 1) + 1)
            case measure => omega
            case rel => exact ⟨k + 1, f, G, by omega, by omega, rfl, rfl, by push_cast; rfl, HNx.out, by rw [HLn.out]; exact HO.out, HB.out⟩
      · have HD := hid (HSc.out.done (by rw [HN.out]; exact hkn))
        have hkn2 : (n : Int) < (k : Int) := by omega
        go_wp2
        go_ret
        rw [← HLn.out] at HO
        rw [← HLn.out, HD.out]
        rw [HD.out] at HO
        obtain ⟨q2, c2, e2, _, hnm, hge⟩ := names_own HO.out
        simp only [Value.slice.injEq] at e2
        obtain ⟨rfl, _, rfl⟩ := e2
        exact ⟨_, _, rfl, hnm, hge, HB.out⟩
end Go.Proofs.YtiglabpemlogbaaDoor
