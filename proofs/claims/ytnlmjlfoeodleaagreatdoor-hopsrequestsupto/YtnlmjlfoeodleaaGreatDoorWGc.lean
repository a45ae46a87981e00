/- Fields with one set, one more, one gone: the program. -/
import Derived.Test.YtnlmjlfoeodleaaGreatDoorWGb
import Derived.ArgAppend
import Derived.Maps.AppendAt
import Derived.Laws.AppendOwnNone
namespace Go.Proofs.YtnlmjlfoeodleaaGreatDoor
open Go.RowKit

/-- The fields with one in the place of the first of a name, the others of that name gone. -/
def setR (nm : ByteArray) (x : B × B) : Bool → List (B × B) → List (B × B)
  | _, [] => []
  | d, f :: l => if isF nm f = true then (if d = true then setR nm x d l else x :: setR nm x true l) else f :: setR nm x d l
def delB (fs : List (B × B)) (nm : ByteArray) : List (B × B) := fs.filter (fun f => !isF nm f)
def setB (fs : List (B × B)) (nm : ByteArray) (x : B × B) : List (B × B) := if (getB fs nm).2 = true then setR nm x false fs else fs ++ [x]
theorem setR_true (nm : ByteArray) (x : B × B) : ∀ l, setR nm x true l = delB l nm
  | [] => rfl
  | f :: l => by
    unfold setR delB
    rw [List.filter_cons]
    cases h : isF nm f with
    | true => simp; exact setR_true nm x l
    | false => simp; exact setR_true nm x l
theorem setR_at {nm : ByteArray} {x : B × B} : ∀ {fs : List (B × B)} {i : Nat} {f : B × B}, noneTo fs nm i → fs[i]? = some f → isF nm f = true → setR nm x false fs = fs.take i ++ [x] ++ delB (fs.drop (i + 1)) nm
  | [], i, f, _, h, _ => by simp at h
  | y :: l, 0, f, _, h, hf => by
    simp at h
    subst h
    unfold setR
    rw [if_pos hf, if_neg (by decide), setR_true]
    rfl
  | y :: l, i + 1, f, hn, h, hf => by
    have hy : isF nm y = false := hn y (by simp)
    unfold setR
    rw [if_neg (by rw [hy]; decide), setR_at (i := i) (fun g hg => hn g (by simp [hg])) (by simpa using h) hf]
    rfl
theorem get_yes {fs : List (B × B)} {nm : ByteArray} {i : Nat} {f : B × B} (hn : noneTo fs nm i) (h : fs[i]? = some f) (hf : isF nm f = true) : (getB fs nm).2 = true := by unfold getB; rw [findF_at hn h hf]
theorem get_no {fs : List (B × B)} {nm : ByteArray} (hn : noneTo fs nm fs.length) : (getB fs nm).2 = false := by unfold getB; rw [findF_none rfl hn]
theorem del_le (fs : List (B × B)) (nm : ByteArray) : (delB fs nm).length ≤ fs.length := List.length_filter_le _ _
theorem szW_app {a b : List (B × B)} (ha : szW a) (hb : szW b) : szW (a ++ b) := fun f hf => (List.mem_append.1 hf).elim (ha f) (hb f)
theorem szW_one {x : B × B} (h : x.1.length ≤ 140737488351232 ∧ x.2.length ≤ 140737488351232) : szW [x] := fun f hf => by simp at hf; rw [hf]; exact h
theorem szW_del {fs : List (B × B)} (nm : ByteArray) (h : szW fs) : szW (delB fs nm) := fun f hf => h f (List.mem_filter.1 hf).1
theorem szW_take {fs : List (B × B)} (i : Nat) (h : szW fs) : szW (fs.take i) := fun f hf => h f (List.mem_of_mem_take hf)
theorem szW_drop {fs : List (B × B)} (i : Nat) (h : szW fs) : szW (fs.drop i) := fun f hf => h f (List.mem_of_mem_drop hf)
theorem FAt.takeW {w : World} {p : Option Addr} {fs : List (B × B)} (h : FAt w p fs) (i : Nat) : FAt w p (fs.take i) := fun j f hj => h j f (by
  rw [List.getElem?_take] at hj
  split at hj
  · exact hj
  · cases hj)
theorem FAt.dropW {w : World} {g o : Nat} {fs : List (B × B)} (h : FAt w (some ⟨g, o, none⟩) fs) (i : Nat) : FAt w (some ⟨g, o + i * 2, none⟩) (fs.drop i) := fun j f hj => by
  rw [List.getElem?_drop] at hj
  obtain ⟨g', o', e, c0, c1⟩ := h (i + j) f hj
  cases e
  refine ⟨g, o + i * 2, rfl, ?_, ?_⟩
  · rw [show o + i * 2 + j * 2 = o + (i + j) * 2 by omega]; exact c0
  · rw [show o + i * 2 + j * 2 + 1 = o + (i + j) * 2 + 1 by omega]; exact c1
theorem FAt.newsW {w : World} {ad : Addr} {fs : List (B × B)} (h : FAt w (some ad) fs) : ∀ j u, (fldC fs)[j]? = some u → w.cell? (ad.add j) = some u := by
  intro j u hj
  have hlt : j < (fldC fs).length := (List.getElem?_eq_some_iff.1 hj).1
  rw [fldC_len] at hlt
  have hi : j / 2 < fs.length := by omega
  obtain ⟨g, o, e, c0, c1⟩ := h (j / 2) _ (List.getElem?_eq_getElem hi)
  obtain ⟨f0, f1⟩ := fldC_at fs (j / 2) _ (List.getElem?_eq_getElem hi)
  cases e
  have hadd : ∀ j, (⟨g, o, none⟩ : Addr).add j = ⟨g, o + j, none⟩ := fun j => by unfold Addr.add; split <;> simp_all
  rw [hadd]
  rcases Nat.mod_two_eq_zero_or_one j with hm | hm
  · have hj2 : j = 2 * (j / 2) := by omega
    rw [hj2] at hj
    rw [f0] at hj
    cases hj
    rw [show o + j = o + j / 2 * 2 by omega]
    exact c0
  · have hj2 : j = 2 * (j / 2) + 1 := by omega
    rw [hj2] at hj
    rw [f1] at hj
    cases hj
    rw [show o + j = o + j / 2 * 2 + 1 by omega]
    exact c1
theorem fldC_oneW (fs : List (B × B)) : ∀ u ∈ fldC fs, u.oneCell' = true := by
  intro u hu
  unfold fldC at hu
  rw [List.mem_flatMap] at hu
  obtain ⟨f, _, hu⟩ := hu
  simp at hu
  rcases hu with rfl | rfl <;> rfl
theorem wpList_append_emptyW {P : Program} (w : World) {ops : Array Oper} {rest : List Oper} {o : Oper} {a : Act} {Q : Exit → Act → World → Prop} (hgd : o.guard = none) (s x : Operand) (t : TypeId)
    (ho : o.op = .call { callee := .builtin .append, args := #[s, x], argTypes := #[t, t] })
    (base : Nat) (e : TypeId) (i : TypeInfo) (z : Value) (size bytes : Nat) (ht : P.underlying t = some (.slice e)) (hi : P.info? e = some i) (hz : i.zero = some z)
    (hsize : i.size = size) (hby : i.bytes = bytes) (hzs : z.cells.size = size) (hsz : 0 < size)
    (v : Value) (n : Nat) (xs : List Value) (hs : a.eval s = v) (hown : w.ownsRow base e size v n xs)
    (q : Option Addr) (d : Nat) (hx : a.eval x = .slice q 0 d) (hq : (q = none ∧ d = 0) ∨ ∃ ad, q = some ad)
    (h63 : n ≤ maxLen) (hbytes : n * bytes ≤ 140737488355328) (hbase : base ≤ w.heap.size)
    (h : ∀ v' w', w'.ownsRow base e size v' n xs → w.grownBy w' v.ownBlock → wpList P ops Q rest (a.put o.dst v') w') : wpList P ops Q (o :: rest) a w := by
  rcases hq with ⟨rfl, rfl⟩ | ⟨ad, rfl⟩
  · exact wpList_append_own_none hgd s x t ho base e i size ht hi v n xs hs hown hx (h v w hown (World.grownBy.refl w _))
  · refine wpList_append_own_at w hgd s x t ho base e i z size bytes ht hi hz hsize hby hzs hsz v n xs hs hown ad 0 d [] hx (by simp) (fun j u hj => by simp at hj) (fun u hu => by simp at hu) (by simpa using h63) (by simpa using hbytes) hbase ?_
    intro v' w' h1 h2 _ _
    rw [Nat.add_zero, List.append_nil] at h1
    exact h v' w' h1 h2
theorem ownF_empty {W : World} {b : Nat} {v : Value} (h : OwnF W b v []) : ∃ q d, v = .slice q 0 d ∧ ((q = none ∧ d = 0) ∨ ∃ ad, q = some ad) := by
  rcases h.2 with ⟨h1, _⟩ | ⟨g, cap, cur, h1, _⟩
  · exact ⟨none, 0, h1, .inl ⟨rfl, rfl⟩⟩
  · exact ⟨_, _, h1, .inr ⟨_, rfl⟩⟩
theorem ownF_some {W : World} {b : Nat} {v : Value} {fs : List (B × B)} (h : OwnF W b v fs) (h0 : 0 < fs.length) : ∃ g d, v = .slice (some ⟨g, 0, none⟩) fs.length d := by
  rcases h.2 with ⟨_, h1⟩ | ⟨g, cap, cur, h1, _⟩
  · omega
  · exact ⟨g, cap, h1⟩
theorem OwnF.lowW {w : World} {b b' : Nat} {v : Value} {acc : List (B × B)} (h : OwnF w b v acc) (hb : b' ≤ b) : OwnF w b' v acc :=
  ⟨h.1, h.2.imp id (fun ⟨g, cap, cur, a, c, r⟩ => ⟨g, cap, cur, a, Nat.le_trans hb c, r⟩)⟩
theorem OwnF.appW {w : World} {b m : Nat} {v : Value} {A C : List (B × B)} {k : Nat} (hm : A.length = m) (hk : C.length = k) (h : w.ownsRow b 88 2 v (m + k) (fldC A ++ fldC C)) : OwnF w b v (A ++ C) := by
  unfold OwnF
  rw [fldC_app, List.length_append, hm, hk]
  exact h
set_option maxRecDepth 20000 in
set_option maxHeartbeats 4000000 in
theorem ahead_any (g o n c i : Nat) (hi : i ≤ c) (w : World) : Calls Tryz.prog 80 #[.slice (some ⟨g, o, none⟩) n c, .int .i64 (i : Int)] w fun e w' => e = .returned (.slice (some ⟨g, o, none⟩) i i) ∧ w' = w := by
  have h1 : (i : Int) ≤ (c : Int) := by omega
  go_enter Tryz.func80, Tryz.ntmps80
  go_wp2
  go_ret
  exact ⟨rfl, rfl⟩
set_option maxRecDepth 20000 in
set_option maxHeartbeats 8000000 in
theorem padd (fs : List (B × B)) (g o n c : Nat) (hn : fs.length = n) (hc : n < c) (a b : B) (w : World) (hF : FAt w (some ⟨g, o, none⟩) fs) (hsz : szW fs) (ha : a.length ≤ 140737488351232) (hb : b.length ≤ 140737488351232) (hnn : n + 1 ≤ 4398046511104) :
    Calls Tryz.prog 42 #[.slice (some ⟨g, o, none⟩) n c, .string (str a), .string (str b)] w fun e w' => ∃ g' m, e = .returned (.slice (some ⟨g', 0, none⟩) m m) ∧ (fs ++ [(a, b)]).length = m ∧ w.heap.size ≤ g' ∧ BlkF w' g' (fs ++ [(a, b)]) ∧ Below w.heap.size w w' := by
  obtain ⟨i0, hi0, hz0, hz1, hz2⟩ := info_parts infoF
  have HAh := hid (show ∀ W : World, _ from fun W => ahead_any g o n c n (Nat.le_of_lt hc) W)
  have HLn := hid (show (fs ++ [(a, b)]).length = n + 1 from by rw [List.length_append, hn]; rfl)
  have HOw := hid (show ∀ (W : World) (p : Option Addr) (d : Nat), FAt W p (fs ++ [(a, b)]) → _ from fun W p d h => own_any (fs ++ [(a, b)]) p (n + 1) d HLn.out W h (szW_app hsz (szW_one ⟨ha, hb⟩)) hnn)
  have HNw := hid (show ∀ W : World, Below w.heap.size w W → ∀ j u, (fldC fs)[j]? = some u → W.cell? ((⟨g, o, none⟩ : Addr).add j) = some u from fun W hb => (hF.next hb).newsW)
  have HL := hid hn
  obtain ⟨N, hN⟩ : ∃ N, str a = N := ⟨_, rfl⟩
  obtain ⟨V, hV⟩ : ∃ V, str b = V := ⟨_, rfl⟩
  rw [hN, hV]
  have HPc := hid (show fldC [(a, b)] = [.string N, .string V] from by rw [← hN, ← hV]; rfl)
  clear hF hsz hn hN hV ha hb
  go_enter Tryz.func42, Tryz.ntmps42
  go_wp2_with (first | (go_at_call 80; (with_reducible refine (HAh.out _).mono ?_); rintro e w1 ⟨rfl, hw1⟩; subst w1; clear HAh) | (at_builtin; refine wpList_append_grows (w.alloc (.cells #[.string N, .string V] 88 (0, 0))) rfl (.tmp 10) (.tmp 14) 33 rfl 88 i0 _ 2 32 Tryz.underlying33 hi0 hz0 hz1 hz2 rfl (by decide) (some ⟨g, o, none⟩) n n (fldC fs) (by go_simp) (fun h => by cases h) (by rw [fldC_len, HL.out]) (fun b e => by cases e; exact HNw.out _ (below_new _ _)) ⟨w.heap.size, 0, none⟩ 1 1 [.string N, .string V] (by go_simp) rfl (cells_new w _ _) (by simp [Value.oneCell']) (by omega) (by unfold maxLen; omega) (by omega) ?_; intro v' w8 hown hgr; obtain ⟨q8, d8, rfl⟩ := own_slice hown; have HB8 := hid (below_out (below_new w _) (below_grown hgr)); have HFr := hid (OwnF.fat (OwnF.appW (A := fs) (C := [(a, b)]) HL.out rfl (by rw [HPc.out]; exact hown))); clear hown hgr) | (go_at_call 75; (with_reducible refine (HOw.out _ _ _ HFr.out).mono ?_); rintro e w9 ⟨rfl, hbk, hb⟩; have HB9 := hid (below_out HB8.out hb); have HK9 := hid hbk; clear hb hbk HOw))
  go_ret
  exact ⟨_, _, rfl, HLn.out, HB8.out.size, HK9.out, HB9.out⟩
set_option maxRecDepth 20000 in
set_option maxHeartbeats 8000000 in
theorem pdel (fs : List (B × B)) (g o n c : Nat) (hn : fs.length = n) (a : B) (w : World) (hF : FAt w (some ⟨g, o, none⟩) fs) (hsz : szW fs) (ha : a.length ≤ 140737488351232) (hnn : n + 1 ≤ 4398046511104) :
    Calls Tryz.prog 38 #[.slice (some ⟨g, o, none⟩) n c, .string (str a)] w fun e w' => ∃ g' m, e = .returned (.slice (some ⟨g', 0, none⟩) m m) ∧ (delB fs (str a)).length = m ∧ w.heap.size ≤ g' ∧ BlkF w' g' (delB fs (str a)) ∧ Below w.heap.size w w' := by
  have HNa := hid (show ∀ W : World, _ from fun W => named_any (str a) W)
  have HB0 := hid (below_new w (.cells #[.string (str a)] 9 (0, 0)))
  have hc0 : (w.alloc (.cells #[.string (str a)] 9 (0, 0))).cell? ⟨w.heap.size, 0, none⟩ = some (.string (str a)) := by simp only [World.cell?, heap_alloc_new w (.cells #[.string (str a)] 9 (0, 0))]; rfl
  have HC0 := hid hc0
  have has : (str a).size ≤ 140737488351232 := by rw [str_size]; exact ha
  have HWo := hid (without_any fs (some ⟨g, o, none⟩) n c hn w.heap.size (str a) (w.alloc (.cells #[.string (str a)] 9 (0, 0))) (hF.next HB0.out) hsz has (by omega) hc0)
  have hl := del_le fs (str a)
  have hzd := szW_del (str a) hsz
  rw [show fs.filter (fun f => !isF (str a) f) = delB fs (str a) from rfl] at HWo
  obtain ⟨X, hX⟩ : ∃ X, delB fs (str a) = X := ⟨_, rfl⟩
  rw [hX] at HWo hl hzd
  rw [hX]
  obtain ⟨m, hm⟩ : ∃ m, X.length = m := ⟨_, rfl⟩
  have HLn := hid hm
  have HOw := hid (show ∀ (W : World) (p : Option Addr) (d : Nat), FAt W p X → _ from fun W p d h => own_any X p m d HLn.out W h hzd (by omega))
  clear hF hsz hn hc0 hX hm hl hzd has
  go_enter Tryz.func38, Tryz.ntmps38
  go_wp2_with (first | (go_at_call 77; (with_reducible refine (HNa.out _).mono ?_); rintro e w1 ⟨rfl, hw1⟩; subst w1; clear HNa) | (go_at_call 76; (with_reducible refine HWo.out.mono ?_); rintro e w8 ⟨v8, rfl, ho, hb⟩; obtain ⟨q8, d8, rfl⟩ : ∃ q d, v8 = .slice q m d := (by have h9 := own_slice ho; rw [HLn.out] at h9; exact h9); have HB8 := hid (below_out HB0.out hb); have HFr := hid (OwnF.fat ho); clear hb ho HWo) | (go_at_call 75; (with_reducible refine (HOw.out _ _ _ HFr.out).mono ?_); rintro e w9 ⟨rfl, hbk, hb⟩; have HB9 := hid (below_out HB8.out hb); have HK9 := hid hbk; clear hb hbk HOw))
  go_ret
  exact ⟨_, _, rfl, HLn.out, HB8.out.size, HK9.out, HB9.out⟩
set_option maxRecDepth 20000 in
set_option maxHeartbeats 16000000 in
theorem pset (fs : List (B × B)) (g o n c : Nat) (hn : fs.length = n) (hc : n < c) (a b : B) (w : World) (hF : FAt w (some ⟨g, o, none⟩) fs) (hsz : szW fs) (ha : a.length ≤ 140737488351232) (hb : b.length ≤ 140737488351232) (hnn : n + 1 ≤ 4398046511104) :
    Calls Tryz.prog 79 #[.slice (some ⟨g, o, none⟩) n c, .string (str a), .string (str b)] w fun e w' => ∃ g' m, e = .returned (.slice (some ⟨g', 0, none⟩) m m) ∧ (setB fs (str a) (a, b)).length = m ∧ w.heap.size ≤ g' ∧ BlkF w' g' (setB fs (str a) (a, b)) ∧ Below w.heap.size w w' := by
  have HNa := hid (show ∀ W : World, _ from fun W => named_any (str a) W)
  have HB0 := hid (below_new w (.cells #[.string (str a)] 9 (0, 0)))
  have hc0 : (w.alloc (.cells #[.string (str a)] 9 (0, 0))).cell? ⟨w.heap.size, 0, none⟩ = some (.string (str a)) := by simp only [World.cell?, heap_alloc_new w (.cells #[.string (str a)] 9 (0, 0))]; rfl
  have HC0 := hid hc0
  have has : (str a).size ≤ 140737488351232 := by rw [str_size]; exact ha
  have HIx := hid (indexf_any fs (some ⟨g, o, none⟩) n c hn w.heap.size (str a) (w.alloc (.cells #[.string (str a)] 9 (0, 0))) (hF.next HB0.out) hsz has (by omega) hc0)
  by_cases hex : ∃ (i : Nat) (f : B × B), noneTo fs (str a) i ∧ fs[i]? = some f ∧ isF (str a) f = true
  · obtain ⟨i, f, hno, hf, his⟩ := hex
    have hlt : i < n := by rw [← hn]; exact (List.getElem?_eq_some_iff.1 hf).1
    have hSe : setB fs (str a) (a, b) = fs.take i ++ [(a, b)] ++ delB (fs.drop (i + 1)) (str a) := by unfold setB; rw [if_pos (get_yes hno hf his), setR_at hno hf his]
    rw [hSe]
    have HYs := hid (show ∀ I, idxI fs (str a) I → I = (i : Int) from fun I h => idx_yes h hno hf his)
    obtain ⟨i0, hi0, hz0, hz1, hz2⟩ := info_parts infoF
    have HAh := hid (show ∀ W : World, _ from fun W => ahead_any g o n c i (by omega) W)
    have HNw := hid (show ∀ W : World, Below w.heap.size w W → ∀ j u, (fldC (fs.take i))[j]? = some u → W.cell? ((⟨g, o, none⟩ : Addr).add j) = some u from fun W hb => ((hF.next hb).takeW i).newsW)
    have HLt := hid (show (fs.take i).length = i from by rw [List.length_take, hn]; omega)
    have hld : (fs.drop (i + 1)).length = n - (i + 1) := by rw [List.length_drop, hn]
    have HWo := hid (show ∀ W : World, Below w.heap.size w W → W.cell? ⟨w.heap.size, 0, none⟩ = some (.string (str a)) → _ from fun W hb h => without_any (fs.drop (i + 1)) (some ⟨g, o + (i + 1) * 2, none⟩) (n - (i + 1)) (c - (i + 1)) hld w.heap.size (str a) W ((hF.next hb).dropW (i + 1)) (szW_drop _ hsz) has (by omega) h)
    have hl := del_le (fs.drop (i + 1)) (str a)
    have hzd := szW_app (szW_app (szW_take i hsz) (szW_one (x := (a, b)) ⟨ha, hb⟩)) (szW_del (str a) (szW_drop (i + 1) hsz))
    rw [show (fs.drop (i + 1)).filter (fun f => !isF (str a) f) = delB (fs.drop (i + 1)) (str a) from rfl] at HWo
    obtain ⟨X, hX⟩ : ∃ X, delB (fs.drop (i + 1)) (str a) = X := ⟨_, rfl⟩
    rw [hX] at HWo hl hzd
    rw [hX]
    obtain ⟨m, hm⟩ : ∃ m, X.length = m := ⟨_, rfl⟩
    have HLx := hid hm
    have HLn := hid (show (fs.take i ++ [(a, b)] ++ X).length = i + 1 + m from by rw [List.length_append, List.length_append, HLt.out, hm]; rfl)
    have HLt1 := hid (show (fs.take i ++ [(a, b)]).length = i + 1 from by rw [List.length_append, HLt.out]; rfl)
    rw [hld, hm] at hl
    have hlm : m ≤ n - (i + 1) := hl
    have HOw := hid (show ∀ (W : World) (p : Option Addr) (d : Nat), FAt W p (fs.take i ++ [(a, b)] ++ X) → _ from fun W p d h => own_any (fs.take i ++ [(a, b)] ++ X) p (i + 1 + m) d HLn.out W h hzd (by omega))
    obtain ⟨N, hN⟩ : ∃ N, str a = N := ⟨_, rfl⟩
    obtain ⟨V, hV⟩ : ∃ V, str b = V := ⟨_, rfl⟩
    have HPc := hid (show fldC [(a, b)] = [.string N, .string V] from by rw [← hN, ← hV]; rfl)
    rw [hN] at HNa HB0 HC0 HIx HWo HYs
    rw [hN, hV]
    have hcne : ¬ c = i + 1 := by omega
    have hic1 : (i : Int) + 1 ≤ (n : Int) := by omega
    have hin1 : i + 1 ≤ n := by omega
    have hic2 : i + 1 ≤ c := by omega
    have hwi : IntKind.i64.wrap ((i : Int) + 1) = ((i + 1 : Nat) : Int) := by rw [IntKind.wrap_i64]; omega
    clear hF hsz hn hN hV ha hb hno hf his hSe hX hm hl hzd hld hc0 has
    by_cases hm0 : m = 0
    · subst hm0
      obtain rfl : X = [] := List.eq_nil_of_length_eq_zero HLx.out
      go_enter Tryz.func79, Tryz.ntmps79
      go_wp2_with (first | (go_at_call 77; (with_reducible refine (HNa.out _).mono ?_); rintro e w1 ⟨rfl, hw1⟩; subst w1; clear HNa) | (go_at_call 118; (with_reducible refine HIx.out.mono ?_); rintro e w2 ⟨I, rfl, hI, hb⟩; have HB2 := hid (below_out HB0.out hb); obtain rfl := HYs.out I hI; have HC2 := hid (cell_keep hb HC0.out); clear hb HIx) | (go_at_call 80; (with_reducible refine (HAh.out _).mono ?_); rintro e w3 ⟨rfl, hw3⟩; subst w3; clear HAh) | (at_builtin; refine wpList_append_grows (w2.alloc (.cells #[.string N, .string V] 88 (0, 0))) rfl (.tmp 23) (.tmp 27) 33 rfl 88 i0 _ 2 32 Tryz.underlying33 hi0 hz0 hz1 hz2 rfl (by decide) (some ⟨g, o, none⟩) i i (fldC (fs.take i)) (by go_simp) (fun h => by cases h) (by rw [fldC_len, HLt.out]) (fun b e => by cases e; exact HNw.out _ (below_out HB2.out (below_new _ _))) ⟨w2.heap.size, 0, none⟩ 1 1 [.string N, .string V] (by go_simp) rfl (cells_new w2 _ _) (by simp [Value.oneCell']) (by omega) (by unfold maxLen; omega) (by omega) ?_; intro v' w4 hown hgr; obtain ⟨q4, d4, rfl⟩ := own_slice hown; have HB4 := hid (below_out (below_out HB2.out (below_new w2 _)) (below_grown hgr)); have HC4 := hid (cell_keep (below_grown hgr) (cell_keep (below_new w2 _) HC2.out)); have HO4 := hid (show OwnF w4 w.heap.size (.slice q4 (i + 1) d4) (fs.take i ++ [(a, b)]) from OwnF.lowW (OwnF.appW (A := fs.take i) (C := [(a, b)]) HLt.out rfl (by rw [HPc.out]; exact hown)) (below_out HB2.out (below_new w2 _)).size); clear hown hgr HNw) | (go_at_call 76; (with_reducible refine (HWo.out _ HB4.out HC4.out).mono ?_); rintro e w5 ⟨v5, rfl, ho, hb⟩; have HB5 := hid (below_out HB4.out hb); have HO5 := hid (HO4.out.keep hb); obtain ⟨q5, d5, rfl, hq5⟩ := ownF_empty ho; have HQ5 := hid hq5; clear hq5; clear hb ho HWo) | (at_builtin; clear HPc; refine wpList_append_emptyW _ rfl (.tmp 29) (.tmp 35) 33 rfl w.heap.size 88 i0 _ 2 32 Tryz.underlying33 hi0 hz0 hz1 hz2 rfl (by decide) (.slice q4 (i + 1) d4) (i + 1) (fldC (fs.take i ++ [(a, b)])) (by go_simp) (by have h9 := HO5.out; unfold OwnF at h9; rw [HLt1.out] at h9; exact h9) q5 d5 (by go_simp) HQ5.out (by unfold maxLen; omega) (by omega) HB5.out.size ?_; intro v' w8 hown hgr; obtain ⟨q8, d8, rfl⟩ := own_slice hown; have HB8 := hid (HB5.out.trans (OwnF.below HO5.out HB5.out.size hgr)); have HFr := hid (show FAt w8 q8 (fs.take i ++ [(a, b)] ++ []) from by rw [List.append_nil]; exact OwnF.fat (show OwnF w8 w.heap.size (.slice q8 (i + 1) d8) (fs.take i ++ [(a, b)]) from by unfold OwnF; rw [HLt1.out]; exact hown)); clear hown hgr) | (go_at_call 75; (with_reducible refine (HOw.out _ _ _ HFr.out).mono ?_); rintro e w9 ⟨rfl, hbk, hb⟩; have HB9 := hid (below_out HB8.out hb); have HK9 := hid hbk; clear hb hbk HOw))
      go_ret
      exact ⟨_, _, rfl, HLn.out, HB8.out.size, HK9.out, HB9.out⟩
    · have HMp := hid (show 0 < m from by omega)
      go_enter Tryz.func79, Tryz.ntmps79
      go_wp2_with (first | (go_at_call 77; (with_reducible refine (HNa.out _).mono ?_); rintro e w1 ⟨rfl, hw1⟩; subst w1; clear HNa) | (go_at_call 118; (with_reducible refine HIx.out.mono ?_); rintro e w2 ⟨I, rfl, hI, hb⟩; have HB2 := hid (below_out HB0.out hb); obtain rfl := HYs.out I hI; have HC2 := hid (cell_keep hb HC0.out); clear hb HIx) | (go_at_call 80; (with_reducible refine (HAh.out _).mono ?_); rintro e w3 ⟨rfl, hw3⟩; subst w3; clear HAh) | (at_builtin; refine wpList_append_grows (w2.alloc (.cells #[.string N, .string V] 88 (0, 0))) rfl (.tmp 23) (.tmp 27) 33 rfl 88 i0 _ 2 32 Tryz.underlying33 hi0 hz0 hz1 hz2 rfl (by decide) (some ⟨g, o, none⟩) i i (fldC (fs.take i)) (by go_simp) (fun h => by cases h) (by rw [fldC_len, HLt.out]) (fun b e => by cases e; exact HNw.out _ (below_out HB2.out (below_new _ _))) ⟨w2.heap.size, 0, none⟩ 1 1 [.string N, .string V] (by go_simp) rfl (cells_new w2 _ _) (by simp [Value.oneCell']) (by omega) (by unfold maxLen; omega) (by omega) ?_; intro v' w4 hown hgr; obtain ⟨q4, d4, rfl⟩ := own_slice hown; have HB4 := hid (below_out (below_out HB2.out (below_new w2 _)) (below_grown hgr)); have HC4 := hid (cell_keep (below_grown hgr) (cell_keep (below_new w2 _) HC2.out)); have HO4 := hid (show OwnF w4 w.heap.size (.slice q4 (i + 1) d4) (fs.take i ++ [(a, b)]) from OwnF.lowW (OwnF.appW (A := fs.take i) (C := [(a, b)]) HLt.out rfl (by rw [HPc.out]; exact hown)) (below_out HB2.out (below_new w2 _)).size); clear hown hgr HNw) | (go_at_call 76; (with_reducible refine (HWo.out _ HB4.out HC4.out).mono ?_); rintro e w5 ⟨v5, rfl, ho, hb⟩; have HB5 := hid (below_out HB4.out hb); have HO5 := hid (HO4.out.keep hb); obtain ⟨g5, d5, rfl⟩ : ∃ g d, v5 = .slice (some ⟨g, 0, none⟩) m d := (by have h9 := ownF_some ho (by rw [HLx.out]; exact HMp.out); rw [HLx.out] at h9; exact h9); have HF5 := hid (OwnF.fat ho); clear hb ho HWo) | (at_builtin; clear HPc; refine wpList_append_own_at _ rfl (.tmp 29) (.tmp 35) 33 rfl w.heap.size 88 i0 _ 2 32 Tryz.underlying33 hi0 hz0 hz1 hz2 rfl (by decide) (.slice q4 (i + 1) d4) (i + 1) (fldC (fs.take i ++ [(a, b)])) (by go_simp) (by have h9 := HO5.out; unfold OwnF at h9; rw [HLt1.out] at h9; exact h9) ⟨g5, 0, none⟩ m d5 (fldC X) (by go_simp) (by rw [fldC_len, HLx.out]) HF5.out.newsW (fldC_oneW X) (by unfold maxLen; omega) (by omega) HB5.out.size ?_; intro v' w8 hown hgr _ _; obtain ⟨q8, d8, rfl⟩ := own_slice hown; have HB8 := hid (HB5.out.trans (OwnF.below HO5.out HB5.out.size hgr)); have HFr := hid (OwnF.fat (show OwnF w8 w.heap.size (.slice q8 (i + 1 + m) d8) (fs.take i ++ [(a, b)] ++ X) from OwnF.appW HLt1.out HLx.out hown)); clear hown hgr) | (go_at_call 75; (with_reducible refine (HOw.out _ _ _ HFr.out).mono ?_); rintro e w9 ⟨rfl, hbk, hb⟩; have HB9 := hid (below_out HB8.out hb); have HK9 := hid hbk; clear hb hbk HOw))
      go_ret
      exact ⟨_, _, rfl, HLn.out, HB8.out.size, HK9.out, HB9.out⟩
  · have hAll := idx_all fs (str a) hex _ (Nat.le_refl _)
    have hSe : setB fs (str a) (a, b) = fs ++ [(a, b)] := by unfold setB; rw [if_neg (by rw [get_no hAll]; decide)]
    rw [hSe]
    have HNo := hid (show ∀ I, idxI fs (str a) I → I = -1 from fun I h => (idx_no h hex).1)
    have HAd := hid (show ∀ W : World, Below w.heap.size w W → _ from fun W hbb => padd fs g o n c hn hc a b W (hF.next hbb) hsz ha hb hnn)
    clear hex hAll hSe hF hsz hn hc0 has ha hb
    go_enter Tryz.func79, Tryz.ntmps79
    go_wp2_with (first | (go_at_call 77; (with_reducible refine (HNa.out _).mono ?_); rintro e w1 ⟨rfl, hw1⟩; subst w1; clear HNa) | (go_at_call 118; (with_reducible refine HIx.out.mono ?_); rintro e w2 ⟨I, rfl, hI, hb⟩; have HB2 := hid (below_out HB0.out hb); obtain rfl := HNo.out I hI; clear hb HIx) | (go_at_call 42; (with_reducible refine (HAd.out _ HB2.out).mono ?_); rintro e w9 ⟨g9, m9, rfl, hl9, hg9, hbk, hb⟩; have HB9 := hid (below_out HB2.out hb); have HK9 := hid hbk; have HG9 := hid (Nat.le_trans HB2.out.size hg9); have HL9 := hid hl9; clear hb hbk hg9 hl9 HAd))
    go_ret
    exact ⟨_, _, rfl, HL9.out, HG9.out, HK9.out, HB9.out⟩
end Go.Proofs.YtnlmjlfoeodleaaGreatDoor
