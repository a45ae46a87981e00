/- Responses that go on: what is told, in plain lists; the small functions of both sides. -/
import Derived.Test.YtnlmjlfoeodleaaGreatDoorOQLaw
import Derived.Test.YtnlmjlfoeodleaaGreatDoorCNum
namespace Go.Proofs.YtnlmjlfoeodleaaGreatDoor
open Go.RowKit

def cloB : B := [99, 108, 111, 115, 101]
def bareS (st : Int) : Bool := decide (100 ≤ st ∧ st ≤ 199) || decide (st = 204)
def dgB1 (c : UInt8) : Bool := decide (48 ≤ c.toNat ∧ c.toNat ≤ 57)
def lenV (v : B) : Bool := decide (1 ≤ v.length ∧ v.length ≤ 15) && v.all dgB1
def ownF1 (fs : List (B × B)) : Option (B × B) := match fs.filter (isF (str clB)) with
  | [f] => if lenV f.2 = true then some f else none
  | _ => none
/-- The last of a row, as two texts. -/
def lastV (l : List (B × B)) : ByteArray × ByteArray := match l.getLast? with
  | some f => (str f.1, str f.2)
  | none => (⟨#[]⟩, ⟨#[]⟩)
theorem lastV_snoc (l : List (B × B)) (f : B × B) : lastV (l ++ [f]) = (str f.1, str f.2) := by
  unfold lastV
  rw [List.getLast?_append]
  rfl
theorem own_some {fs : List (B × B)} {f : B × B} (h : fs.filter (isF (str clB)) = [f]) : ownF1 fs = if lenV f.2 = true then some f else none := by
  unfold ownF1
  rw [h]
theorem own_none {fs : List (B × B)} (h : (fs.filter (isF (str clB))).length ≠ 1) : ownF1 fs = none := by
  unfold ownF1
  split
  · rename_i f e
    rw [e] at h
    exact absurd rfl h
  · rfl
theorem dg_eq (c : UInt8) : okDg 10 (c.toNat : Int) = dgB1 c := by
  unfold okDg hexB hexV dgB1
  by_cases h : 48 ≤ c.toNat ∧ c.toNat ≤ 57
  · rw [decide_eq_true h, decide_eq_true (Or.inl ⟨by omega, by omega⟩), if_pos ⟨by omega, by omega⟩, decide_eq_true (by omega)]
    rfl
  · rw [decide_eq_false h]
    by_cases h2 : (48 ≤ (c.toNat : Int) ∧ (c.toNat : Int) ≤ 57) ∨ (97 ≤ (c.toNat : Int) ∧ (c.toNat : Int) ≤ 102) ∨ (65 ≤ (c.toNat : Int) ∧ (c.toNat : Int) ≤ 70)
    · rw [decide_eq_true h2, if_neg (by omega), decide_eq_false (by split <;> (try split) <;> omega)]
      rfl
    · rw [decide_eq_false h2]
      rfl
theorem dig_all (v : B) : digAll 10 (str v) = (decide (1 ≤ v.length) && v.all dgB1) := by
  unfold digAll digTo
  rw [str_size]
  congr 1
  · exact decide_eq_decide.2 (by omega)
  · rw [show (str v).data.toList = v from rfl, List.take_of_length_le (Nat.le_refl _)]
    congr 1
    funext c
    exact dg_eq c
theorem num_some : ∀ (l : List UInt8) (n : Int) (k : Nat), (∀ c ∈ l, dgB1 c = true) → 0 ≤ n → n < 10 ^ k → k + l.length ≤ 15 → ∃ r, numL 10 9223372036854775807 l n = some r
  | [], n, _, _, _, _, _ => ⟨n, rfl⟩
  | c :: l, n, k, h, h0, h1, h2 => by
    have hc : 48 ≤ c.toNat ∧ c.toNat ≤ 57 := of_decide_eq_true (h c (List.mem_cons_self ..))
    have hv : hexV (c.toNat : Int) = (c.toNat : Int) - 48 := by unfold hexV; rw [if_pos ⟨by omega, by omega⟩]
    rw [List.length_cons] at h2
    have hp : (10 : Int) ^ k ≤ 10 ^ 14 := by
      have h9 : (10 : Nat) ^ k ≤ 10 ^ 14 := Nat.pow_le_pow_right (by decide) (by omega)
      have h8 : ((10 ^ k : Nat) : Int) ≤ ((10 ^ 14 : Nat) : Int) := Int.ofNat_le.2 h9
      simpa using h8
    have hb : n < 100000000000000 := by
      have h9 : (10 : Int) ^ 14 = 100000000000000 := by decide
      omega
    unfold numL
    rw [hv, if_neg (by omega)]
    refine num_some l _ (k + 1) (fun x hx => h x (List.mem_cons_of_mem _ hx)) (by omega) ?_ (by omega)
    rw [Int.pow_succ]
    omega
theorem len_num (v : B) : (decide (numE 10 9223372036854775807 (str v) = 0) && decide (v.length ≤ 15)) = lenV v := by
  have hd := dig_all v
  by_cases h15 : v.length ≤ 15
  · by_cases h1 : 1 ≤ v.length
    · have hr : 1 ≤ v.length ∧ v.length ≤ 15 := ⟨h1, h15⟩
      cases ha : v.all dgB1 with
      | true =>
        obtain ⟨r, hr2⟩ := num_some v 0 0 (List.all_eq_true.1 ha) (by decide) (by decide) (by omega)
        have hE : numE 10 9223372036854775807 (str v) = 0 := by
          unfold numE
          rw [if_neg (by decide), if_neg (by rw [hd, ha, decide_eq_true h1]; decide), if_neg (by rw [show (str v).data.toList = v from rfl, hr2]; simp)]
        rw [hE, decide_eq_true h15]
        unfold lenV
        rw [ha, decide_eq_true hr]
        rfl
      | false =>
        have hE : numE 10 9223372036854775807 (str v) = 3 := by
          unfold numE
          rw [if_neg (by decide), if_pos (by rw [hd, ha, Bool.and_false])]
        rw [hE]
        unfold lenV
        rw [ha, Bool.and_false]
        rfl
    · have hr : ¬ (1 ≤ v.length ∧ v.length ≤ 15) := by omega
      have hE : numE 10 9223372036854775807 (str v) = 3 := by
        unfold numE
        rw [if_neg (by decide), if_pos (by rw [hd, decide_eq_false h1, Bool.false_and])]
      rw [hE]
      unfold lenV
      rw [decide_eq_false hr, Bool.false_and]
      rfl
  · have hr : ¬ (1 ≤ v.length ∧ v.length ≤ 15) := by omega
    unfold lenV
    rw [decide_eq_false h15, decide_eq_false hr, Bool.and_false, Bool.false_and]
set_option maxRecDepth 20000 in
set_option maxHeartbeats 4000000 in
theorem pislen (v : B) (w : World) (hv : v.length ≤ 1048576) : Calls Tryz.prog 98 #[.string (str v)] w fun e w' => e = .returned (.bool (lenV v)) ∧ w' = w := by
  have HD := hid (decimal_any (str v) 9223372036854775807 w (by rw [str_size]; unfold maxLen; omega) (by decide) (by decide))
  have HL := hid (len_num v)
  obtain ⟨E, hE⟩ : ∃ E, numE 10 9223372036854775807 (str v) = E := ⟨_, rfl⟩
  rw [hE] at HD HL
  obtain ⟨R, hR⟩ : ∃ R, lenV v = R := ⟨_, rfl⟩
  rw [hR] at HL
  rw [hR]
  have hvs : (str v).size = v.length := str_size v
  obtain ⟨S, hS⟩ : ∃ S, str v = S := ⟨_, rfl⟩
  rw [hS] at HD hvs
  rw [hS]
  clear hE hR hS
  unfold errV at HD
  by_cases h0 : E = 0
  · rw [if_pos h0] at HD
    by_cases h15 : v.length ≤ 15
    · obtain rfl : true = R := by rw [← HL.out, decide_eq_true h0, decide_eq_true h15]; rfl
      have h16 : (S.size : Int) ≤ 15 := by omega
      have H17 := hid (show decide ((v.length : Int) ≤ 15) = true from decide_eq_true (by omega))
      clear HL h0 h15
      go_enter Tryz.func98, Tryz.ntmps98
      go_wp2_with (go_at_call 129; (with_reducible refine HD.out.mono ?_); rintro e w1 ⟨rfl, hw⟩; subst w1; clear HD)
      go_ret
      exact ⟨congrArg (fun b => Ending.returned (Value.bool b)) H17.out, rfl⟩
    · obtain rfl : false = R := by rw [← HL.out, decide_eq_false h15, Bool.and_false]
      have h16 : ¬ (S.size : Int) ≤ 15 := by omega
      have H17 := hid (show decide ((v.length : Int) ≤ 15) = false from decide_eq_false (by omega))
      clear HL h0 h15
      go_enter Tryz.func98, Tryz.ntmps98
      go_wp2_with (go_at_call 129; (with_reducible refine HD.out.mono ?_); rintro e w1 ⟨rfl, hw⟩; subst w1; clear HD)
      go_ret
      exact ⟨congrArg (fun b => Ending.returned (Value.bool b)) H17.out, rfl⟩
  · rw [if_neg h0] at HD
    obtain rfl : false = R := by rw [← HL.out, decide_eq_false h0, Bool.false_and]
    clear HL h0
    go_enter Tryz.func98, Tryz.ntmps98
    go_wp2_with (go_at_call 129; (with_reducible refine HD.out.mono ?_); rintro e w1 ⟨rfl, hw⟩; subst w1; clear HD)
    go_ret
    exact ⟨rfl, rfl⟩
set_option maxRecDepth 20000 in
set_option maxHeartbeats 4000000 in
theorem pbare (st : Int) (w : World) : Calls Tryz.prog 57 #[.int .i64 st] w fun e w' => e = .returned (.bool (bareS st)) ∧ w' = w := by
  by_cases h1 : 100 ≤ st
  · by_cases h2 : st ≤ 199
    · have HT := hid (show bareS st = true from by unfold bareS; rw [decide_eq_true ⟨h1, h2⟩]; rfl)
      rw [HT.out]
      go_enter Tryz.func57, Tryz.ntmps57
      go_wp2
      go_ret
      exact ⟨rfl, rfl⟩
    · by_cases h3 : st = 204
      · subst h3
        have HT := hid (show bareS 204 = true from by decide)
        rw [HT.out]
        go_enter Tryz.func57, Tryz.ntmps57
        go_wp2
        go_ret
        exact ⟨rfl, rfl⟩
      · have HT := hid (show bareS st = false from by unfold bareS; rw [decide_eq_false (by omega), decide_eq_false h3]; rfl)
        rw [HT.out]
        go_enter Tryz.func57, Tryz.ntmps57
        go_wp2
        go_ret
        exact ⟨by simp [h3], rfl⟩
  · have h3 : ¬ st = 204 := by omega
    have HT := hid (show bareS st = false from by unfold bareS; rw [decide_eq_false (by omega), decide_eq_false h3]; rfl)
    rw [HT.out]
    go_enter Tryz.func57, Tryz.ntmps57
    go_wp2
    go_ret
    exact ⟨by simp [h3], rfl⟩
theorem fld_size : (Tryz.prog.info? 88).map (·.size) = some 2 := by kernel_rfl
theorem results_fldO {fn : Func} {p u : Tmp} (h : fn.results = #[.cell p 88, .tmp u]) (tmps : Array Value) (w : World) (g : Nat) (t : TypeId) (cs : Array Value) (fr : Nat × Nat)
    (hp : tmps.getD p undef = .pointer (some ⟨g, 0, none⟩)) (hg : w.heap[g]? = some (.cells cs t fr)) (hs : cs.size = 2) : (results fn tmps).run Tryz.prog w = .ok (.tuple #[.agg cs, tmps.getD u undef]) w := by
  have hl := run_loadVar_row (P := Tryz.prog) w g t 88 cs fr _ hg Tryz.underlying88 rfl (by rw [fld_size, hs])
  rw [results_cell_tmp h, hp]
  simp [asAddr, Result.andThen, hl]
theorem two0 {W : World} {g : Nat} {x0 x1 : Value} {T : TypeId} {fr : Nat × Nat} (h : W.heap[g]? = some (.cells #[x0, x1] T fr)) (a b : Value) : ((W.setCell ⟨g, 0, none⟩ a).setCell ⟨g, 1, none⟩ b).heap[g]? = some (.cells #[a, b] T fr) := by
  simp [World.setCell, Array.getElem?_modify, h]
theorem two1 {W : World} {g j : Nat} (a b : Value) (h : j ≠ g) : ((W.setCell ⟨g, 0, none⟩ a).setCell ⟨g, 1, none⟩ b).heap[j]? = W.heap[j]? := by
  simp [World.setCell, Array.getElem?_modify, Ne.symm h]
theorem zz2 {W : World} {g : Nat} {x0 x1 : Value} {T : TypeId} (h : W.heap[g]? = some (.cells #[x0, x1] T (0, 0))) : (W.cell? ⟨g, 0, none⟩ = some x0 ∧ W.cell? ⟨g, 1, none⟩ = some x1) ∧ W.frozen? ⟨g, 0, none⟩ = false ∧ W.frozen? ⟨g, 1, none⟩ = false := by
  refine ⟨box2W h, ?_, ?_⟩ <;> simp [World.frozen?, h]
/-- The answer's box and the one that is kept. -/
structure KpS (w W : World) (a b : ByteArray) : Prop where
  low : Below w.heap.size w W
  r : W.heap[w.heap.size]? = some (.cells #[.string ⟨#[]⟩, .string ⟨#[]⟩] 88 (0, 0))
  k : W.heap[w.heap.size + 1]? = some (.cells #[.string a, .string b] 88 (0, 0))
theorem KpS.next {w W W' : World} {a b : ByteArray} (h : KpS w W a b) (hb : Below W.heap.size W W') : KpS w W' a b := ⟨below_out h.low hb, (hb.block _ (lt_of_heap h.r)).trans h.r, (hb.block _ (lt_of_heap h.k)).trans h.k⟩
theorem KpS.set {w W : World} {a b : ByteArray} (h : KpS w W a b) (c d : ByteArray) : KpS w ((W.setCell ⟨w.heap.size + 1, 0, none⟩ (.string c)).setCell ⟨w.heap.size + 1, 1, none⟩ (.string d)) c d :=
  ⟨Below.setCell (Below.setCell h.low (Nat.le_succ _) _) (Nat.le_succ _) _, by rw [two1 _ _ (by omega)]; exact h.r, two0 h.k _ _⟩
theorem KpS.start (w : World) : KpS w ((w.alloc (.cells #[.string ⟨#[]⟩, .string ⟨#[]⟩] 88 (0, 0))).alloc (.cells #[.string ⟨#[]⟩, .string ⟨#[]⟩] 88 (0, 0))) ⟨#[]⟩ ⟨#[]⟩ := by
  have h1 := below_new w (.cells #[.string ⟨#[]⟩, .string ⟨#[]⟩] 88 (0, 0))
  have h2 := below_new (w.alloc (.cells #[.string ⟨#[]⟩, .string ⟨#[]⟩] 88 (0, 0))) (.cells #[.string ⟨#[]⟩, .string ⟨#[]⟩] 88 (0, 0))
  have hz : (w.alloc (.cells #[.string ⟨#[]⟩, .string ⟨#[]⟩] 88 (0, 0))).heap.size = w.heap.size + 1 := by simp
  have h3 := heap_alloc_new (w.alloc (.cells #[.string ⟨#[]⟩, .string ⟨#[]⟩] 88 (0, 0))) (.cells #[.string ⟨#[]⟩, .string ⟨#[]⟩] 88 (0, 0))
  rw [hz] at h3
  exact ⟨below_out h1 h2, (h2.block _ (by omega)).trans (heap_alloc_new w _), h3⟩
theorem one_of {l : List (B × B)} (h : l.length = 1) : ∃ f, l = [f] := by
  rcases l with _ | ⟨f, _ | ⟨g, r⟩⟩
  · simp at h
  · exact ⟨f, rfl⟩
  · simp at h
theorem cnt_last {fs : List (B × B)} {i : Nat} {f : B × B} (hf : fs[i]? = some f) (h : sameB (str f.1) (str clB) = true) : lastV ((fs.take (i + 1)).filter (isF (str clB))) = (str f.1, str f.2) := by
  rw [filt_yes (P := isF (str clB)) hf h, lastV_snoc]
theorem cnt_lastn {fs : List (B × B)} {i : Nat} {f : B × B} (hf : fs[i]? = some f) (h : sameB (str f.1) (str clB) = false) : lastV ((fs.take (i + 1)).filter (isF (str clB))) = lastV ((fs.take i).filter (isF (str clB))) := by
  rw [filt_no (P := isF (str clB)) hf h]
theorem cnty {fs : List (B × B)} {P : B × B → Bool} {i m : Nat} {f : B × B} (hf : fs[i]? = some f) (h : P f = true) (hm : m = ((fs.take i).filter P).length) : m + 1 = ((fs.take (i + 1)).filter P).length := by
  rw [filt_yes hf h, List.length_append, ← hm]
  rfl
theorem cntn {fs : List (B × B)} {P : B × B → Bool} {i m : Nat} {f : B × B} (hf : fs[i]? = some f) (h : P f = false) (hm : m = ((fs.take i).filter P).length) : m = ((fs.take (i + 1)).filter P).length := by
  rw [filt_no hf h]
  exact hm
/-- What is kept: the one length that is told, or none. -/
def KAns (fs : List (B × B)) (w : World) (e : Ending) (w' : World) : Prop :=
  (∃ f, ownF1 fs = some f ∧ e = .returned (.tuple #[.agg #[.string (str f.1), .string (str f.2)], .bool true]) ∧ Below w.heap.size w w') ∨ (ownF1 fs = none ∧ ∃ a b, e = .returned (.tuple #[.agg #[.string a, .string b], .bool false]) ∧ Below w.heap.size w w')
theorem kans_some {fs : List (B × B)} {w w' : World} {e : Ending} {f : B × B} (h : ownF1 fs = some f) (he : e = .returned (.tuple #[.agg #[.string (str f.1), .string (str f.2)], .bool true])) (hb : Below w.heap.size w w') : KAns fs w e w' := .inl ⟨f, h, he, hb⟩
theorem kans_none {fs : List (B × B)} {w w' : World} {e : Ending} {a b : ByteArray} (h : ownF1 fs = none) (he : e = .returned (.tuple #[.agg #[.string a, .string b], .bool false])) (hb : Below w.heap.size w w') : KAns fs w e w' := .inr ⟨h, a, b, he, hb⟩
set_option maxRecDepth 20000 in
set_option maxHeartbeats 16000000 in
theorem pown (fs : List (B × B)) (p : Option Addr) (n c : Nat) (hn : fs.length = n) (w : World) (hF : FAt w p fs) (hsz : szN fs) (hnn : n ≤ 1000) :
    Calls Tryz.prog 58 #[.slice p n c] w fun e w' => KAns fs w e w' := by
  have HF := hid hF
  have HN := hid hn
  have HZ := hid hsz
  have HK0 := hid (KpS.start w)
  clear hF hn hsz
  go_enter Tryz.func58, Tryz.ntmps58
  go_wp2
  go_loopg [5, 10] (n + 1) (fun gk s5 s10 wr => ∃ (i m : Nat) (a b : ByteArray), s5 = .int .i64 (m : Int) ∧ s10 = .int .i64 (i : Int) ∧ i ≤ n ∧ gk = n - i + 1 ∧ m = ((fs.take i).filter (isF (str clB))).length ∧ lastV ((fs.take i).filter (isF (str clB))) = (a, b) ∧ KpS w wr a b)
  case atStart => exact ⟨0, 0, ⟨#[]⟩, ⟨#[]⟩, rfl, rfl, by omega, rfl, rfl, rfl, HK0.out⟩
  case round =>
    obtain ⟨i, m, a, b, rfl, rfl, hin, rfl, hm, hl, hk⟩ := hrel
    rename World => wr
    have hmi : m ≤ i := by rw [hm]; exact filt_le i
    have HM := hid hm
    have HL := hid hl
    have HK := hid hk
    clear hm hl hk HK0
    by_cases hlt : i < n
    · obtain ⟨f, hf⟩ : ∃ f, fs[i]? = some f := ⟨fs[i]'(by rw [HN.out]; exact hlt), List.getElem?_eq_getElem (by rw [HN.out]; exact hlt)⟩
      obtain ⟨g, oo, hp, c0, c1⟩ := (HF.out.next HK.out.low) i f hf
      subst hp
      have hltI : (i : Int) < (n : Int) := by omega
      have hwm : IntKind.i64.wrap ((m : Int) + 1) = (m : Int) + 1 := by rw [IntKind.wrap_i64]; omega
      obtain ⟨z1, z2⟩ := HZ.out f (List.mem_of_getElem? hf)
      have HS := hid (show ∀ W : World, _ from fun W => same_belW (str f.1) (str clB) W (by rw [str_size]; omega) (by decide))
      have HYy := hid (fun (h : sameB (str f.1) (str clB) = true) => And.intro (cnty (P := isF (str clB)) hf h HM.out) (cnt_last hf h))
      have HYn := hid (fun (h : sameB (str f.1) (str clB) = false) => And.intro (cntn (P := isF (str clB)) hf h HM.out) ((cnt_lastn hf h).trans HL.out))
      obtain ⟨R, hR⟩ : ∃ R, sameB (str f.1) (str clB) = R := ⟨_, rfl⟩
      rw [hR] at HS HYy HYn
      obtain ⟨N, hN⟩ : ∃ N, str f.1 = N := ⟨_, rfl⟩
      obtain ⟨V, hV⟩ : ∃ V, str f.2 = V := ⟨_, rfl⟩
      rw [hN] at c0 HS HYy
      rw [hV] at c1 HYy
      have HS2 := hid (show ∀ W : World, Calls Tryz.prog 97 #[.string N, .string (⟨#[67, 111, 110, 116, 101, 110, 116, 45, 76, 101, 110, 103, 116, 104]⟩ : ByteArray)] W fun e w' => e = .returned (.bool R) ∧ Below W.heap.size W w' from HS.out)
      have HKb := hid (HK.out.next (below_new wr (.cells #[.string N, .string V] 88 (0, 0))))
      have HX := hid (heap_alloc_new wr (.cells #[.string N, .string V] 88 (0, 0)))
      clear hf hN hV z1 z2 hR HS
      cases R with
      | true =>
        have HY := hid (HYy.out rfl)
        go_wp2_with (go_at_call 97; (with_reducible refine (HS2.out _).mono ?_); rintro e w2 ⟨rfl, hb⟩; have HK2 := hid (HKb.out.next hb); obtain ⟨x0, x1⟩ := box2W ((hb.block _ (lt_of_heap HX.out)).trans HX.out); obtain ⟨⟨y0, y1⟩, y2, y3⟩ := zz2 HK2.out.k; clear hb HS2)
        go_roundg (n - (i + 1) + 1)
        case measure => omega
        case rel => exact ⟨i + 1, m + 1, N, V, by go_num, by go_num, by omega, rfl, HY.out.1, HY.out.2, HK2.out.set N V⟩
      | false =>
        have HY := hid (HYn.out rfl)
        go_wp2_with (go_at_call 97; (with_reducible refine (HS2.out _).mono ?_); rintro e w2 ⟨rfl, hb⟩; have HK2 := hid (HKb.out.next hb); clear hb HS2)
        go_roundg (n - (i + 1) + 1)
        case measure => omega
        case rel => exact ⟨i + 1, m, a, b, rfl, by go_num, by omega, rfl, HY.out.1, HY.out.2, HK2.out⟩
    · obtain rfl : i = n := by omega
      have hltI : ¬ (i : Int) < (i : Int) := by omega
      have hT : fs.take i = fs := List.take_of_length_le (by rw [HN.out]; exact Nat.le_refl _)
      have hm := HM.out
      have hl := HL.out
      rw [hT] at hm hl
      obtain ⟨⟨y0, y1⟩, y2, y3⟩ := zz2 HK.out.k
      obtain ⟨⟨r0, r1⟩, r2, r3⟩ := zz2 HK.out.r
      clear hlt HM HL
      by_cases h1 : m = 1
      · subst h1
        obtain ⟨f, hf⟩ := one_of hm.symm
        rw [hf] at hl
        obtain ⟨rfl, rfl⟩ : str f.1 = a ∧ str f.2 = b := by
          have h9 : lastV [f] = (str f.1, str f.2) := rfl
          rw [h9] at hl
          exact ⟨(Prod.mk.inj hl).1, (Prod.mk.inj hl).2⟩
        have HOw := hid (own_some hf)
        have hfm : f ∈ fs := (List.mem_filter.1 (show f ∈ fs.filter (isF (str clB)) from by rw [hf]; exact List.mem_singleton.2 rfl)).1
        have HIs := hid (show ∀ W : World, _ from fun W => pislen f.2 W (HZ.out f hfm).2)
        obtain ⟨R, hR⟩ : ∃ R, lenV f.2 = R := ⟨_, rfl⟩
        rw [hR] at HIs HOw
        clear hm hl hf hfm hR hT
        cases R with
        | true =>
          go_wp2_with (go_at_call 98; (with_reducible refine (HIs.out _).mono ?_); rintro e w2 ⟨rfl, hw2⟩; subst w2; clear HIs)
          (try simp only [Exit.inBlock, Exit.then])
          refine bodyPost_ret (results_fldO rfl _ _ _ 88 _ (0, 0) rfl (two0 HK.out.r _ _) rfl) rfl ?_
          refine kans_some (f := f) (by rw [HOw.out]; rfl) rfl ?_
          iterate 2 refine Below.setCell ?_ (show w.heap.size ≤ w.heap.size from Nat.le_refl _) _
          exact HK.out.low
        | false =>
          go_wp2_with (go_at_call 98; (with_reducible refine (HIs.out _).mono ?_); rintro e w2 ⟨rfl, hw2⟩; subst w2; clear HIs)
          (try simp only [Exit.inBlock, Exit.then])
          refine bodyPost_ret (results_fldO rfl _ _ _ 88 _ (0, 0) rfl (two0 HK.out.r _ _) rfl) rfl ?_
          refine kans_none (by rw [HOw.out]; rfl) rfl ?_
          iterate 2 refine Below.setCell ?_ (show w.heap.size ≤ w.heap.size from Nat.le_refl _) _
          exact HK.out.low
      · have HOw := hid (own_none (fs := fs) (by rw [← hm]; exact h1))
        have h2 : ((m : Int) != 1) = true := by simp; omega
        have h3 : ¬ (m : Int) = 1 := by omega
        clear hm hl hT h1
        go_wp2
        (try simp only [Exit.inBlock, Exit.then])
        refine bodyPost_ret (results_fldO rfl _ _ _ 88 _ (0, 0) rfl (two0 HK.out.r _ _) rfl) rfl ?_
        refine kans_none HOw.out rfl ?_
        iterate 2 refine Below.setCell ?_ (show w.heap.size ≤ w.heap.size from Nat.le_refl _) _
        exact HK.out.low
set_option maxRecDepth 20000 in
set_option maxHeartbeats 16000000 in
theorem dkept (fs : List (B × B)) (p : Option Addr) (n c : Nat) (hn : fs.length = n) (w : World) (hF : FAt w p fs) (hsz : szN fs) (hnn : n ≤ 1000) :
    Calls Tryz.prog 61 #[.slice p n c] w fun e w' => KAns fs w e w' := by
  have HF := hid hF
  have HN := hid hn
  have HZ := hid hsz
  have HK0 := hid (KpS.start w)
  clear hF hn hsz
  go_enter Tryz.func61, Tryz.ntmps61
  go_wp2
  go_loopg [4, 6] (n + 1) (fun gk s5 s10 wr => ∃ (i m : Nat) (a b : ByteArray), s5 = .int .i64 (m : Int) ∧ s10 = .int .i64 (i : Int) ∧ i ≤ n ∧ gk = n - i + 1 ∧ m = ((fs.take i).filter (isF (str clB))).length ∧ lastV ((fs.take i).filter (isF (str clB))) = (a, b) ∧ KpS w wr a b)
  case atStart => exact ⟨0, 0, ⟨#[]⟩, ⟨#[]⟩, rfl, rfl, by omega, rfl, rfl, rfl, HK0.out⟩
  case round =>
    obtain ⟨i, m, a, b, rfl, rfl, hin, rfl, hm, hl, hk⟩ := hrel
    rename World => wr
    have hmi : m ≤ i := by rw [hm]; exact filt_le i
    have HM := hid hm
    have HL := hid hl
    have HK := hid hk
    clear hm hl hk HK0
    by_cases hlt : i < n
    · obtain ⟨f, hf⟩ : ∃ f, fs[i]? = some f := ⟨fs[i]'(by rw [HN.out]; exact hlt), List.getElem?_eq_getElem (by rw [HN.out]; exact hlt)⟩
      obtain ⟨g, oo, hp, c0, c1⟩ := (HF.out.next HK.out.low) i f hf
      subst hp
      have hltI : (i : Int) < (n : Int) := by omega
      have hwm : IntKind.i64.wrap ((m : Int) + 1) = (m : Int) + 1 := by rw [IntKind.wrap_i64]; omega
      obtain ⟨z1, z2⟩ := HZ.out f (List.mem_of_getElem? hf)
      have HS := hid (show ∀ W : World, _ from fun W => rsame_any (str f.1) (str clB) W (by rw [str_size]; omega) (by decide))
      have HYy := hid (fun (h : sameB (str f.1) (str clB) = true) => And.intro (cnty (P := isF (str clB)) hf h HM.out) (cnt_last hf h))
      have HYn := hid (fun (h : sameB (str f.1) (str clB) = false) => And.intro (cntn (P := isF (str clB)) hf h HM.out) ((cnt_lastn hf h).trans HL.out))
      obtain ⟨R, hR⟩ : ∃ R, sameB (str f.1) (str clB) = R := ⟨_, rfl⟩
      rw [hR] at HS HYy HYn
      obtain ⟨N, hN⟩ : ∃ N, str f.1 = N := ⟨_, rfl⟩
      obtain ⟨V, hV⟩ : ∃ V, str f.2 = V := ⟨_, rfl⟩
      rw [hN] at c0 HS HYy
      rw [hV] at c1 HYy
      have HS2 := hid (show ∀ W : World, Calls Tryz.prog 49 #[.string N, .string (⟨#[67, 111, 110, 116, 101, 110, 116, 45, 76, 101, 110, 103, 116, 104]⟩ : ByteArray)] W fun e w' => e = .returned (.bool R) ∧ Below W.heap.size W w' from HS.out)
      clear hf hN hV z1 z2 hR HS
      cases R with
      | true =>
        have HY := hid (HYy.out rfl)
        go_wp2_with (go_at_call 49; (with_reducible refine (HS2.out _).mono ?_); rintro e w2 ⟨rfl, hb⟩; have HK2 := hid (HK.out.next hb); have x0 := cell_keep hb c0; have x1 := cell_keep hb c1; obtain ⟨⟨y0, y1⟩, y2, y3⟩ := zz2 HK2.out.k; clear hb HS2)
        go_roundg (n - (i + 1) + 1)
        case measure => omega
        case rel => exact ⟨i + 1, m + 1, N, V, by go_num, by go_num, by omega, rfl, HY.out.1, HY.out.2, HK2.out.set N V⟩
      | false =>
        have HY := hid (HYn.out rfl)
        go_wp2_with (go_at_call 49; (with_reducible refine (HS2.out _).mono ?_); rintro e w2 ⟨rfl, hb⟩; have HK2 := hid (HK.out.next hb); clear hb HS2)
        go_roundg (n - (i + 1) + 1)
        case measure => omega
        case rel => exact ⟨i + 1, m, a, b, rfl, by go_num, by omega, rfl, HY.out.1, HY.out.2, HK2.out⟩
    · obtain rfl : i = n := by omega
      have hltI : ¬ (i : Int) < (i : Int) := by omega
      have hT : fs.take i = fs := List.take_of_length_le (by rw [HN.out]; exact Nat.le_refl _)
      have hm := HM.out
      have hl := HL.out
      rw [hT] at hm hl
      obtain ⟨⟨y0, y1⟩, y2, y3⟩ := zz2 HK.out.k
      obtain ⟨⟨r0, r1⟩, r2, r3⟩ := zz2 HK.out.r
      clear hlt HM HL
      by_cases h1 : m = 1
      · subst h1
        obtain ⟨f, hf⟩ := one_of hm.symm
        rw [hf] at hl
        obtain ⟨rfl, rfl⟩ : str f.1 = a ∧ str f.2 = b := by
          have h9 : lastV [f] = (str f.1, str f.2) := rfl
          rw [h9] at hl
          exact ⟨(Prod.mk.inj hl).1, (Prod.mk.inj hl).2⟩
        have HOw := hid (own_some hf)
        have hfm : f ∈ fs := (List.mem_filter.1 (show f ∈ fs.filter (isF (str clB)) from by rw [hf]; exact List.mem_singleton.2 rfl)).1
        have hvz := (HZ.out f hfm).2
        have hvs : (str f.2).size = f.2.length := str_size f.2
        clear hm hl hf hfm hT
        by_cases hr : 1 ≤ f.2.length ∧ f.2.length ≤ 15
        · obtain ⟨N, hN⟩ : ∃ N, str f.1 = N := ⟨_, rfl⟩
          obtain ⟨V, hV⟩ : ∃ V, str f.2 = V := ⟨_, rfl⟩
          have HNN := hid hN
          have HVV := hid hV
          rw [hN] at y0 HK
          rw [hV] at y1 HK hvs
          obtain ⟨len, hlen⟩ : ∃ len, f.2.length = len := ⟨_, rfl⟩
          rw [hlen] at hr hvs hvz
          have HLn := hid hlen
          have b1 : ¬ (V.size : Int) < 1 := by omega
          have b2 : ¬ (V.size : Int) > 15 := by omega
          clear hN hV hlen
          go_wp2
          go_loopg [7] (len + 1) (fun gk s7 wv => ∃ j : Nat, s7 = .int .i64 (j : Int) ∧ j ≤ len ∧ gk = len - j + 1 ∧ (f.2.take j).all dgB1 = true ∧ KpS w wv N V)
          case atStart => exact ⟨0, rfl, by omega, rfl, rfl, HK.out⟩
          case round =>
            obtain ⟨j, rfl, hjn, rfl, hal, hk⟩ := hrel
            rename World => wv
            have HA := hid hal
            have HKv := hid hk
            clear hal hk HK y0 y1 y2 y3 r0 r1 r2 r3
            obtain ⟨⟨y0, y1⟩, y2, y3⟩ := zz2 HKv.out.k
            obtain ⟨⟨r0, r1⟩, r2, r3⟩ := zz2 HKv.out.r
            by_cases hlt : j < len
            · obtain ⟨ch, hch⟩ : ∃ ch, f.2[j]? = some ch := ⟨f.2[j]'(by rw [HLn.out]; exact hlt), List.getElem?_eq_getElem (by rw [HLn.out]; exact hlt)⟩
              have hltI : (j : Int) < (V.size : Int) := by omega
              have HAt := hid (show ∃ h : j < V.size, V[j] = ch from by
                subst hvs
                refine ⟨by omega, ?_⟩
                have h9 := HVV.out
                subst h9
                have h8 := (List.getElem?_eq_some_iff.1 hch).2
                rw [← h8]
                rfl)
              have hjs : j < V.size := by omega
              have hVj : V[j] = ch := HAt.out.2
              have HDg := hid (show ∀ W : World, Calls Tryz.prog 102 #[.int .u8 (ch.toNat : Int)] W fun e w' => e = .returned (.bool (dgB1 ch)) ∧ w' = W from fun W => by
                have h := rdigit_any (ch.toNat : Int) W (by omega) (by have := ch.toNat_lt; omega)
                rw [show digB (ch.toNat : Int) = dgB1 ch from by unfold digB dgB1; exact decide_eq_decide.2 (by omega)] at h
                exact h)
              have HTk := hid (show (f.2.take (j + 1)).all dgB1 = ((f.2.take j).all dgB1 && dgB1 ch) from by rw [List.take_add_one, hch, List.all_append]; simp)
              have HNo := hid (fun (h : dgB1 ch = false) => show lenV f.2 = false from by
                unfold lenV
                have h9 : f.2.all dgB1 = false := by
                  rw [List.all_eq_false]
                  exact ⟨ch, List.mem_of_getElem? hch, by rw [h]; decide⟩
                rw [h9, Bool.and_false])
              obtain ⟨R, hR⟩ : ∃ R, dgB1 ch = R := ⟨_, rfl⟩
              rw [hR] at HDg HTk HNo
              clear hch hR HAt
              cases R with
              | true =>
                have HT := hid (show (f.2.take (j + 1)).all dgB1 = true from by rw [HTk.out, HA.out]; rfl)
                go_wp2_with (go_at_call 102; (try rw [hVj]); (with_reducible refine (HDg.out _).mono ?_); rintro e w5 ⟨rfl, hw5⟩; subst w5; clear HDg)
                go_roundg (len - (j + 1) + 1)
                case measure => omega
                case rel => exact ⟨j + 1, by go_num, by omega, rfl, HT.out, HKv.out⟩
              | false =>
                have HT := hid (show ownF1 fs = none from by rw [HOw.out, HNo.out rfl]; rfl)
                go_wp2_with (go_at_call 102; (try rw [hVj]); (with_reducible refine (HDg.out _).mono ?_); rintro e w5 ⟨rfl, hw5⟩; subst w5; clear HDg)
                (try simp only [Exit.inBlock, Exit.then])
                refine bodyPost_ret (results_fldO rfl _ _ _ 88 _ (0, 0) rfl (two0 HKv.out.r _ _) rfl) rfl ?_
                refine kans_none HT.out rfl ?_
                iterate 2 refine Below.setCell ?_ (show w.heap.size ≤ w.heap.size from Nat.le_refl _) _
                exact HKv.out.low
            · obtain rfl : j = len := by omega
              have hltI : ¬ (j : Int) < (V.size : Int) := by omega
              have HT := hid (show ownF1 fs = some f from by
                rw [HOw.out]
                unfold lenV
                have h9 := HA.out
                rw [List.take_of_length_le (by rw [HLn.out]; exact Nat.le_refl _)] at h9
                rw [h9, HLn.out, decide_eq_true hr]
                rfl)
              go_wp2
              (try simp only [Exit.inBlock, Exit.then])
              refine bodyPost_ret (results_fldO rfl _ _ _ 88 _ (0, 0) rfl (two0 HKv.out.r _ _) rfl) rfl ?_
              refine kans_some (f := f) HT.out (by rw [HNN.out, HVV.out]; rfl) ?_
              iterate 2 refine Below.setCell ?_ (show w.heap.size ≤ w.heap.size from Nat.le_refl _) _
              exact HKv.out.low
        · have HT := hid (show ownF1 fs = none from by rw [HOw.out]; unfold lenV; rw [decide_eq_false hr]; rfl)
          by_cases h1 : f.2.length < 1
          · have b1 : ((str f.2).size : Int) < 1 := by omega
            clear hr
            go_wp2
            (try simp only [Exit.inBlock, Exit.then])
            refine bodyPost_ret (results_fldO rfl _ _ _ 88 _ (0, 0) rfl (two0 HK.out.r _ _) rfl) rfl ?_
            refine kans_none HT.out rfl ?_
            iterate 2 refine Below.setCell ?_ (show w.heap.size ≤ w.heap.size from Nat.le_refl _) _
            exact HK.out.low
          · have b1 : ¬ ((str f.2).size : Int) < 1 := by omega
            have b2 : ((str f.2).size : Int) > 15 := by omega
            clear hr
            go_wp2
            (try simp only [Exit.inBlock, Exit.then])
            refine bodyPost_ret (results_fldO rfl _ _ _ 88 _ (0, 0) rfl (two0 HK.out.r _ _) rfl) rfl ?_
            refine kans_none HT.out rfl ?_
            iterate 2 refine Below.setCell ?_ (show w.heap.size ≤ w.heap.size from Nat.le_refl _) _
            exact HK.out.low
      · have HOw := hid (own_none (fs := fs) (by rw [← hm]; exact h1))
        have h2 : ((m : Int) != 1) = true := by simp; omega
        have h3 : ¬ (m : Int) = 1 := by omega
        clear hm hl hT h1
        go_wp2
        (try simp only [Exit.inBlock, Exit.then])
        refine bodyPost_ret (results_fldO rfl _ _ _ 88 _ (0, 0) rfl (two0 HK.out.r _ _) rfl) rfl ?_
        refine kans_none HOw.out rfl ?_
        iterate 2 refine Below.setCell ?_ (show w.heap.size ≤ w.heap.size from Nat.le_refl _) _
        exact HK.out.low
end Go.Proofs.YtnlmjlfoeodleaaGreatDoor
/- A response that goes on, in plain lists; what is carried along. -/
namespace Go.Proofs.YtnlmjlfoeodleaaGreatDoor
open Go.RowKit

/-- The fields of a response that goes on. -/
def onP1 (fs : List (B × B)) (k : Int) : List (B × B) := viaF (framF (stripF fs) 0 0) k
def onP2 (st K L : Int) (fs : List (B × B)) (k : Int) : List (B × B) := if bareS st = true then onP1 fs k else if K = 0 then (match ownF1 (stripF fs) with
  | some f => onP1 fs k ++ [f]
  | none => onP1 fs k) else framF (onP1 fs k) K L
def onP (st K L : Int) (lst : Bool) (fs : List (B × B)) (k : Int) : List (B × B) := if lst = true then onP2 st K L fs k ++ [(connB, cloB)] else onP2 st K L fs k
theorem onP2_b {st K L : Int} {fs : List (B × B)} {k : Int} (h : bareS st = true) : onP2 st K L fs k = onP1 fs k := by unfold onP2; rw [if_pos h]
theorem onP2_o {st L : Int} {fs : List (B × B)} {k : Int} {f : B × B} (h : bareS st = false) (ho : ownF1 (stripF fs) = some f) : onP2 st 0 L fs k = onP1 fs k ++ [f] := by unfold onP2; rw [if_neg (by rw [h]; decide), if_pos rfl, ho]
theorem onP2_n {st L : Int} {fs : List (B × B)} {k : Int} (h : bareS st = false) (ho : ownF1 (stripF fs) = none) : onP2 st 0 L fs k = onP1 fs k := by unfold onP2; rw [if_neg (by rw [h]; decide), if_pos rfl, ho]
theorem onP2_d {st K L : Int} {fs : List (B × B)} {k : Int} (h : bareS st = false) (hK : ¬ K = 0) : onP2 st K L fs k = framF (onP1 fs k) K L := by unfold onP2; rw [if_neg (by rw [h]; decide), if_neg hK]
theorem own_mem {fs : List (B × B)} {f : B × B} (h : ownF1 fs = some f) : f ∈ fs := by
  unfold ownF1 at h
  split at h
  · rename_i g e
    split at h
    · obtain rfl := Option.some.inj h
      exact (List.mem_filter.1 (show g ∈ fs.filter (isF (str clB)) from by rw [e]; exact List.mem_singleton.2 rfl)).1
    · cases h
  · cases h
theorem framF_mem {fs : List (B × B)} {K L : Int} {f : B × B} (h : f ∈ framF fs K L) : f ∈ fs ∨ f ∈ frmA K L := by
  unfold framF at h
  rcases List.mem_append.1 h with h1 | h1
  · unfold bareF delB at h1
    exact .inl (List.mem_filter.1 (List.mem_filter.1 h1).1).1
  · exact .inr h1
theorem frmA_sz {K L : Int} (hL0 : -9223372036854775808 ≤ L) (hL1 : L ≤ 9223372036854775807) : szC 1048576 (frmA K L) := by
  intro f hf
  unfold frmA at hf
  split at hf
  · simp at hf
    subst hf
    refine ⟨show clB.length ≤ 1048576 from by decide, ?_⟩
    rcases itoa_few L with h5 | h5
    · exact Nat.le_trans h5 (by decide)
    · omega
  · split at hf
    · simp at hf
      subst hf
      exact ⟨show teB.length ≤ 1048576 from by decide, show chB.length ≤ 1048576 from by decide⟩
    · cases hf
theorem onP1_sz {fs : List (B × B)} {k : Int} (hsz : szN fs) : szC 1048576 (onP1 fs k) := by
  intro f hf
  unfold onP1 viaF at hf
  rcases List.mem_append.1 hf with h | h
  · rcases framF_mem h with h1 | h1
    · exact hsz f (List.mem_filter.1 h1).1
    · exact frmA_sz (by decide) (by decide) f h1
  · simp at h
    subst h
    exact ⟨show viaN.length ≤ 1048576 from by decide, Nat.le_trans (viaV_len k) (by decide)⟩
theorem onP2_sz {st K L : Int} {fs : List (B × B)} {k : Int} (hsz : szN fs) (hL0 : -9223372036854775808 ≤ L) (hL1 : L ≤ 9223372036854775807) : szC 1048576 (onP2 st K L fs k) := by
  have h1 := onP1_sz (k := k) hsz
  intro f hf
  unfold onP2 at hf
  split at hf
  · exact h1 f hf
  · split at hf
    · split at hf
      · rename_i g hg
        rcases List.mem_append.1 hf with h | h
        · exact h1 f h
        · simp at h
          subst h
          exact hsz _ (List.mem_filter.1 (own_mem hg)).1
      · exact h1 f hf
    · rcases framF_mem hf with h | h
      · exact h1 f h
      · exact frmA_sz hL0 hL1 f h
theorem onP_sz {st K L : Int} {lst : Bool} {fs : List (B × B)} {k : Int} (hsz : szN fs) (hL0 : -9223372036854775808 ≤ L) (hL1 : L ≤ 9223372036854775807) : szC 1048576 (onP st K L lst fs k) := by
  have h1 := onP2_sz (st := st) (K := K) (k := k) hsz hL0 hL1
  intro f hf
  unfold onP at hf
  split at hf
  · rcases List.mem_append.1 hf with h | h
    · exact h1 f h
    · simp at h
      subst h
      exact ⟨show connB.length ≤ 1048576 from by decide, show cloB.length ≤ 1048576 from by decide⟩
  · exact h1 f hf
theorem framF_len (fs : List (B × B)) (K L : Int) : (framF fs K L).length ≤ fs.length + 1 := by
  unfold framF
  rw [List.length_append]
  have h1 := bareF_len fs
  have h2 : (frmA K L).length ≤ 1 := by unfold frmA; split <;> (try split) <;> simp
  omega
theorem onP1_len (fs : List (B × B)) (k : Int) : (onP1 fs k).length ≤ fs.length + 2 := by
  unfold onP1 viaF
  rw [List.length_append]
  have h1 := framF_len (stripF fs) 0 0
  have h2 := stripF_le fs
  simp only [List.length_cons, List.length_nil]
  omega
theorem onP2_len (st K L : Int) (fs : List (B × B)) (k : Int) : (onP2 st K L fs k).length ≤ fs.length + 3 := by
  have h1 := onP1_len fs k
  unfold onP2
  split
  · omega
  · split
    · split
      · rw [List.length_append]; simp only [List.length_cons, List.length_nil]; omega
      · omega
    · have := framF_len (onP1 fs k) K L
      omega
theorem onP_len (st K L : Int) (lst : Bool) (fs : List (B × B)) (k : Int) : (onP st K L lst fs k).length ≤ fs.length + 4 := by
  have h1 := onP2_len st K L fs k
  unfold onP
  split
  · rw [List.length_append]; simp only [List.length_cons, List.length_nil]; omega
  · omega
theorem wresp_e (s : Int) (r : B) (k : Int) (fs : List (B × B)) (p : Option Addr) (n c : Nat) (hn : fs.length = n) (w : World) (hE : EnvP w) (hF : FAt w p fs) (hsz : szC 1048576 fs) (hnn : n ≤ 100000) (hr : r.length ≤ 1048576) : Calls Tryz.prog 59 #[.agg #[.int .i64 s, .string (str r), .int .i64 k, .slice p n c]] w fun e w' => ∃ v, e = .returned (.tuple #[v, errOf (respE s r k fs)]) ∧ Below w.heap.size w w' := by
  have hz2 : ∀ f ∈ fs, f.1.length ≤ 140737488355328 ∧ f.2.length ≤ 140737488355328 := fun f hf => ⟨Nat.le_trans (hsz f hf).1 (by decide), Nat.le_trans (hsz f hf).2 (by decide)⟩
  by_cases hl : lineP s r k = true
  · by_cases hz : wrE (firstP (verC k) (told 10 s.toNat) r) fs = 0
    · refine (wresp_yes s r k fs p n c hn w hE hF hz2 (by omega) (by omega) hl hz).mono ?_
      rintro e w' ⟨q9, d9, rfl, _, hb⟩
      have he : respE s r k fs = 0 := by unfold respE; rw [if_pos hl]; exact hz
      rw [he]
      exact ⟨_, rfl, hb⟩
    · refine (wresp_no s r k fs p n c hn w hE hF hz2 (by omega) (by omega) hl hz).mono ?_
      rintro e w' ⟨rfl, hb⟩
      have he : respE s r k fs = wrE (firstP (verC k) (told 10 s.toNat) r) fs := by unfold respE; rw [if_pos hl]
      rw [he]
      exact ⟨_, rfl, hb⟩
  · have hl' : lineP s r k = false := by simpa using hl
    refine (wresp_line s r k p n c w (by omega) hl').mono ?_
    rintro e w' ⟨rfl, hb⟩
    have he : respE s r k fs = 20 := by unfold respE; rw [if_neg hl]
    rw [he]
    exact ⟨_, rfl, hb⟩
theorem resp_sizeO : (Tryz.prog.info? 62).map (·.size) = some 4 := by kernel_rfl
theorem results_respO {fn : Func} {p u : Tmp} (h : fn.results = #[.cell p 62, .tmp u]) (tmps : Array Value) (w : World) (g : Nat) (t : TypeId) (cs : Array Value) (fr : Nat × Nat)
    (hp : tmps.getD p undef = .pointer (some ⟨g, 0, none⟩)) (hg : w.heap[g]? = some (.cells cs t fr)) (hs : cs.size = 4) : (results fn tmps).run Tryz.prog w = .ok (.tuple #[.agg cs, tmps.getD u undef]) w := by
  have hl := run_loadVar_row (P := Tryz.prog) w g t 62 cs fr _ hg Tryz.underlying62 rfl (by rw [resp_sizeO, hs])
  rw [results_cell_tmp h, hp]
  simp [asAddr, Result.andThen, hl]
/-- What is carried along: what was handed in, in its boxes, and the box of the answer. -/
structure RpO (w W : World) (A F : Array Value) : Prop where
  low : Below w.heap.size w W
  bx : W.heap[w.heap.size]? = some (.cells A 62 (0, 0))
  fb : W.heap[w.heap.size + 1]? = some (.cells F 23 (0, 0))
  rz : W.heap[w.heap.size + 2]? = some (.cells #[.int .i64 0, .string ⟨#[]⟩, .int .i64 0, .slice none 0 0] 62 (0, 0))
theorem RpO.next {w W W' : World} {A F : Array Value} (h : RpO w W A F) (hb : Below W.heap.size W W') : RpO w W' A F := ⟨below_out h.low hb, (hb.block _ (lt_of_heap h.bx)).trans h.bx, (hb.block _ (lt_of_heap h.fb)).trans h.fb, (hb.block _ (lt_of_heap h.rz)).trans h.rz⟩
theorem RpO.start (w : World) (A F : Array Value) : RpO w (((w.alloc (.cells A 62 (0, 0))).alloc (.cells F 23 (0, 0))).alloc (.cells #[.int .i64 0, .string ⟨#[]⟩, .int .i64 0, .slice none 0 0] 62 (0, 0))) A F := by
  have h1 := below_new w (.cells A 62 (0, 0))
  have h2 := below_new (w.alloc (.cells A 62 (0, 0))) (.cells F 23 (0, 0))
  have h3 := below_new ((w.alloc (.cells A 62 (0, 0))).alloc (.cells F 23 (0, 0))) (.cells #[.int .i64 0, .string ⟨#[]⟩, .int .i64 0, .slice none 0 0] 62 (0, 0))
  have z1 : (w.alloc (.cells A 62 (0, 0))).heap.size = w.heap.size + 1 := by simp
  have z2 : ((w.alloc (.cells A 62 (0, 0))).alloc (.cells F 23 (0, 0))).heap.size = w.heap.size + 2 := by simp
  have e2 := heap_alloc_new (w.alloc (.cells A 62 (0, 0))) (.cells F 23 (0, 0))
  rw [z1] at e2
  have e3 := heap_alloc_new ((w.alloc (.cells A 62 (0, 0))).alloc (.cells F 23 (0, 0))) (.cells #[.int .i64 0, .string ⟨#[]⟩, .int .i64 0, .slice none 0 0] 62 (0, 0))
  rw [z2] at e3
  refine ⟨below_out (below_out h1 h2) h3, ?_, (h3.block _ (by omega)).trans e2, e3⟩
  rw [h3.block _ (by omega), h2.block _ (by omega)]
  exact heap_alloc_new w _
/-- .. and what goes on, in a box of its own. -/
structure RpT (w W : World) (A : Array Value) (gL g9 : Nat) (F : List (B × B)) : Prop where
  low : Below w.heap.size w W
  rz : W.heap[w.heap.size + 2]? = some (.cells #[.int .i64 0, .string ⟨#[]⟩, .int .i64 0, .slice none 0 0] 62 (0, 0))
  nw : W.heap[g9]? = some (.cells A 62 (0, 0))
  row : BlkF W gL F
  gl : w.heap.size + 2 < gL
theorem RpT.next {w W W' : World} {A : Array Value} {gL g9 : Nat} {F : List (B × B)} (h : RpT w W A gL g9 F) (hb : Below W.heap.size W W') : RpT w W' A gL g9 F := ⟨below_out h.low hb, (hb.block _ (lt_of_heap h.rz)).trans h.rz, (hb.block _ (lt_of_heap h.nw)).trans h.nw, h.row.next hb, h.gl⟩
theorem RpT.made {w W : World} {A Fr : Array Value} {gL g9 : Nat} {F : List (B × B)} {x0 x1 x2 x3 : Value} (h : RpO w W A Fr) (hr : BlkF W gL F) (hg : w.heap.size + 2 < gL) (h9 : W.heap[g9]? = some (.cells #[x0, x1, x2, x3] 62 (0, 0))) (hw9 : w.heap.size + 2 < g9) (hne : gL ≠ g9) (c0 c1 c2 c3 : Value) : RpT w ((((W.setCell ⟨g9, 0, none⟩ c0).setCell ⟨g9, 1, none⟩ c1).setCell ⟨g9, 2, none⟩ c2).setCell ⟨g9, 3, none⟩ c3) #[c0, c1, c2, c3] gL g9 F := by
  have ho := only4O (F := fun k => k = g9) (w := W) rfl c0 c1 c2 c3
  refine ⟨?_, (ho.block _ (lt_of_heap h.rz) (fun e => by have e2 : w.heap.size + 2 = g9 := e; omega)).trans h.rz, fourCO h9 c0 c1 c2 c3, blkF_only hr ho hne, hg⟩
  iterate 4 refine Below.setCell ?_ (show w.heap.size ≤ g9 by omega) _
  exact h.low
/-- What Response answers. -/
def PAns (st : Int) (r : B) (mi : Int) (F : List (B × B)) (w : World) (e : Ending) (w' : World) : Prop :=
  (greatE F.length (respE st r mi F) ≠ 0 ∧ e = .returned (.tuple #[.agg #[.int .i64 0, .string ⟨#[]⟩, .int .i64 0, .slice none 0 0], .iface 72 (.int .i64 (greatE F.length (respE st r mi F) : Int))]) ∧ Below w.heap.size w w') ∨
  (greatE F.length (respE st r mi F) = 0 ∧ ∃ g, e = .returned (.tuple #[.agg #[.int .i64 st, .string (str r), .int .i64 mi, .slice (some ⟨g, 0, none⟩) F.length F.length], .nilIface]) ∧ w.heap.size ≤ g ∧ BlkF w' g F ∧ Below w.heap.size w w')
end Go.Proofs.YtnlmjlfoeodleaaGreatDoor
/- What the document's Response stands on. -/
namespace Go.Proofs.YtnlmjlfoeodleaaGreatDoor
open Go.RowKit

def ToldO (w : World) (X : List (B × B)) (m : Nat) (e : Ending) (w' : World) : Prop := ∃ q d, e = .returned (.slice q m d) ∧ OwnF w' w.heap.size (.slice q m d) X ∧ Below w.heap.size w w'
theorem toldO_mk {w w' : World} {X : List (B × B)} {m d : Nat} {q : Option Addr} {e : Ending} (h : e = .returned (.slice q m d)) (hf : OwnF w' w.heap.size (.slice q m d) X) (hb : Below w.heap.size w w') : ToldO w X m e w' := ⟨q, d, h, hf, hb⟩
set_option maxRecDepth 20000 in
set_option maxHeartbeats 8000000 in
theorem daddO_some (fs : List (B × B)) (ad : Addr) (n c : Nat) (hn : fs.length = n) (a b : B) (w : World) (hF : FAt w (some ad) fs) (hnn : n + 1 ≤ 4398046511104) :
    Calls Tryz.prog 53 #[.slice (some ad) n c, .string (str a), .string (str b)] w fun e w' => ToldO w (fs ++ [(a, b)]) (n + 1) e w' := by
  obtain ⟨i0, hi0, hz0, hz1, hz2⟩ := info_parts infoF
  obtain ⟨N, hN⟩ : ∃ N, str a = N := ⟨_, rfl⟩
  obtain ⟨V, hV⟩ : ∃ V, str b = V := ⟨_, rfl⟩
  rw [hN, hV]
  have HNN := hid hN
  have HVV := hid hV
  have HL := hid hn
  have HNw := hid hF.newsW
  clear hF hn hN hV
  go_enter Tryz.func53, Tryz.ntmps53
  go_wp2_with (first | (at_builtin; refine wpList_append_own_at w rfl (.tmp 8) (.tmp 9) 33 rfl w.heap.size 88 i0 _ 2 32 Tryz.underlying33 hi0 hz0 hz1 hz2 rfl (by decide) (.slice none 0 0) 0 [] (by go_simp) (OwnF.nil _ _) ad n c (fldC fs) (by go_simp) (by rw [fldC_len, HL.out]) HNw.out (fldC_oneW fs) (by unfold maxLen; omega) (by omega) (Nat.le_refl _) ?_; intro v' w1 hown hgr _ _; rw [Nat.zero_add, List.nil_append] at hown; obtain ⟨q, d, rfl⟩ := own_slice hown; have HO := hid (show OwnF w1 w.heap.size (.slice q n d) fs from by unfold OwnF; rw [HL.out]; exact hown); have HB := hid (below_grown hgr); clear hown hgr HNw) | (at_builtin; refine wpList_append_own_at _ rfl (.tmp 11) (.tmp 15) 33 rfl w.heap.size 88 i0 _ 2 32 Tryz.underlying33 hi0 hz0 hz1 hz2 rfl (by decide) (.slice q n d) n (fldC fs) (by go_simp) (by have h9 := HO.out.alloc (.cells #[.string N, .string V] 88 (0, 0)); unfold OwnF at h9; rw [HL.out] at h9; exact h9) ⟨w1.heap.size, 0, none⟩ 1 1 [.string N, .string V] (by go_simp) rfl (cells_new w1 _ _) (by simp [Value.oneCell']) (by unfold maxLen; omega) (by omega) (Nat.le_trans HB.out.size (below_new _ _).size) ?_; intro v' w9 hown hgr _ _; obtain ⟨q9, d9, rfl⟩ := own_slice hown; have HB9 := hid (app_belowL HB.out HO.out hgr); have HF9 := hid (show OwnF w9 w.heap.size (.slice q9 (n + 1) d9) (fs ++ [(a, b)]) from OwnF.snocW (f := (a, b)) HL.out.symm HNN.out HVV.out hown); clear hown hgr))
  go_ret
  exact toldO_mk rfl HF9.out HB9.out
set_option maxRecDepth 20000 in
set_option maxHeartbeats 8000000 in
theorem daddO_none (fs : List (B × B)) (n c : Nat) (hn : fs.length = n) (a b : B) (w : World) (hF : FAt w none fs) (hc0 : c = 0) (hnn : n + 1 ≤ 4398046511104) :
    Calls Tryz.prog 53 #[.slice none n c, .string (str a), .string (str b)] w fun e w' => ToldO w (fs ++ [(a, b)]) (n + 1) e w' := by
  obtain ⟨i0, hi0, hz0, hz1, hz2⟩ := info_parts infoF
  obtain ⟨N, hN⟩ : ∃ N, str a = N := ⟨_, rfl⟩
  obtain ⟨V, hV⟩ : ∃ V, str b = V := ⟨_, rfl⟩
  rw [hN, hV]
  have HNN := hid hN
  have HVV := hid hV
  have HL := hid hn
  obtain rfl := fat_nilW hF
  obtain rfl : n = 0 := hn.symm
  obtain rfl : c = 0 := hc0
  have HC := hid trivial
  have HO := hid (OwnF.nil w w.heap.size)
  have HB := hid (Below.refl w.heap.size w)
  clear hF hn hN hV
  go_enter Tryz.func53, Tryz.ntmps53
  go_wp2_with (first | (at_builtin; refine wpList_append_own_none rfl (.tmp 8) (.tmp 9) 33 rfl w.heap.size 88 i0 2 Tryz.underlying33 hi0 (.slice none 0 0) 0 [] (by go_simp) (OwnF.nil _ _) (by have := HC.out; go_simp) ?_; clear HC) | (at_builtin; refine wpList_append_own_at _ rfl (.tmp 11) (.tmp 15) 33 rfl w.heap.size 88 i0 _ 2 32 Tryz.underlying33 hi0 hz0 hz1 hz2 rfl (by decide) (.slice none 0 0) 0 (fldC []) (by go_simp) (by have h9 := HO.out.alloc (.cells #[.string N, .string V] 88 (0, 0)); unfold OwnF at h9; exact h9) ⟨w.heap.size, 0, none⟩ 1 1 [.string N, .string V] (by go_simp) rfl (cells_new w _ _) (by simp [Value.oneCell']) (by unfold maxLen; omega) (by omega) (Nat.le_trans HB.out.size (below_new _ _).size) ?_; intro v' w9 hown hgr _ _; obtain ⟨q9, d9, rfl⟩ := own_slice hown; have HB9 := hid (app_belowL HB.out HO.out hgr); have HF9 := hid (show OwnF w9 w.heap.size (.slice q9 (0 + 1) d9) ([] ++ [(a, b)]) from OwnF.snocW (f := (a, b)) HL.out.symm HNN.out HVV.out hown); clear hown hgr))
  go_ret
  exact toldO_mk rfl HF9.out HB9.out
theorem daddO (fs : List (B × B)) (p : Option Addr) (n c : Nat) (hn : fs.length = n) (a b : B) (w : World) (hF : FAt w p fs) (hc0 : p = none → c = 0) (hnn : n + 1 ≤ 4398046511104) :
    Calls Tryz.prog 53 #[.slice p n c, .string (str a), .string (str b)] w fun e w' => ToldO w (fs ++ [(a, b)]) (n + 1) e w' := by
  cases p with
  | none => exact daddO_none fs n c hn a b w hF (hc0 rfl) hnn
  | some ad => exact daddO_some fs ad n c hn a b w hF hnn
set_option maxRecDepth 20000 in
set_option maxHeartbeats 4000000 in
theorem dviaO1 (fs : List (B × B)) (M : Int) (p : Option Addr) (n c : Nat) (hn : fs.length = n) (hc0 : p = none → c = 0) (w : World) (hF : FAt w p fs) (hnn : n ≤ 100000) (hM : M = 1) :
    Calls Tryz.prog 50 #[.slice p n c, .int .i64 M] w fun e w' => ToldO w (viaF fs M) (n + 1) e w' := by
  have HAd0 := hid (daddO fs p n c hn viaN [49, 46, 49, 32, 116, 117, 114, 110, 115, 116, 105, 108, 101] w hF hc0 (by omega))
  have HE := hid (show viaF fs M = fs ++ [(viaN, [49, 46, 49, 32, 116, 117, 114, 110, 115, 116, 105, 108, 101])] from by unfold viaF viaV; rw [if_pos hM])
  rw [HE.out]
  have HAd := hid (show Calls Tryz.prog 53 #[.slice p n c, .string (⟨#[86, 105, 97]⟩ : ByteArray), .string (⟨#[49, 46, 49, 32, 116, 117, 114, 110, 115, 116, 105, 108, 101]⟩ : ByteArray)] w _ from HAd0.out)
  subst hM
  clear hF hn HAd0 HE
  go_enter Tryz.func50, Tryz.ntmps50
  go_wp2_with (go_at_call 53; (with_reducible refine HAd.out.mono ?_); rintro e w9 ⟨q9, d9, rfl, hf, hb⟩; have HF9 := hid hf; have HB9 := hid hb; clear hb hf HAd)
  go_ret
  exact toldO_mk rfl HF9.out HB9.out
set_option maxRecDepth 20000 in
set_option maxHeartbeats 4000000 in
theorem dviaO0 (fs : List (B × B)) (M : Int) (p : Option Addr) (n c : Nat) (hn : fs.length = n) (hc0 : p = none → c = 0) (w : World) (hF : FAt w p fs) (hnn : n ≤ 100000) (hM : ¬ M = 1) :
    Calls Tryz.prog 50 #[.slice p n c, .int .i64 M] w fun e w' => ToldO w (viaF fs M) (n + 1) e w' := by
  have HAd0 := hid (daddO fs p n c hn viaN [49, 46, 48, 32, 116, 117, 114, 110, 115, 116, 105, 108, 101] w hF hc0 (by omega))
  have HE := hid (show viaF fs M = fs ++ [(viaN, [49, 46, 48, 32, 116, 117, 114, 110, 115, 116, 105, 108, 101])] from by unfold viaF viaV; rw [if_neg hM])
  rw [HE.out]
  have HAd := hid (show Calls Tryz.prog 53 #[.slice p n c, .string (⟨#[86, 105, 97]⟩ : ByteArray), .string (⟨#[49, 46, 48, 32, 116, 117, 114, 110, 115, 116, 105, 108, 101]⟩ : ByteArray)] w _ from HAd0.out)
  clear hF hn HAd0 HE
  go_enter Tryz.func50, Tryz.ntmps50
  go_wp2_with (go_at_call 53; (with_reducible refine HAd.out.mono ?_); rintro e w9 ⟨q9, d9, rfl, hf, hb⟩; have HF9 := hid hf; have HB9 := hid hb; clear hb hf HAd)
  go_ret
  exact toldO_mk rfl HF9.out HB9.out
theorem dviaO (fs : List (B × B)) (M : Int) (p : Option Addr) (n c : Nat) (hn : fs.length = n) (hc0 : p = none → c = 0) (w : World) (hF : FAt w p fs) (hnn : n ≤ 100000) :
    Calls Tryz.prog 50 #[.slice p n c, .int .i64 M] w fun e w' => ToldO w (viaF fs M) (n + 1) e w' := by
  by_cases h1 : M = 1
  · exact dviaO1 fs M p n c hn hc0 w hF hnn h1
  · exact dviaO0 fs M p n c hn hc0 w hF hnn h1
theorem bare_id (fs : List (B × B)) (k : Int) : bareF (onP1 fs k) = onP1 fs k := by
  unfold onP1 viaF
  have h0 : framF (stripF fs) 0 0 = bareF (stripF fs) := by unfold framF frmA; rw [if_neg (by decide), if_neg (by decide), List.append_nil]
  rw [h0]
  have h1 : ∀ (a b : List (B × B)), bareF (a ++ b) = bareF a ++ bareF b := fun a b => by unfold bareF delB; rw [List.filter_append, List.filter_append]
  have h2 : bareF (bareF (stripF fs)) = bareF (stripF fs) := by
    rw [bare_filter (bareF (stripF fs)), List.filter_eq_self]
    intro f hf
    rw [bare_filter] at hf
    exact (List.mem_filter.1 hf).2
  have h3 : bareF [(viaN, viaV k)] = [(viaN, viaV k)] := by
    rw [bare_filter, List.filter_eq_self]
    intro f hf
    simp at hf
    subst hf
    show (!inB viaN frmL) = true
    decide +kernel
  rw [h1, h2, h3]
theorem fram_id (fs : List (B × B)) (k L : Int) : framF (onP1 fs k) 0 L = onP1 fs k := by
  unfold framF frmA
  rw [if_neg (by decide), if_neg (by decide), List.append_nil, bare_id]
theorem onP1_ne (fs : List (B × B)) (k : Int) : onP1 fs k ≠ [] := by unfold onP1 viaF; simp
theorem onP2_ne (st K L : Int) (fs : List (B × B)) (k : Int) : onP2 st K L fs k ≠ [] := by
  have h1 := onP1_ne fs k
  unfold onP2
  split
  · exact h1
  · split
    · split
      · simp
      · exact h1
    · unfold framF
      rw [bare_id]
      intro e
      exact h1 (List.append_eq_nil_iff.1 e).1
theorem onP_ne (st K L : Int) (lst : Bool) (fs : List (B × B)) (k : Int) : onP st K L lst fs k ≠ [] := by
  have h1 := onP2_ne st K L fs k
  unfold onP
  split
  · simp
  · exact h1
theorem fat_apart1 {W : World} {b o g : Nat} {F : List (B × B)} {x0 x1 x2 x3 : Value} {T : TypeId} (h : FAt W (some ⟨b, o, none⟩) F) (hF : F ≠ []) (hg : W.heap[g]? = some (.cells #[x0, x1, x2, x3] T (0, 0))) (h0 : ∀ s, x0 ≠ .string s) (h2 : ∀ s, x2 ≠ .string s) (h3 : ∀ s, x3 ≠ .string s) : b ≠ g := by
  intro e
  subst e
  obtain ⟨f, r, rfl⟩ : ∃ f r, F = f :: r := by
    cases F with
    | nil => exact absurd rfl hF
    | cons f r => exact ⟨f, r, rfl⟩
  obtain ⟨b1, o1, e1, c0, c1⟩ := h 0 f rfl
  injection e1 with e1; injection e1 with e3 e4
  subst e3 e4
  have hc := cells4O hg
  rcases o with _ | _ | _ | _ | o
  · have h9 : W.cell? ⟨b, 0, none⟩ = some (.string (str f.1)) := c0
    rw [hc.a0] at h9
    exact h0 _ (Option.some.inj h9)
  · have h9 : W.cell? ⟨b, 2, none⟩ = some (.string (str f.2)) := c1
    rw [hc.a2] at h9
    exact h2 _ (Option.some.inj h9)
  · have h9 : W.cell? ⟨b, 2, none⟩ = some (.string (str f.1)) := c0
    rw [hc.a2] at h9
    exact h2 _ (Option.some.inj h9)
  · have h9 : W.cell? ⟨b, 3, none⟩ = some (.string (str f.1)) := c0
    rw [hc.a3] at h9
    exact h3 _ (Option.some.inj h9)
  · have h9 : W.cell? ⟨b, o + 4, none⟩ = some (.string (str f.1)) := c0
    simp [World.cell?, hg] at h9
theorem fat_set1 {W : World} {q : Option Addr} {F : List (B × B)} {g : Nat} {x0 x1 x2 x3 : Value} {T : TypeId} (h : FAt W q F) (hF : F ≠ []) (hg : W.heap[g]? = some (.cells #[x0, x1, x2, x3] T (0, 0))) (h0 : ∀ s, x0 ≠ .string s) (h2 : ∀ s, x2 ≠ .string s) (h3 : ∀ s, x3 ≠ .string s) (c0 c1 c2 c3 : Value) : FAt ((((W.setCell ⟨g, 0, none⟩ c0).setCell ⟨g, 1, none⟩ c1).setCell ⟨g, 2, none⟩ c2).setCell ⟨g, 3, none⟩ c3) q F := by
  intro j f hj
  obtain ⟨b, o, rfl, e0, e1⟩ := h j f hj
  have hne := fat_apart1 h hF hg h0 h2 h3
  exact ⟨b, o, rfl, by rw [keep4O hne]; exact e0, by rw [keep4O hne]; exact e1⟩
theorem own_baseO {W : World} {b n d : Nat} {q : Option Addr} {fs : List (B × B)} (h : OwnF W b (.slice q (n + 1) d) fs) : b < W.heap.size := by
  rcases h.2 with ⟨h1, _⟩ | ⟨g, cap, cur, h1, h2, h3, _⟩
  · cases h1
  · exact Nat.lt_of_le_of_lt h2 (lt_of_heap h3)
theorem rpo_grow {w W W' : World} {A F : Array Value} {b : Nat} (h : RpO w W A F) (hb : Below b W W') (hz : w.heap.size + 3 ≤ b) : RpO w W' A F :=
  ⟨h.low.trans (hb.mono (by omega)), (hb.block _ (by omega)).trans h.bx, (hb.block _ (by omega)).trans h.fb, (hb.block _ (by omega)).trans h.rz⟩
structure RpD (w W : World) (A : Array Value) (q : Option Addr) (g9 : Nat) (F : List (B × B)) : Prop where
  low : Below w.heap.size w W
  rz : W.heap[w.heap.size + 2]? = some (.cells #[.int .i64 0, .string ⟨#[]⟩, .int .i64 0, .slice none 0 0] 62 (0, 0))
  nw : W.heap[g9]? = some (.cells A 62 (0, 0))
  row : FAt W q F
theorem RpD.next {w W W' : World} {A : Array Value} {q : Option Addr} {g9 : Nat} {F : List (B × B)} (h : RpD w W A q g9 F) (hb : Below W.heap.size W W') : RpD w W' A q g9 F := ⟨below_out h.low hb, (hb.block _ (lt_of_heap h.rz)).trans h.rz, (hb.block _ (lt_of_heap h.nw)).trans h.nw, h.row.next hb⟩
/-- What the document's Response answers. -/
def DPAns (st : Int) (r : B) (mi : Int) (F : List (B × B)) (w : World) (e : Ending) (w' : World) : Prop :=
  (greatE F.length (respE st r mi F) ≠ 0 ∧ e = .returned (.tuple #[.agg #[.int .i64 0, .string ⟨#[]⟩, .int .i64 0, .slice none 0 0], .int .i64 (greatE F.length (respE st r mi F) : Int)]) ∧ Below w.heap.size w w') ∨
  (greatE F.length (respE st r mi F) = 0 ∧ ∃ q d, e = .returned (.tuple #[.agg #[.int .i64 st, .string (str r), .int .i64 mi, .slice q F.length d], .int .i64 0]) ∧ FAt w' q F ∧ Below w.heap.size w w')
theorem dpans_no {st : Int} {r : B} {mi : Int} {F : List (B × B)} {w w' : World} {e : Ending} (h : greatE F.length (respE st r mi F) ≠ 0) (he : e = .returned (.tuple #[.agg #[.int .i64 0, .string ⟨#[]⟩, .int .i64 0, .slice none 0 0], .int .i64 (greatE F.length (respE st r mi F) : Int)])) (hb : Below w.heap.size w w') : DPAns st r mi F w e w' := .inl ⟨h, he, hb⟩
theorem dpans_yes {st : Int} {r : B} {mi : Int} {F : List (B × B)} {w w' : World} {e : Ending} {q : Option Addr} {d : Nat} (h : greatE F.length (respE st r mi F) = 0) (he : e = .returned (.tuple #[.agg #[.int .i64 st, .string (str r), .int .i64 mi, .slice q F.length d], .int .i64 0])) (hf : FAt w' q F) (hb : Below w.heap.size w w') : DPAns st r mi F w e w' := .inr ⟨h, q, d, he, hf, hb⟩
end Go.Proofs.YtnlmjlfoeodleaaGreatDoor
