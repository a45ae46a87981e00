/- The law of HP5: nothing of one hop goes further, everything else does, in its order. -/
import Derived.Test.YtnlmjlfoeodleaaDoorOLEndP
import Derived.Test.YtnlmjlfoeodleaaDoorOWork
namespace Go.Proofs.YtnlmjlfoeodleaaDoor
open Go.RowKit

set_option maxRecDepth 20000 in
set_option maxHeartbeats 8000000 in
theorem lis (nm : B) (ns : List B) (p : Option Addr) (n c : Nat) (hn : ns.length = n) (w : World) (hL : StrAt w p ns) (hnm : nm.length ≤ 140737488351232) (hz : ∀ y ∈ ns, y.length ≤ 140737488351232) (hnn : n ≤ 140737488351232) :
    Calls Tryd.prog 20 #[.string (str nm), .slice p n c] w fun e w' => e = .returned (.bool (inB nm ns)) ∧ Below w.heap.size w w' := by
  have HL := hid hL
  have HN := hid hn
  have HZ := hid hz
  obtain ⟨R, hR⟩ : ∃ R, inB nm ns = R := ⟨_, rfl⟩
  rw [hR]
  have HR := hid hR
  clear hL hn hz hR
  go_enter Tryd.func20, Tryd.ntmps20
  go_wp2
  go_loopg [5] (n + 1) (fun gk s5 wr => ∃ i : Nat, s5 = .int .i64 (i : Int) ∧ i ≤ n ∧ gk = n - i + 1 ∧ inB nm (ns.take i) = false ∧ Below w.heap.size w wr)
  case atStart => exact ⟨0, rfl, by omega, rfl, rfl, Below.refl _ _⟩
  case round =>
    obtain ⟨i, rfl, hin, rfl, hno, hb⟩ := hrel
    rename World => wr
    have HB := hid hb
    have HO := hid hno
    clear hb hno
    by_cases hlt : i < n
    · obtain ⟨y, hy⟩ : ∃ y, ns[i]? = some y := ⟨ns[i]'(by rw [HN.out]; exact hlt), List.getElem?_eq_getElem (by rw [HN.out]; exact hlt)⟩
      obtain ⟨g, o, hp, c0⟩ := (HL.out.next HB.out) i y hy
      subst hp
      have hltI : (i : Int) < (n : Int) := by omega
      have z1 := HZ.out y (List.mem_of_getElem? hy)
      have HSm := hid (show ∀ W : World, _ from fun W => rsame_any (str nm) (str y) W (by rw [str_size]; exact hnm) (by rw [str_size]; exact z1))
      have HTk := hid (show inB nm (ns.take (i + 1)) = (inB nm (ns.take i) || sameB (str nm) (str y)) from by unfold inB; rw [List.take_add_one, hy, List.any_append]; simp)
      have HIn := hid (fun (h : sameB (str nm) (str y) = true) => show R = true from by rw [← HR.out]; exact List.any_eq_true.2 ⟨y, List.mem_of_getElem? hy, h⟩)
      obtain ⟨S, hS⟩ : ∃ S, sameB (str nm) (str y) = S := ⟨_, rfl⟩
      rw [hS] at HSm HTk HIn
      obtain ⟨Y, hY⟩ : ∃ Y, str y = Y := ⟨_, rfl⟩
      rw [hY] at c0 HSm
      clear hy hS hY z1
      cases S with
      | true =>
        have HT := hid (HIn.out rfl)
        go_wp2_with (go_at_call 19; (with_reducible refine (HSm.out _).mono ?_); rintro e w2 ⟨rfl, hb⟩; have HB2 := hid (below_out HB.out hb); clear hb HSm)
        (try simp only [Exit.inBlock, Exit.then])
        go_ret
        exact ⟨(by rw [HT.out]; rfl), HB2.out⟩
      | false =>
        have HT := hid (show inB nm (ns.take (i + 1)) = false from by rw [HTk.out, HO.out]; rfl)
        go_wp2_with (go_at_call 19; (with_reducible refine (HSm.out _).mono ?_); rintro e w2 ⟨rfl, hb⟩; have HB2 := hid (below_out HB.out hb); clear hb HSm)
        go_roundg (n - (i + 1) + 1)
        case measure => omega
        case rel => exact ⟨i + 1, by go_num, by omega, rfl, HT.out, HB2.out⟩
    · obtain rfl : i = n := by omega
      have hltI : ¬ (i : Int) < (i : Int) := by omega
      have HT := hid (show R = false from by
        rw [← HR.out]
        have h9 := HO.out
        rw [List.take_of_length_le (by rw [HN.out]; exact Nat.le_refl _)] at h9
        exact h9)
      clear hlt
      go_wp2
      go_ret
      exact ⟨(by rw [HT.out]; rfl), HB.out⟩
theorem str10 (w : World) : StrAt (w.alloc (.cells #[.string ⟨#[67, 111, 110, 110, 101, 99, 116, 105, 111, 110]⟩, .string ⟨#[75, 101, 101, 112, 45, 65, 108, 105, 118, 101]⟩, .string ⟨#[80, 114, 111, 120, 121, 45, 67, 111, 110, 110, 101, 99, 116, 105, 111, 110]⟩, .string ⟨#[80, 114, 111, 120, 121, 45, 65, 117, 116, 104, 101, 110, 116, 105, 99, 97, 116, 101]⟩, .string ⟨#[80, 114, 111, 120, 121, 45, 65, 117, 116, 104, 111, 114, 105, 122, 97, 116, 105, 111, 110]⟩, .string ⟨#[84, 69]⟩, .string ⟨#[84, 114, 97, 105, 108, 101, 114]⟩, .string ⟨#[84, 114, 97, 110, 115, 102, 101, 114, 45, 69, 110, 99, 111, 100, 105, 110, 103]⟩, .string ⟨#[85, 112, 103, 114, 97, 100, 101]⟩, .string ⟨#[69, 120, 112, 101, 99, 116]⟩] 9 (0, 0))) (some ⟨w.heap.size, 0, none⟩) hop10 := by
  intro j y hj
  refine ⟨w.heap.size, 0, rfl, ?_⟩
  rw [World.cell?_alloc_new, Nat.zero_add]
  unfold hop10 alwaysL expB at hj
  rcases j with _ | _ | _ | _ | _ | _ | _ | _ | _ | _ | j <;> simp at hj <;> (subst hj; rfl)
theorem strCX (w : World) : StrAt (w.alloc (.cells #[.string (⟨#[67, 111, 110, 116, 101, 110, 116, 45, 76, 101, 110, 103, 116, 104]⟩ : ByteArray), .string (⟨#[88, 45, 70, 111, 114, 119, 97, 114, 100, 101, 100, 45, 70, 111, 114]⟩ : ByteArray)] 9 (0, 0))) (some ⟨w.heap.size, 0, none⟩) [clB, xfB] := by
  intro j y hj
  refine ⟨w.heap.size, 0, rfl, ?_⟩
  rw [World.cell?_alloc_new, Nat.zero_add]
  unfold clB xfB at hj
  rcases j with _ | _ | j <;> simp at hj <;> (subst hj; rfl)
/-- What the law carries along. -/
structure LEd (w W : World) (A : Array Value) (gO : Nat) (O : Array Value) (g : Nat) (F : List (B × B)) (gh : Nat) (qn : Option Addr) (NS : List B) : Prop where
  low : Below w.heap.size w W
  bx : W.heap[w.heap.size]? = some (.cells A 35 (0, 0))
  ob : W.heap[gO]? = some (.cells O 35 (0, 0))
  row : BlkF W g F
  hp : StrAt W (some ⟨gh, 0, none⟩) hop10
  nm : StrAt W qn NS
theorem LEd.next {w W W' : World} {A : Array Value} {gO : Nat} {O : Array Value} {g : Nat} {F : List (B × B)} {gh : Nat} {qn : Option Addr} {NS : List B} (h : LEd w W A gO O g F gh qn NS) (hb : Below W.heap.size W W') : LEd w W' A gO O g F gh qn NS :=
  ⟨below_out h.low hb, (hb.block _ (lt_of_heap h.bx)).trans h.bx, (hb.block _ (lt_of_heap h.ob)).trans h.ob, h.row.next hb, h.hp.next hb, h.nm.next hb⟩
theorem onQ_few (m : B) (fs : List (B × B)) (cl : B) (k L : Int) (h : fs.length ≤ 900) : (onQ m fs cl k L).length ≤ 1000 := by
  have h1 := onQ1_len fs
  have h2 := fwdF_len (onQ1 fs) cl
  have h3 : (onQ2 fs cl k).length = (fwdF (onQ1 fs) cl).length + 1 := by
    unfold onQ2 viaF
    rw [List.length_append]
    rfl
  unfold onQ
  split
  · rw [List.length_append, h3]
    simp only [List.length_cons, List.length_nil]
    omega
  · omega
structure LE0 (w W : World) (A : Array Value) (gO : Nat) (O : Array Value) (g : Nat) (F : List (B × B)) (gh : Nat) : Prop where
  low : Below w.heap.size w W
  bx : W.heap[w.heap.size]? = some (.cells A 35 (0, 0))
  ob : W.heap[gO]? = some (.cells O 35 (0, 0))
  row : BlkF W g F
  hp : StrAt W (some ⟨gh, 0, none⟩) hop10
theorem LE0.led {w W W' : World} {A : Array Value} {gO : Nat} {O : Array Value} {g : Nat} {F : List (B × B)} {gh : Nat} {qn : Option Addr} {NS : List B} (h : LE0 w W A gO O g F gh) (hb : Below W.heap.size W W') (hn : StrAt W' qn NS) : LEd w W' A gO O g F gh qn NS :=
  ⟨below_out h.low hb, (hb.block _ (lt_of_heap h.bx)).trans h.bx, (hb.block _ (lt_of_heap h.ob)).trans h.ob, h.row.next hb, h.hp.next hb, hn⟩
theorem LE0.start {w w0 w1 : World} {A O : Array Value} {g : Nat} {F : List (B × B)} (hl : Below w.heap.size w w0) (hx : w0.heap[w.heap.size]? = some (.cells A 35 (0, 0))) (hb : Below w0.heap.size w0 w1) (hr : BlkF w1 g F) : LE0 w ((w1.alloc (.cells O 35 (0, 0))).alloc (.cells #[.string ⟨#[67, 111, 110, 110, 101, 99, 116, 105, 111, 110]⟩, .string ⟨#[75, 101, 101, 112, 45, 65, 108, 105, 118, 101]⟩, .string ⟨#[80, 114, 111, 120, 121, 45, 67, 111, 110, 110, 101, 99, 116, 105, 111, 110]⟩, .string ⟨#[80, 114, 111, 120, 121, 45, 65, 117, 116, 104, 101, 110, 116, 105, 99, 97, 116, 101]⟩, .string ⟨#[80, 114, 111, 120, 121, 45, 65, 117, 116, 104, 111, 114, 105, 122, 97, 116, 105, 111, 110]⟩, .string ⟨#[84, 69]⟩, .string ⟨#[84, 114, 97, 105, 108, 101, 114]⟩, .string ⟨#[84, 114, 97, 110, 115, 102, 101, 114, 45, 69, 110, 99, 111, 100, 105, 110, 103]⟩, .string ⟨#[85, 112, 103, 114, 97, 100, 101]⟩, .string ⟨#[69, 120, 112, 101, 99, 116]⟩] 9 (0, 0))) A w1.heap.size O g F (w1.heap.size + 1) := by
  have h1 := below_new w1 (.cells O 35 (0, 0))
  have h2 := below_new (w1.alloc (.cells O 35 (0, 0))) (.cells #[.string ⟨#[67, 111, 110, 110, 101, 99, 116, 105, 111, 110]⟩, .string ⟨#[75, 101, 101, 112, 45, 65, 108, 105, 118, 101]⟩, .string ⟨#[80, 114, 111, 120, 121, 45, 67, 111, 110, 110, 101, 99, 116, 105, 111, 110]⟩, .string ⟨#[80, 114, 111, 120, 121, 45, 65, 117, 116, 104, 101, 110, 116, 105, 99, 97, 116, 101]⟩, .string ⟨#[80, 114, 111, 120, 121, 45, 65, 117, 116, 104, 111, 114, 105, 122, 97, 116, 105, 111, 110]⟩, .string ⟨#[84, 69]⟩, .string ⟨#[84, 114, 97, 105, 108, 101, 114]⟩, .string ⟨#[84, 114, 97, 110, 115, 102, 101, 114, 45, 69, 110, 99, 111, 100, 105, 110, 103]⟩, .string ⟨#[85, 112, 103, 114, 97, 100, 101]⟩, .string ⟨#[69, 120, 112, 101, 99, 116]⟩] 9 (0, 0))
  have hz : (w1.alloc (.cells O 35 (0, 0))).heap.size = w1.heap.size + 1 := by simp
  have hs := str10 (w1.alloc (.cells O 35 (0, 0)))
  rw [hz] at hs
  refine ⟨below_out (below_out (below_out hl hb) h1) h2, ?_, (h2.block _ (by omega)).trans (heap_alloc_new w1 _), (hr.next h1).next h2, hs⟩
  have e1 := (hb.block _ (lt_of_heap hx)).trans hx
  have e2 := (h1.block _ (lt_of_heap e1)).trans e1
  exact (h2.block _ (lt_of_heap e2)).trans e2
structure RdEd (U : World) (gO b g a gq oq : Nat) (vo vq : Value) (N V X Y : ByteArray) : Prop where
  o3 : U.cell? ⟨gO, 3, none⟩ = some vo
  b3 : U.cell? ⟨b, 3, none⟩ = some vq
  f0 : U.cell? ⟨g, a, none⟩ = some (.string N)
  f1 : U.cell? ⟨g, a + 1, none⟩ = some (.string V)
  q0 : U.cell? ⟨gq, oq, none⟩ = some (.string X)
  q1 : U.cell? ⟨gq, oq + 1, none⟩ = some (.string Y)
theorem rsame_b (a b : B) (w : World) (ha : a.length ≤ 4194304) (hb : b.length ≤ 4194304) : Calls Tryd.prog 19 #[.string (str a), .string (str b)] w fun e w' => e = .returned (.bool (sameB (str a) (str b))) ∧ Below w.heap.size w w' := rsame_any (str a) (str b) w (by rw [str_size]; omega) (by rw [str_size]; omega)
theorem cnt_yes {fs : List (B × B)} {P : B × B → Bool} {i m : Nat} {f : B × B} (hf : fs[i]? = some f) (h : P f = true) (hm : m = ((fs.take i).filter P).length) : m + 1 = ((fs.take (i + 1)).filter P).length := by
  rw [filt_yes hf h, List.length_append, ← hm]
  rfl
theorem cnt_no {fs : List (B × B)} {P : B × B → Bool} {i m : Nat} {f : B × B} (hf : fs[i]? = some f) (h : P f = false) (hm : m = ((fs.take i).filter P).length) : m = ((fs.take (i + 1)).filter P).length := by
  rw [filt_no hf h]
  exact hm
set_option maxRecDepth 20000 in
set_option maxHeartbeats 4000000 in
theorem hends_few (m t : ByteArray) (k L : Int) (p : Option Addr) (n c : Nat) (w : World) (hE : EnvP w) (hmx : ∃ m : Int, w.cell? ⟨1, 0, none⟩ = some (.int .i64 m)) (hnn : 500 < n) :
    Calls Tryd.prog 4 #[.agg #[.string m, .string t, .int .i64 k, .slice p n c], .int .i64 L] w fun e w' => e = .returned (.bool true) ∧ Below w.heap.size w w' := by
  have hb0 := below_new w (.cells #[.string m, .string t, .int .i64 k, .slice p n c] 35 (0, 0))
  have HB0 := hid hb0
  have HWk := hid (works14 _ (hE.next hb0) (hmx.elim fun m h => ⟨m, cell_keep hb0 h⟩))
  have h5 : (n : Int) > 500 := by omega
  clear hb0 hE hmx
  go_enter Tryd.func4, Tryd.ntmps4
  go_wp2_with (go_at_call 5; (with_reducible refine HWk.out.mono ?_); rintro e w1 ⟨rfl, hb⟩; have HB1 := hid (below_out HB0.out hb); clear hb HWk)
  go_ret
  exact ⟨rfl, HB1.out⟩
set_option maxRecDepth 20000 in
set_option maxHeartbeats 32000000 in
theorem hends (m t : B) (k L : Int) (fs : List (B × B)) (p : Option Addr) (n c : Nat) (hn : fs.length = n) (w : World) (hF : FAt w p fs) (hsz : szN fs) (hm : m.length ≤ 1048576) (ht : t.length ≤ 1048576) (hL0 : -9223372036854775808 ≤ L) (hL1 : L ≤ 9223372036854775807) (hE : EnvP w) (hmx : ∃ m : Int, w.cell? ⟨1, 0, none⟩ = some (.int .i64 m)) (hnn : n ≤ 500) :
    Calls Tryd.prog 4 #[.agg #[.string (str m), .string (str t), .int .i64 k, .slice p n c], .int .i64 L] w fun e w' => e = .returned (.bool true) ∧ Below w.heap.size w w' := by
  have HMx := hid (fun (W : World) (hb : Below w.heap.size w W) => show ∃ m : Int, W.cell? ⟨1, 0, none⟩ = some (.int .i64 m) from hmx.elim fun m h => ⟨m, cell_keep hb h⟩)
  have HRq0 := hid (fun (W : World) (hb : Below w.heap.size w W) => preq m t k fs p n c hn [99, 108, 105, 101, 110, 116] L W (hF.next hb) hsz (by omega) hm ht (by decide) hL0 hL1 (hE.next hb) (HMx.out W hb))
  have HRq1 := hid (show ∀ W : World, Below w.heap.size w W → Calls Tryd.prog 18 #[.agg #[.string (str m), .string (str t), .int .i64 k, .slice p n c], .string (⟨#[99, 108, 105, 101, 110, 116]⟩ : ByteArray), .int .i64 L] W _ from HRq0.out)
  have HNm := hid (fun (W : World) (hb : Below w.heap.size w W) => pNamed fs p n c hn W (hF.next hb) hsz (by omega) (HMx.out W hb))
  have HS1 := hid (fun (W : World) (hb : Below w.heap.size w W) => pstrip fs p n c hn W (hF.next hb) hsz (by omega) (HMx.out W hb))
  have hzs : szN (stripF fs) := fun f hf => hsz f (List.mem_filter.1 hf).1
  have hls := stripF_le fs
  have HS2 := hid (fun (W : World) (q : Option Addr) (s d : Nat) (hb : Below w.heap.size w W) (hs : (stripF fs).length = s) (h : FAt W q (stripF fs)) => pstrip (stripF fs) q s d hs W h hzs (by omega) (HMx.out W hb))
  rw [strip_strip] at HS2
  have HSm := hid (fun (W : World) (X : List (B × B)) (p p' : Option Addr) (s c c' : Nat) (hs : X.length = s) (h : FAt W p X) (h' : FAt W p' X) (hz : s ≤ 1000) => fields14 X p p' s c c' hs W h h' (Nat.le_trans hz (by decide)))
  have HWk := hid (fun (W : World) (hb : Below w.heap.size w W) => works14 W (hE.next hb) (HMx.out W hb))
  have HF0 := hid hF
  have HNn := hid hn
  have HSz := hid hsz
  have hFz : szC 4194304 (onQ m fs [99, 108, 105, 101, 110, 116] k L) := onQ_sz hsz (by decide) hL0 hL1
  have HOk := hid (fun (f : B × B) (h : f ∈ onQ m fs [99, 108, 105, 101, 110, 116] k L) (hc : sameB (str f.1) (str clB) = false) => onQ_ok h hc)
  have hcn := onQ_count m fs [99, 108, 105, 101, 110, 116] k L
  have hks := keep_sub m fs [99, 108, 105, 101, 110, 116] k L
  have hlF : (onQ m fs [99, 108, 105, 101, 110, 116] k L).length ≤ 1000 := onQ_few m fs [99, 108, 105, 101, 110, 116] k L (by omega)
  have hnz := namF_small fs [] hsz (fun y hy => by cases hy)
  obtain ⟨NS, hNS⟩ : ∃ X, namF [] fs = X := ⟨_, rfl⟩
  have hnl : NS.length ≤ 2000000000 := by rw [← hNS]; exact namF_most fs hsz (by omega)
  rw [hNS] at HNm HOk hks hnz
  obtain ⟨nk, hnk⟩ : ∃ k, NS.length = k := ⟨_, rfl⟩
  rw [hnk] at hnl
  have HNk := hid hnk
  have HNz := hid (fun (y : B) (h : y ∈ NS) => show y.length ≤ 140737488351232 from Nat.le_trans (hnz y h) (by decide))
  obtain ⟨XS, hXS⟩ : ∃ X, stripF fs = X := ⟨_, rfl⟩
  have HlS := hid (show XS.length ≤ 1000 from by rw [← hXS]; omega)
  rw [hXS] at HS1 HS2
  obtain ⟨F, hFF⟩ : ∃ F, onQ m fs [99, 108, 105, 101, 110, 116] k L = F := ⟨_, rfl⟩
  rw [hFF] at HRq1 HOk hcn hks hlF hFz
  have HFz := hid hFz
  have HCn := hid hcn
  have HKs := hid hks
  obtain ⟨s, hs⟩ : ∃ s, F.length = s := ⟨_, rfl⟩
  rw [hs] at hlF
  have HLs := hid hs
  unfold QAns at HRq1
  obtain ⟨M, hM⟩ : ∃ M, str m = M := ⟨_, rfl⟩
  obtain ⟨T, hT⟩ : ∃ T, str t = T := ⟨_, rfl⟩
  rw [hM, hT] at HRq1
  rw [hM, hT]
  have HR0 := hid (heap_alloc_new w (.cells #[.string M, .string T, .int .i64 k, .slice p n c] 35 (0, 0)))
  have HB0 := hid (below_new w (.cells #[.string M, .string T, .int .i64 k, .slice p n c] 35 (0, 0)))
  have h5 : ¬ (n : Int) > 500 := by omega
  by_cases hge : greatE F.length (reqE m t 1 F) = 0
  · have HRq := hid (fun (W : World) (hb : Below w.heap.size w W) => (HRq1.out W hb).mono (R' := fun e w' => ∃ g, e = .returned (.tuple #[.agg #[.string M, .string T, .int .i64 1, .slice (some ⟨g, 0, none⟩) s s], .nilIface]) ∧ W.heap.size ≤ g ∧ BlkF w' g F ∧ Below W.heap.size W w') (by
      rintro e w' (⟨h1, _⟩ | ⟨_, g, h2, h3⟩)
      · exact absurd hge h1
      · rw [HLs.out] at h2
        exact ⟨g, h2, h3⟩))
    clear hF hsz hn hmx hE hm ht hL0 hL1 hNS hnk hXS hFF hs hM hT hzs hls hFz hcn hks hnz HMx HRq0 HRq1 hge
    go_enter Tryd.func4, Tryd.ntmps4
    obtain ⟨y0, y1, y2, y3, _⟩ := cells4O HR0.out
    go_wp2_with (first | (go_at_call 18; (with_reducible refine (HRq.out _ HB0.out).mono ?_); rintro e w1 ⟨g, rfl, hg, hbk, hb⟩; have hn1 := below_new w1 (.cells #[.string M, .string T, .int .i64 1, .slice (some ⟨g, 0, none⟩) s s] 35 (0, 0)); have hn2 := below_new (w1.alloc (.cells #[.string M, .string T, .int .i64 1, .slice (some ⟨g, 0, none⟩) s s] 35 (0, 0))) (.cells #[.string ⟨#[67, 111, 110, 110, 101, 99, 116, 105, 111, 110]⟩, .string ⟨#[75, 101, 101, 112, 45, 65, 108, 105, 118, 101]⟩, .string ⟨#[80, 114, 111, 120, 121, 45, 67, 111, 110, 110, 101, 99, 116, 105, 111, 110]⟩, .string ⟨#[80, 114, 111, 120, 121, 45, 65, 117, 116, 104, 101, 110, 116, 105, 99, 97, 116, 101]⟩, .string ⟨#[80, 114, 111, 120, 121, 45, 65, 117, 116, 104, 111, 114, 105, 122, 97, 116, 105, 111, 110]⟩, .string ⟨#[84, 69]⟩, .string ⟨#[84, 114, 97, 105, 108, 101, 114]⟩, .string ⟨#[84, 114, 97, 110, 115, 102, 101, 114, 45, 69, 110, 99, 111, 100, 105, 110, 103]⟩, .string ⟨#[85, 112, 103, 114, 97, 100, 101]⟩, .string ⟨#[69, 120, 112, 101, 99, 116]⟩] 9 (0, 0)); have HQ1 := hid (show LE0 w ((w1.alloc (.cells #[.string M, .string T, .int .i64 1, .slice (some ⟨g, 0, none⟩) s s] 35 (0, 0))).alloc (.cells #[.string ⟨#[67, 111, 110, 110, 101, 99, 116, 105, 111, 110]⟩, .string ⟨#[75, 101, 101, 112, 45, 65, 108, 105, 118, 101]⟩, .string ⟨#[80, 114, 111, 120, 121, 45, 67, 111, 110, 110, 101, 99, 116, 105, 111, 110]⟩, .string ⟨#[80, 114, 111, 120, 121, 45, 65, 117, 116, 104, 101, 110, 116, 105, 99, 97, 116, 101]⟩, .string ⟨#[80, 114, 111, 120, 121, 45, 65, 117, 116, 104, 111, 114, 105, 122, 97, 116, 105, 111, 110]⟩, .string ⟨#[84, 69]⟩, .string ⟨#[84, 114, 97, 105, 108, 101, 114]⟩, .string ⟨#[84, 114, 97, 110, 115, 102, 101, 114, 45, 69, 110, 99, 111, 100, 105, 110, 103]⟩, .string ⟨#[85, 112, 103, 114, 97, 100, 101]⟩, .string ⟨#[69, 120, 112, 101, 99, 116]⟩] 9 (0, 0))) #[.string M, .string T, .int .i64 k, .slice p n c] w1.heap.size #[.string M, .string T, .int .i64 1, .slice (some ⟨g, 0, none⟩) s s] g F (w1.heap.size + 1) from LE0.start HB0.out HR0.out hb hbk); obtain ⟨x0, x1, x2, x3, _⟩ := cells4O HQ1.out.bx; clear hb hbk hn1 hn2 hg HRq y0 y1 y2 y3) | (go_at_call 7; (with_reducible refine (HNm.out _ HQ1.out.low).mono ?_); rintro e w2 ⟨v2, rfl, ho, hb⟩; obtain ⟨qn, dn, rfl⟩ : ∃ q d, v2 = .slice q nk d := (by have h9 := own_slice ho; rw [HNk.out] at h9; exact h9); have HQ2 := hid (HQ1.out.led hb (OwnS.strAt ho)); clear hb ho HNm x0 x1 x2 x3 HQ1))
    obtain ⟨gO, hgO⟩ : ∃ gO, w1.heap.size = gO := ⟨_, rfl⟩
    rw [hgO] at HQ2 ⊢
    obtain ⟨gh, hgh⟩ : ∃ gh, gO + 1 = gh := ⟨_, rfl⟩
    rw [hgh] at HQ2 ⊢
    clear hgO hgh HB0 HR0
    go_loopg [9, 10] (s + 1) (fun gk s9 s10 wr => ∃ (i c9 : Nat), s9 = .int .i64 (c9 : Int) ∧ s10 = .int .i64 (i : Int) ∧ i ≤ s ∧ gk = s - i + 1 ∧ c9 = ((F.take i).filter (isF (str clB))).length ∧ LEd w wr #[.string M, .string T, .int .i64 k, .slice p n c] gO #[.string M, .string T, .int .i64 1, .slice (some ⟨g, 0, none⟩) s s] g F gh qn NS)
    case atStart => exact ⟨0, 0, rfl, rfl, by omega, rfl, rfl, HQ2.out⟩
    case round =>
      obtain ⟨i, c9, rfl, rfl, hin, rfl, hc9, hq⟩ := hrel
      rename World => wr
      have hcb : c9 ≤ i := by rw [hc9]; exact filt_le i
      have HQ_wr := hid hq
      have HC9 := hid hc9
      clear hq hc9 HQ2
      obtain ⟨x0, x1, x2, x3, _⟩ := cells4O HQ_wr.out.ob
      by_cases hlt : i < s
      · obtain ⟨f, hf⟩ : ∃ f, F[i]? = some f := ⟨F[i]'(by rw [HLs.out]; exact hlt), List.getElem?_eq_getElem (by rw [HLs.out]; exact hlt)⟩
        obtain ⟨gg, oo, hp, c0, c1⟩ := HQ_wr.out.row.fat i f hf
        obtain ⟨rfl, rfl⟩ : g = gg ∧ 0 = oo := by injection hp with hp; injection hp with h1 h2; exact ⟨h1, h2⟩
        rw [Nat.zero_add] at c0 c1
        have hltI : (i : Int) < (s : Int) := by omega
        have hwi : IntKind.i64.wrap ((c9 : Int) + 1) = (c9 : Int) + 1 := by rw [IntKind.wrap_i64]; omega
        obtain ⟨z1, z2⟩ := HFz.out f (List.mem_of_getElem? hf)
        have HA1 := hid (show ∀ W : World, _ from fun W => rsame_b f.1 clB W z1 (by decide))
        have HA2 := hid (show ∀ W : World, _ from fun W => rsame_b f.1 viaN W z1 (by decide))
        have HA3 := hid (show ∀ W : World, _ from fun W => rsame_b f.1 xfB W z1 (by decide))
        have HA4 := hid (show ∀ W : World, _ from fun W => rsame_b f.1 hostU W z1 (by decide))
        have HA5 := hid (show ∀ W : World, StrAt W (some ⟨gh, 0, none⟩) hop10 → _ from fun W h => lis f.1 hop10 (some ⟨gh, 0, none⟩) 10 10 rfl W h (by omega) (by decide) (by decide))
        have HA6 := hid (show ∀ W : World, StrAt W qn NS → _ from fun W h => lis f.1 NS qn nk dn HNk.out W h (by omega) HNz.out (by omega))
        have HYy := hid (fun (h : sameB (str f.1) (str clB) = true) => cnt_yes (P := isF (str clB)) hf h HC9.out)
        have HYn := hid (fun (h : sameB (str f.1) (str clB) = false) => cnt_no (P := isF (str clB)) hf h HC9.out)
        have hok := HOk.out f (List.mem_of_getElem? hf)
        unfold ownN at hok
        obtain ⟨R1, h1⟩ : ∃ R, sameB (str f.1) (str clB) = R := ⟨_, rfl⟩
        obtain ⟨R2, h2⟩ : ∃ R, sameB (str f.1) (str viaN) = R := ⟨_, rfl⟩
        obtain ⟨R3, h3⟩ : ∃ R, sameB (str f.1) (str xfB) = R := ⟨_, rfl⟩
        obtain ⟨R4, h4⟩ : ∃ R, sameB (str f.1) (str hostU) = R := ⟨_, rfl⟩
        obtain ⟨R5, h5h⟩ : ∃ R, inB f.1 hop10 = R := ⟨_, rfl⟩
        obtain ⟨R6, h6⟩ : ∃ R, inB f.1 NS = R := ⟨_, rfl⟩
        rw [h1] at HA1 HYy HYn hok
        rw [h2] at HA2 hok
        rw [h3] at HA3 hok
        rw [h4] at HA4 hok
        rw [h5h] at HA5 hok
        rw [h6] at HA6 hok
        obtain ⟨N, hN⟩ : ∃ N, str f.1 = N := ⟨_, rfl⟩
        rw [hN] at c0 HA1 HA2 HA3 HA4 HA5 HA6
        have HB1 := hid (show ∀ W : World, Calls Tryd.prog 19 #[.string N, .string (⟨#[67, 111, 110, 116, 101, 110, 116, 45, 76, 101, 110, 103, 116, 104]⟩ : ByteArray)] W fun e w' => e = .returned (.bool R1) ∧ Below W.heap.size W w' from HA1.out)
        have HB2 := hid (show ∀ W : World, Calls Tryd.prog 19 #[.string N, .string (⟨#[86, 105, 97]⟩ : ByteArray)] W fun e w' => e = .returned (.bool R2) ∧ Below W.heap.size W w' from HA2.out)
        have HB3 := hid (show ∀ W : World, Calls Tryd.prog 19 #[.string N, .string (⟨#[88, 45, 70, 111, 114, 119, 97, 114, 100, 101, 100, 45, 70, 111, 114]⟩ : ByteArray)] W fun e w' => e = .returned (.bool R3) ∧ Below W.heap.size W w' from HA3.out)
        have HB4 := hid (show ∀ W : World, Calls Tryd.prog 19 #[.string N, .string (⟨#[72, 111, 115, 116]⟩ : ByteArray)] W fun e w' => e = .returned (.bool R4) ∧ Below W.heap.size W w' from HA4.out)
        clear hf hN z1 z2 h1 h2 h3 h4 h5h h6 HA1 HA2 HA3 HA4
        cases R1 with
        | true =>
          have HY := hid (HYy.out rfl)
          clear hok
          go_wp2_with (go_at_call 19; (with_reducible refine (HB1.out _).mono ?_); rintro e u1 ⟨rfl, hb⟩; have HQ_u1 := hid (HQ_wr.out.next hb); clear hb HB1)
          go_roundg (s - (i + 1) + 1)
          case measure => omega
          case rel => exact ⟨i + 1, c9 + 1, by go_num, by go_num, by omega, rfl, HY.out, HQ_u1.out⟩
        | false =>
          have HY := hid (HYn.out rfl)
          have hok2 := hok rfl
          clear hok
          obtain rfl : R5 = false := by cases R5 <;> simp at hok2 ⊢
          cases R2 with
          | true =>
            cases R6 with
            | true =>
              cases R4 with
              | true =>
                clear hok2
                go_wp2_with (first | (go_at_call 19; (with_reducible refine (HB1.out _).mono ?_); rintro e u1 ⟨rfl, hb⟩; have HQ_u1 := hid (HQ_wr.out.next hb); clear hb HB1) | (go_at_call 19; (with_reducible refine (HB2.out _).mono ?_); rintro e u2 ⟨rfl, hb⟩; have HQ_u2 := hid (HQ_u1.out.next hb); clear hb HB2) | (go_at_call 20; (with_reducible refine (HA5.out _ HQ_u2.out.hp).mono ?_); rintro e u5 ⟨rfl, hb⟩; have HQ_u5 := hid (HQ_u2.out.next hb); clear hb HA5) | (go_at_call 20; (with_reducible refine (HA6.out _ HQ_u5.out.nm).mono ?_); rintro e u6 ⟨rfl, hb⟩; have HQ_u6 := hid (HQ_u5.out.next hb); clear hb HA6) | (go_at_call 19; (with_reducible refine (HB4.out _).mono ?_); rintro e u7 ⟨rfl, hb⟩; have HQ_u7 := hid (HQ_u6.out.next hb); clear hb HB4))
                go_roundg (s - (i + 1) + 1)
                case measure => omega
                case rel => exact ⟨i + 1, c9, rfl, by go_num, by omega, rfl, HY.out, HQ_u7.out⟩
              | false =>
                clear hok2
                go_wp2_with (first | (go_at_call 19; (with_reducible refine (HB1.out _).mono ?_); rintro e u1 ⟨rfl, hb⟩; have HQ_u1 := hid (HQ_wr.out.next hb); clear hb HB1) | (go_at_call 19; (with_reducible refine (HB2.out _).mono ?_); rintro e u2 ⟨rfl, hb⟩; have HQ_u2 := hid (HQ_u1.out.next hb); clear hb HB2) | (go_at_call 20; (with_reducible refine (HA5.out _ HQ_u2.out.hp).mono ?_); rintro e u5 ⟨rfl, hb⟩; have HQ_u5 := hid (HQ_u2.out.next hb); clear hb HA5) | (go_at_call 20; (with_reducible refine (HA6.out _ HQ_u5.out.nm).mono ?_); rintro e u6 ⟨rfl, hb⟩; have HQ_u6 := hid (HQ_u5.out.next hb); clear hb HA6) | (go_at_call 19; (with_reducible refine (HB4.out _).mono ?_); rintro e u7 ⟨rfl, hb⟩; have HQ_u7 := hid (HQ_u6.out.next hb); clear hb HB4))
                go_roundg (s - (i + 1) + 1)
                case measure => omega
                case rel => exact ⟨i + 1, c9, rfl, by go_num, by omega, rfl, HY.out, HQ_u7.out⟩
            | false =>
              clear hok2
              go_wp2_with (first | (go_at_call 19; (with_reducible refine (HB1.out _).mono ?_); rintro e u1 ⟨rfl, hb⟩; have HQ_u1 := hid (HQ_wr.out.next hb); clear hb HB1) | (go_at_call 19; (with_reducible refine (HB2.out _).mono ?_); rintro e u2 ⟨rfl, hb⟩; have HQ_u2 := hid (HQ_u1.out.next hb); clear hb HB2) | (go_at_call 20; (with_reducible refine (HA5.out _ HQ_u2.out.hp).mono ?_); rintro e u5 ⟨rfl, hb⟩; have HQ_u5 := hid (HQ_u2.out.next hb); clear hb HA5) | (go_at_call 20; (with_reducible refine (HA6.out _ HQ_u5.out.nm).mono ?_); rintro e u6 ⟨rfl, hb⟩; have HQ_u6 := hid (HQ_u5.out.next hb); clear hb HA6))
              go_roundg (s - (i + 1) + 1)
              case measure => omega
              case rel => exact ⟨i + 1, c9, rfl, by go_num, by omega, rfl, HY.out, HQ_u6.out⟩
          | false =>
            cases R3 with
            | true =>
              cases R6 with
              | true =>
                cases R4 with
                | true =>
                  clear hok2
                  go_wp2_with (first | (go_at_call 19; (with_reducible refine (HB1.out _).mono ?_); rintro e u1 ⟨rfl, hb⟩; have HQ_u1 := hid (HQ_wr.out.next hb); clear hb HB1) | (go_at_call 19; (with_reducible refine (HB2.out _).mono ?_); rintro e u2 ⟨rfl, hb⟩; have HQ_u2 := hid (HQ_u1.out.next hb); clear hb HB2) | (go_at_call 19; (with_reducible refine (HB3.out _).mono ?_); rintro e u3 ⟨rfl, hb⟩; have HQ_u3 := hid (HQ_u2.out.next hb); clear hb HB3) | (go_at_call 20; (with_reducible refine (HA5.out _ HQ_u3.out.hp).mono ?_); rintro e u5 ⟨rfl, hb⟩; have HQ_u5 := hid (HQ_u3.out.next hb); clear hb HA5) | (go_at_call 20; (with_reducible refine (HA6.out _ HQ_u5.out.nm).mono ?_); rintro e u6 ⟨rfl, hb⟩; have HQ_u6 := hid (HQ_u5.out.next hb); clear hb HA6) | (go_at_call 19; (with_reducible refine (HB4.out _).mono ?_); rintro e u7 ⟨rfl, hb⟩; have HQ_u7 := hid (HQ_u6.out.next hb); clear hb HB4))
                  go_roundg (s - (i + 1) + 1)
                  case measure => omega
                  case rel => exact ⟨i + 1, c9, rfl, by go_num, by omega, rfl, HY.out, HQ_u7.out⟩
                | false =>
                  clear hok2
                  go_wp2_with (first | (go_at_call 19; (with_reducible refine (HB1.out _).mono ?_); rintro e u1 ⟨rfl, hb⟩; have HQ_u1 := hid (HQ_wr.out.next hb); clear hb HB1) | (go_at_call 19; (with_reducible refine (HB2.out _).mono ?_); rintro e u2 ⟨rfl, hb⟩; have HQ_u2 := hid (HQ_u1.out.next hb); clear hb HB2) | (go_at_call 19; (with_reducible refine (HB3.out _).mono ?_); rintro e u3 ⟨rfl, hb⟩; have HQ_u3 := hid (HQ_u2.out.next hb); clear hb HB3) | (go_at_call 20; (with_reducible refine (HA5.out _ HQ_u3.out.hp).mono ?_); rintro e u5 ⟨rfl, hb⟩; have HQ_u5 := hid (HQ_u3.out.next hb); clear hb HA5) | (go_at_call 20; (with_reducible refine (HA6.out _ HQ_u5.out.nm).mono ?_); rintro e u6 ⟨rfl, hb⟩; have HQ_u6 := hid (HQ_u5.out.next hb); clear hb HA6) | (go_at_call 19; (with_reducible refine (HB4.out _).mono ?_); rintro e u7 ⟨rfl, hb⟩; have HQ_u7 := hid (HQ_u6.out.next hb); clear hb HB4))
                  go_roundg (s - (i + 1) + 1)
                  case measure => omega
                  case rel => exact ⟨i + 1, c9, rfl, by go_num, by omega, rfl, HY.out, HQ_u7.out⟩
              | false =>
                clear hok2
                go_wp2_with (first | (go_at_call 19; (with_reducible refine (HB1.out _).mono ?_); rintro e u1 ⟨rfl, hb⟩; have HQ_u1 := hid (HQ_wr.out.next hb); clear hb HB1) | (go_at_call 19; (with_reducible refine (HB2.out _).mono ?_); rintro e u2 ⟨rfl, hb⟩; have HQ_u2 := hid (HQ_u1.out.next hb); clear hb HB2) | (go_at_call 19; (with_reducible refine (HB3.out _).mono ?_); rintro e u3 ⟨rfl, hb⟩; have HQ_u3 := hid (HQ_u2.out.next hb); clear hb HB3) | (go_at_call 20; (with_reducible refine (HA5.out _ HQ_u3.out.hp).mono ?_); rintro e u5 ⟨rfl, hb⟩; have HQ_u5 := hid (HQ_u3.out.next hb); clear hb HA5) | (go_at_call 20; (with_reducible refine (HA6.out _ HQ_u5.out.nm).mono ?_); rintro e u6 ⟨rfl, hb⟩; have HQ_u6 := hid (HQ_u5.out.next hb); clear hb HA6))
                go_roundg (s - (i + 1) + 1)
                case measure => omega
                case rel => exact ⟨i + 1, c9, rfl, by go_num, by omega, rfl, HY.out, HQ_u6.out⟩
            | false =>
              cases R6 with
              | true =>
                cases R4 with
                | true =>
                  clear hok2
                  go_wp2_with (first | (go_at_call 19; (with_reducible refine (HB1.out _).mono ?_); rintro e u1 ⟨rfl, hb⟩; have HQ_u1 := hid (HQ_wr.out.next hb); clear hb HB1) | (go_at_call 19; (with_reducible refine (HB2.out _).mono ?_); rintro e u2 ⟨rfl, hb⟩; have HQ_u2 := hid (HQ_u1.out.next hb); clear hb HB2) | (go_at_call 19; (with_reducible refine (HB3.out _).mono ?_); rintro e u3 ⟨rfl, hb⟩; have HQ_u3 := hid (HQ_u2.out.next hb); clear hb HB3) | (go_at_call 20; (with_reducible refine (HA5.out _ HQ_u3.out.hp).mono ?_); rintro e u5 ⟨rfl, hb⟩; have HQ_u5 := hid (HQ_u3.out.next hb); clear hb HA5) | (go_at_call 20; (with_reducible refine (HA6.out _ HQ_u5.out.nm).mono ?_); rintro e u6 ⟨rfl, hb⟩; have HQ_u6 := hid (HQ_u5.out.next hb); clear hb HA6) | (go_at_call 19; (with_reducible refine (HB4.out _).mono ?_); rintro e u7 ⟨rfl, hb⟩; have HQ_u7 := hid (HQ_u6.out.next hb); clear hb HB4))
                  go_roundg (s - (i + 1) + 1)
                  case measure => omega
                  case rel => exact ⟨i + 1, c9, rfl, by go_num, by omega, rfl, HY.out, HQ_u7.out⟩
                | false =>
                  exact absurd hok2 (by decide)
              | false =>
                clear hok2
                go_wp2_with (first | (go_at_call 19; (with_reducible refine (HB1.out _).mono ?_); rintro e u1 ⟨rfl, hb⟩; have HQ_u1 := hid (HQ_wr.out.next hb); clear hb HB1) | (go_at_call 19; (with_reducible refine (HB2.out _).mono ?_); rintro e u2 ⟨rfl, hb⟩; have HQ_u2 := hid (HQ_u1.out.next hb); clear hb HB2) | (go_at_call 19; (with_reducible refine (HB3.out _).mono ?_); rintro e u3 ⟨rfl, hb⟩; have HQ_u3 := hid (HQ_u2.out.next hb); clear hb HB3) | (go_at_call 20; (with_reducible refine (HA5.out _ HQ_u3.out.hp).mono ?_); rintro e u5 ⟨rfl, hb⟩; have HQ_u5 := hid (HQ_u3.out.next hb); clear hb HA5) | (go_at_call 20; (with_reducible refine (HA6.out _ HQ_u5.out.nm).mono ?_); rintro e u6 ⟨rfl, hb⟩; have HQ_u6 := hid (HQ_u5.out.next hb); clear hb HA6))
                go_roundg (s - (i + 1) + 1)
                case measure => omega
                case rel => exact ⟨i + 1, c9, rfl, by go_num, by omega, rfl, HY.out, HQ_u6.out⟩
      · obtain rfl : i = s := by omega
        have hltI : ¬ (i : Int) < (i : Int) := by omega
        have HT := hid (show F.take i = F from List.take_of_length_le (by rw [HLs.out]; exact Nat.le_refl _))
        have h91 : ¬ (c9 : Int) > 1 := by have h9 := HC9.out; rw [HT.out] at h9; have h8 := HCn.out; omega
        clear hlt HT HC9
        go_wp2
        go_loopg [13, 14] (n + 1) (fun gk s13 s14 wr2 => ∃ (j a : Nat), s13 = .int .i64 (a : Int) ∧ s14 = .int .i64 (j : Int) ∧ j ≤ n ∧ gk = n - j + 1 ∧ a ≤ i ∧ List.Sublist ((fs.drop j).filter (keepE NS)) (F.drop a) ∧ LEd w wr2 #[.string M, .string T, .int .i64 k, .slice p n c] gO #[.string M, .string T, .int .i64 1, .slice (some ⟨g, 0, none⟩) i i] g F gh qn NS)
        case atStart => exact ⟨0, 0, rfl, rfl, by omega, rfl, Nat.zero_le _, HKs.out, HQ_wr.out⟩
        case round =>
          obtain ⟨j, a, rfl, rfl, hjn, rfl, hai, hsub, hq⟩ := hrel
          rename World => wj
          have HQ_wj := hid hq
          have HSb := hid hsub
          clear hq hsub HQ_wr x0 x1 x2 x3
          obtain ⟨x0, x1, x2, x3, _⟩ := cells4O HQ_wj.out.bx
          by_cases hlt : j < n
          · obtain ⟨f, hf⟩ : ∃ f, fs[j]? = some f := ⟨fs[j]'(by rw [HNn.out]; exact hlt), List.getElem?_eq_getElem (by rw [HNn.out]; exact hlt)⟩
            obtain ⟨gq, oq, hp, c0, c1⟩ := (HF0.out.next HQ_wj.out.low) j f hf
            subst hp
            have hltI : (j : Int) < (n : Int) := by omega
            obtain ⟨z1, z2⟩ := HSz.out f (List.mem_of_getElem? hf)
            have HB4 := hid (show ∀ W : World, _ from fun W => rsame_b f.1 hostU W (by omega) (by decide))
            have HA5 := hid (show ∀ W : World, StrAt W (some ⟨gh, 0, none⟩) hop10 → _ from fun W h => lis f.1 hop10 (some ⟨gh, 0, none⟩) 10 10 rfl W h (by omega) (by decide) (by decide))
            have HA6 := hid (show ∀ W : World, StrAt W qn NS → _ from fun W h => lis f.1 NS qn nk dn HNk.out W h (by omega) HNz.out (by omega))
            have HA7 := hid (show ∀ W : World, _ from fun W => lis f.1 [clB, xfB] (some ⟨W.heap.size, 0, none⟩) 2 2 rfl (W.alloc (.cells #[.string (⟨#[67, 111, 110, 116, 101, 110, 116, 45, 76, 101, 110, 103, 116, 104]⟩ : ByteArray), .string (⟨#[88, 45, 70, 111, 114, 119, 97, 114, 100, 101, 100, 45, 70, 111, 114]⟩ : ByteArray)] 9 (0, 0))) (strCX W) (by omega) (by decide) (by decide))
            have HD := hid (drop_atL hf)
            have hke : keepE NS f = !((inB f.1 hop10 || (inB f.1 NS && !sameB (str f.1) (str hostU))) || inB f.1 [clB, xfB]) := rfl
            have HNo := hid (fun (h : keepE NS f = false) => show List.Sublist ((fs.drop (j + 1)).filter (keepE NS)) (F.drop a) from by
              have h9 := HSb.out
              rw [HD.out, List.filter_cons_of_neg (by rw [h]; decide)] at h9
              exact h9)
            have HYe := hid (fun (h : keepE NS f = true) => show List.Sublist (f :: (fs.drop (j + 1)).filter (keepE NS)) (F.drop a) from by
              have h9 := HSb.out
              rw [HD.out, List.filter_cons_of_pos h] at h9
              exact h9)
            obtain ⟨R3, h3⟩ : ∃ R, inB f.1 hop10 = R := ⟨_, rfl⟩
            obtain ⟨R4, h4⟩ : ∃ R, inB f.1 NS = R := ⟨_, rfl⟩
            obtain ⟨R5, h5h⟩ : ∃ R, sameB (str f.1) (str hostU) = R := ⟨_, rfl⟩
            obtain ⟨R6, h6⟩ : ∃ R, inB f.1 [clB, xfB] = R := ⟨_, rfl⟩
            rw [h3] at HA5 hke
            rw [h4] at HA6 hke
            rw [h5h] at HB4 hke
            rw [h6] at HA7 hke
            obtain ⟨X, hX⟩ : ∃ X, str f.1 = X := ⟨_, rfl⟩
            obtain ⟨Y, hY⟩ : ∃ Y, str f.2 = Y := ⟨_, rfl⟩
            have HXX := hid hX
            have HYY := hid hY
            rw [hX] at c0 HA5 HA6 HB4 HA7
            rw [hY] at c1
            have HB5 := hid (show ∀ W : World, Calls Tryd.prog 19 #[.string X, .string (⟨#[72, 111, 115, 116]⟩ : ByteArray)] W fun e w' => e = .returned (.bool R5) ∧ Below W.heap.size W w' from HB4.out)
            have KC0 := hid c0
            have KC1 := hid c1
            have HLow0 := hid HQ_wj.out.low
            have HFi := hid hf
            clear hf hX hY z1 z2 h3 h4 h5h h6 HB4 HD
            cases R3 with
            | true =>
              have HT := hid (HNo.out (by rw [hke]; rfl))
              clear hke HNo HYe
              go_wp2_with (first | (go_at_call 20; (with_reducible refine (HA5.out _ HQ_wj.out.hp).mono ?_); rintro e u5 ⟨rfl, hb⟩; have HQ_u5 := hid (HQ_wj.out.next hb); clear hb HA5))
              go_roundg (n - (j + 1) + 1)
              case measure => omega
              case rel => exact ⟨j + 1, a, rfl, by go_num, by omega, rfl, hai, HT.out, HQ_u5.out⟩
            | false =>
              cases R4 with
              | true =>
                cases R5 with
                | true =>
                  cases R6 with
                  | true =>
                    have HT := hid (HNo.out (by rw [hke]; rfl))
                    clear hke HNo HYe
                    go_wp2_with (first | (go_at_call 20; (with_reducible refine (HA5.out _ HQ_wj.out.hp).mono ?_); rintro e u5 ⟨rfl, hb⟩; have HQ_u5 := hid (HQ_wj.out.next hb); clear hb HA5) | (go_at_call 20; (with_reducible refine (HA6.out _ HQ_u5.out.nm).mono ?_); rintro e u6 ⟨rfl, hb⟩; have HQ_u6 := hid (HQ_u5.out.next hb); clear hb HA6) | (go_at_call 19; (with_reducible refine (HB5.out _).mono ?_); rintro e u7 ⟨rfl, hb⟩; have HQ_u7 := hid (HQ_u6.out.next hb); clear hb HB5) | (go_at_call 20; (with_reducible refine (HA7.out _).mono ?_); rintro e u8 ⟨rfl, hb⟩; have HQ_u8 := hid ((HQ_u7.out.next (below_new _ _)).next hb); clear hb HA7))
                    go_roundg (n - (j + 1) + 1)
                    case measure => omega
                    case rel => exact ⟨j + 1, a, rfl, by go_num, by omega, rfl, hai, HT.out, HQ_u8.out⟩
                  | false =>
                    have HT := hid (HYe.out (by rw [hke]; rfl))
                    clear hke HNo HYe HSb
                    go_wp2_with (first | (go_at_call 20; (with_reducible refine (HA5.out _ HQ_wj.out.hp).mono ?_); rintro e u5 ⟨rfl, hb⟩; have HQ_u5 := hid (HQ_wj.out.next hb); clear hb HA5) | (go_at_call 20; (with_reducible refine (HA6.out _ HQ_u5.out.nm).mono ?_); rintro e u6 ⟨rfl, hb⟩; have HQ_u6 := hid (HQ_u5.out.next hb); clear hb HA6) | (go_at_call 19; (with_reducible refine (HB5.out _).mono ?_); rintro e u7 ⟨rfl, hb⟩; have HQ_u7 := hid (HQ_u6.out.next hb); clear hb HB5) | (go_at_call 20; (with_reducible refine (HA7.out _).mono ?_); rintro e u8 ⟨rfl, hb⟩; have HQ_u8 := hid ((HQ_u7.out.next (below_new _ _)).next hb); clear hb HA7))
                    clear c0 c1 x0 x1 x2 x3
                    go_loopg [13] (i - a + 1) (fun gk s13 wr3 => ∃ a : Nat, s13 = .int .i64 (a : Int) ∧ gk = i - a + 1 ∧ a ≤ i ∧ List.Sublist (f :: (fs.drop (j + 1)).filter (keepE NS)) (F.drop a) ∧ LEd w wr3 #[.string M, .string T, .int .i64 k, .slice (some ⟨gq, oq, none⟩) n c] gO #[.string M, .string T, .int .i64 1, .slice (some ⟨g, 0, none⟩) i i] g F gh qn NS)
                    case atStart => exact ⟨a, rfl, rfl, hai, HT.out, HQ_u8.out⟩
                    case round =>
                      obtain ⟨a, rfl, rfl, hai, hsub, hq⟩ := hrel
                      rename World => wk
                      have HQ_wk := hid hq
                      have HSb := hid hsub
                      have hlt3 : a < i := by have h9 := sub_lt hsub; rw [HLs.out] at h9; exact h9
                      clear hq hsub HQ_u8 HT
                      obtain ⟨y, hy⟩ : ∃ y, F[a]? = some y := ⟨F[a]'(by rw [HLs.out]; exact hlt3), List.getElem?_eq_getElem (by rw [HLs.out]; exact hlt3)⟩
                      obtain ⟨gg, oo, hp, d0, d1⟩ := HQ_wk.out.row.fat a y hy
                      obtain ⟨rfl, rfl⟩ : g = gg ∧ 0 = oo := by injection hp with hp; injection hp with h1 h2; exact ⟨h1, h2⟩
                      rw [Nat.zero_add] at d0 d1
                      obtain ⟨gq2, oq2, hp2, e0, e1⟩ := (HF0.out.next HQ_wk.out.low) j f HFi.out
                      obtain ⟨rfl, rfl⟩ : gq = gq2 ∧ oq = oq2 := by injection hp2 with hp2; injection hp2 with h1 h2; exact ⟨h1, h2⟩
                      rw [HXX.out] at e0
                      rw [HYY.out] at e1
                      have HDy := hid (drop_atL hy)
                      have hltI3 : (a : Int) < (i : Int) := by omega
                      have hneI3 : ((a : Int) == (i : Int)) = false := by simp; omega
                      have hneI4 : ¬ (a : Int) = (i : Int) := by omega
                      have hwa : IntKind.i64.wrap ((a : Int) + 1) = (a : Int) + 1 := by rw [IntKind.wrap_i64]; omega
                      obtain ⟨u0, u1, u2, u3, _⟩ := cells4O HQ_wk.out.bx
                      obtain ⟨t0, t1, t2, t3, _⟩ := cells4O HQ_wk.out.ob
                      by_cases hyf : y = f
                      · as_aux_lemma =>
                          subst hyf
                          rw [HXX.out] at d0
                          rw [HYY.out] at d1
                          have HT2 := hid (show List.Sublist ((fs.drop (j + 1)).filter (keepE NS)) (F.drop (a + 1)) from sub_take (x := y) (by rw [← HDy.out]; exact HSb.out))
                          have hS0 : RdEd wk.drew gO w.heap.size g (a * 2) gq (oq + j * 2) (.slice (some ⟨g, 0, none⟩) i i) (.slice (some ⟨gq, oq, none⟩) n c) X Y X Y := ⟨t3, u3, d0, d1, e0, e1⟩
                          have HQ_v := hid (show LEd w wk.drew #[.string M, .string T, .int .i64 k, .slice (some ⟨gq, oq, none⟩) n c] gO #[.string M, .string T, .int .i64 1, .slice (some ⟨g, 0, none⟩) i i] g F gh qn NS from HQ_wk.out.next ⟨rfl, rfl, rfl, Nat.le_refl _, fun _ _ => rfl⟩)
                          go_wp2
                          generalize hWv : wk.drew = v at hS0 HQ_v
                          refine wp_region_noPanic ?_
                          refine any_begin 18 (by kernel_rfl) (by kernel_rfl) ?_
                          rw [hWv]
                          clear hWv HQ_wk d0 d1 e0 e1 u0 u1 u2 u3 t0 t1 t2 t3
                          refine late_begin (fun U => RdEd U gO w.heap.size g (a * 2) gq (oq + j * 2) (.slice (some ⟨g, 0, none⟩) i i) (.slice (some ⟨gq, oq, none⟩) n c) X Y X Y) (fun _ => false) hS0 (fun hS => ?_)
                          refine late_take (i := 0) (some 114) rfl rfl (by kernel_rfl) (by kernel_rfl) (by kernel_rfl) (by kernel_rfl) (by kernel_rfl) (fun _ _ _ h => h) (by rfl) (v := ?v0eqk1) ?hy0eqk1 hS ?rest0eqk1
                          case hy0eqk1 => intro w0 hSw; have e1 := hSw.o3; have e2 := hSw.b3; have e3 := hSw.f0; have e4 := hSw.f1; have e5 := hSw.q0; have e6 := hSw.q1; go_simp; try with_reducible rfl
                          simp only [Act.put, List.setIfInBounds_toArray, List.set_cons_zero, List.set_cons_succ]
                          refine late_take (i := 1) (some 115) rfl rfl (by kernel_rfl) (by kernel_rfl) (by kernel_rfl) (by kernel_rfl) (by kernel_rfl) (fun _ _ _ h => h) (by rfl) (v := ?v1eqk1) ?hy1eqk1 hS ?rest1eqk1
                          case hy1eqk1 => intro w0 hSw; have e1 := hSw.o3; have e2 := hSw.b3; have e3 := hSw.f0; have e4 := hSw.f1; have e5 := hSw.q0; have e6 := hSw.q1; go_simp; try with_reducible rfl
                          simp only [Act.put, List.setIfInBounds_toArray, List.set_cons_zero, List.set_cons_succ]
                          refine late_take (i := 2) (some 116) rfl rfl (by kernel_rfl) (by kernel_rfl) (by kernel_rfl) (by kernel_rfl) (by kernel_rfl) (fun _ _ _ h => h) (by rfl) (v := ?v2eqk1) ?hy2eqk1 hS ?rest2eqk1
                          case hy2eqk1 => intro w0 hSw; have e1 := hSw.o3; have e2 := hSw.b3; have e3 := hSw.f0; have e4 := hSw.f1; have e5 := hSw.q0; have e6 := hSw.q1; go_simp; try with_reducible rfl
                          simp only [Act.put, List.setIfInBounds_toArray, List.set_cons_zero, List.set_cons_succ]
                          refine late_take (i := 3) (some 117) rfl rfl (by kernel_rfl) (by kernel_rfl) (by kernel_rfl) (by kernel_rfl) (by kernel_rfl) (fun _ _ _ h => h) (by rfl) (v := ?v3eqk1) ?hy3eqk1 hS ?rest3eqk1
                          case hy3eqk1 => intro w0 hSw; have e1 := hSw.o3; have e2 := hSw.b3; have e3 := hSw.f0; have e4 := hSw.f1; have e5 := hSw.q0; have e6 := hSw.q1; go_simp; try with_reducible rfl
                          simp only [Act.put, List.setIfInBounds_toArray, List.set_cons_zero, List.set_cons_succ]
                          refine late_take (i := 4) (some 118) rfl rfl (by kernel_rfl) (by kernel_rfl) (by kernel_rfl) (by kernel_rfl) (by kernel_rfl) (fun _ _ _ h => h) (by rfl) (v := ?v4eqk1) ?hy4eqk1 hS ?rest4eqk1
                          case hy4eqk1 => intro w0 hSw; have e1 := hSw.o3; have e2 := hSw.b3; have e3 := hSw.f0; have e4 := hSw.f1; have e5 := hSw.q0; have e6 := hSw.q1; go_simp; try with_reducible rfl
                          simp only [Act.put, List.setIfInBounds_toArray, List.set_cons_zero, List.set_cons_succ]
                          refine late_take (i := 5) (some 119) rfl rfl (by kernel_rfl) (by kernel_rfl) (by kernel_rfl) (by kernel_rfl) (by kernel_rfl) (fun _ _ _ h => h) (by rfl) (v := ?v5eqk1) ?hy5eqk1 hS ?rest5eqk1
                          case hy5eqk1 => intro w0 hSw; have e1 := hSw.o3; have e2 := hSw.b3; have e3 := hSw.f0; have e4 := hSw.f1; have e5 := hSw.q0; have e6 := hSw.q1; go_simp; try with_reducible rfl
                          simp only [Act.put, List.setIfInBounds_toArray, List.set_cons_zero, List.set_cons_succ]
                          refine late_take (i := 6) (some 120) rfl rfl (by kernel_rfl) (by kernel_rfl) (by kernel_rfl) (by kernel_rfl) (by kernel_rfl) (fun _ _ _ h => h) (by rfl) (v := ?v6eqk1) ?hy6eqk1 hS ?rest6eqk1
                          case hy6eqk1 => intro w0 hSw; have e1 := hSw.o3; have e2 := hSw.b3; have e3 := hSw.f0; have e4 := hSw.f1; have e5 := hSw.q0; have e6 := hSw.q1; go_simp; try with_reducible rfl
                          simp only [Act.put, List.setIfInBounds_toArray, List.set_cons_zero, List.set_cons_succ]
                          refine late_take (i := 7) (some 121) rfl rfl (by kernel_rfl) (by kernel_rfl) (by kernel_rfl) (by kernel_rfl) (by kernel_rfl) (fun _ _ _ h => h) (by rfl) (v := ?v7eqk1) ?hy7eqk1 hS ?rest7eqk1
                          case hy7eqk1 => intro w0 hSw; have e1 := hSw.o3; have e2 := hSw.b3; have e3 := hSw.f0; have e4 := hSw.f1; have e5 := hSw.q0; have e6 := hSw.q1; go_simp; try with_reducible rfl
                          simp only [Act.put, List.setIfInBounds_toArray, List.set_cons_zero, List.set_cons_succ]
                          refine late_take (i := 8) (some 122) rfl rfl (by kernel_rfl) (by kernel_rfl) (by kernel_rfl) (by kernel_rfl) (by kernel_rfl) (fun _ _ _ h => h) (by rfl) (v := ?v8eqk1) ?hy8eqk1 hS ?rest8eqk1
                          case hy8eqk1 => intro w0 hSw; have e1 := hSw.o3; have e2 := hSw.b3; have e3 := hSw.f0; have e4 := hSw.f1; have e5 := hSw.q0; have e6 := hSw.q1; go_simp; try with_reducible rfl
                          simp only [Act.put, List.setIfInBounds_toArray, List.set_cons_zero, List.set_cons_succ]
                          refine late_take (i := 9) (some 123) rfl rfl (by kernel_rfl) (by kernel_rfl) (by kernel_rfl) (by kernel_rfl) (by kernel_rfl) (fun _ _ _ h => h) (by rfl) (v := ?v9eqk1) ?hy9eqk1 hS ?rest9eqk1
                          case hy9eqk1 => intro w0 hSw; have e1 := hSw.o3; have e2 := hSw.b3; have e3 := hSw.f0; have e4 := hSw.f1; have e5 := hSw.q0; have e6 := hSw.q1; go_simp; try with_reducible rfl
                          simp only [Act.put, List.setIfInBounds_toArray, List.set_cons_zero, List.set_cons_succ]
                          refine late_take (i := 10) (some 124) rfl rfl (by kernel_rfl) (by kernel_rfl) (by kernel_rfl) (by kernel_rfl) (by kernel_rfl) (fun _ _ _ h => h) (by rfl) (v := ?v10eqk1) ?hy10eqk1 hS ?rest10eqk1
                          case hy10eqk1 => intro w0 hSw; have e1 := hSw.o3; have e2 := hSw.b3; have e3 := hSw.f0; have e4 := hSw.f1; have e5 := hSw.q0; have e6 := hSw.q1; go_simp; try with_reducible rfl
                          simp only [Act.put, List.setIfInBounds_toArray, List.set_cons_zero, List.set_cons_succ]
                          refine late_take (i := 11) (some 125) rfl rfl (by kernel_rfl) (by kernel_rfl) (by kernel_rfl) (by kernel_rfl) (by kernel_rfl) (fun _ _ _ h => h) (by rfl) (v := ?v11eqk1) ?hy11eqk1 hS ?rest11eqk1
                          case hy11eqk1 => intro w0 hSw; have e1 := hSw.o3; have e2 := hSw.b3; have e3 := hSw.f0; have e4 := hSw.f1; have e5 := hSw.q0; have e6 := hSw.q1; go_simp; try with_reducible rfl
                          simp only [Act.put, List.setIfInBounds_toArray, List.set_cons_zero, List.set_cons_succ]
                          refine late_take (i := 12) (some 126) rfl rfl (by kernel_rfl) (by kernel_rfl) (by kernel_rfl) (by kernel_rfl) (by kernel_rfl) (fun _ _ _ h => h) (by rfl) (v := ?v12eqk1) ?hy12eqk1 hS ?rest12eqk1
                          case hy12eqk1 => intro w0 hSw; have e1 := hSw.o3; have e2 := hSw.b3; have e3 := hSw.f0; have e4 := hSw.f1; have e5 := hSw.q0; have e6 := hSw.q1; go_simp; try with_reducible rfl
                          simp only [Act.put, List.setIfInBounds_toArray, List.set_cons_zero, List.set_cons_succ]
                          refine late_take (i := 13) (some 127) rfl rfl (by kernel_rfl) (by kernel_rfl) (by kernel_rfl) (by kernel_rfl) (by kernel_rfl) (fun _ _ _ h => h) (by rfl) (v := ?v13eqk1) ?hy13eqk1 hS ?rest13eqk1
                          case hy13eqk1 => intro w0 hSw; have e1 := hSw.o3; have e2 := hSw.b3; have e3 := hSw.f0; have e4 := hSw.f1; have e5 := hSw.q0; have e6 := hSw.q1; go_simp; try with_reducible rfl
                          simp only [Act.put, List.setIfInBounds_toArray, List.set_cons_zero, List.set_cons_succ]
                          refine late_take (i := 14) (some 128) rfl rfl (by kernel_rfl) (by kernel_rfl) (by kernel_rfl) (by kernel_rfl) (by kernel_rfl) (fun _ _ _ h => h) (by rfl) (v := ?v14eqk1) ?hy14eqk1 hS ?rest14eqk1
                          case hy14eqk1 => intro w0 hSw; have e1 := hSw.o3; have e2 := hSw.b3; have e3 := hSw.f0; have e4 := hSw.f1; have e5 := hSw.q0; have e6 := hSw.q1; go_simp; try with_reducible rfl
                          simp only [Act.put, List.setIfInBounds_toArray, List.set_cons_zero, List.set_cons_succ]
                          refine late_take (i := 15) (some 129) rfl rfl (by kernel_rfl) (by kernel_rfl) (by kernel_rfl) (by kernel_rfl) (by kernel_rfl) (fun _ _ _ h => h) (by rfl) (v := ?v15eqk1) ?hy15eqk1 hS ?rest15eqk1
                          case hy15eqk1 => intro w0 hSw; have e1 := hSw.o3; have e2 := hSw.b3; have e3 := hSw.f0; have e4 := hSw.f1; have e5 := hSw.q0; have e6 := hSw.q1; go_simp; try with_reducible rfl
                          simp only [Act.put, List.setIfInBounds_toArray, List.set_cons_zero, List.set_cons_succ]
                          refine late_take (i := 16) (some 130) rfl rfl (by kernel_rfl) (by kernel_rfl) (by kernel_rfl) (by kernel_rfl) (by kernel_rfl) (fun _ _ _ h => h) (by rfl) (v := .bool false) ?hy16eqk1 hS ?rest16eqk1
                          case hy16eqk1 => intro w0 hSw; have e1 := hSw.o3; have e2 := hSw.b3; have e3 := hSw.f0; have e4 := hSw.f1; have e5 := hSw.q0; have e6 := hSw.q1; go_simp; try with_reducible rfl
                          simp only [Act.put, List.setIfInBounds_toArray, List.set_cons_zero, List.set_cons_succ]
                          refine late_take (i := 17) (some 131) rfl rfl (by kernel_rfl) (by kernel_rfl) (by kernel_rfl) (by kernel_rfl) (by kernel_rfl) (fun _ _ _ h => h) (by rfl) (v := ?v17eqk1) ?hy17eqk1 hS ?rest17eqk1
                          case hy17eqk1 => intro w0 hSw; have e1 := hSw.o3; have e2 := hSw.b3; have e3 := hSw.f0; have e4 := hSw.f1; have e5 := hSw.q0; have e6 := hSw.q1; go_simp; try with_reducible rfl
                          simp only [Act.put, List.setIfInBounds_toArray, List.set_cons_zero, List.set_cons_succ]
                          refine late_done (by kernel_rfl) ?_ _
                          refine NoPanic.normal ?_
                          clear hS hS0
                          obtain ⟨t0, t1, t2, t3, _⟩ := cells4O HQ_v.out.ob
                          go_wp2
                          go_roundg (n - (j + 1) + 1)
                          case measure => omega
                          case rel => exact ⟨j + 1, a + 1, by go_num, by go_num, by omega, rfl, by omega, HT2.out, HQ_v.out⟩
                      · as_aux_lemma =>
                          have HT2 := hid (show List.Sublist (f :: (fs.drop (j + 1)).filter (keepE NS)) (F.drop (a + 1)) from sub_step (y := y) (by rw [← HDy.out]; exact HSb.out) (fun e => hyf e.symm))
                          obtain ⟨N, hN⟩ : ∃ N, str y.1 = N := ⟨_, rfl⟩
                          obtain ⟨V, hV⟩ : ∃ V, str y.2 = V := ⟨_, rfl⟩
                          rw [hN] at d0
                          rw [hV] at d1
                          by_cases hNX : N = X
                          · rw [hNX] at d0
                            have hVY : ¬ V = Y := fun e => hyf (Prod.ext (str_inj (hN.trans (hNX.trans HXX.out.symm))) (str_inj (hV.trans (e.trans HYY.out.symm))))
                            have hv1 : (V.toList == Y.toList) = false := ne_list hVY
                            clear hN hV hyf hVY hNX
                            have hS0 : RdEd wk.drew gO w.heap.size g (a * 2) gq (oq + j * 2) (.slice (some ⟨g, 0, none⟩) i i) (.slice (some ⟨gq, oq, none⟩) n c) X V X Y := ⟨t3, u3, d0, d1, e0, e1⟩
                            have HQ_v := hid (show LEd w wk.drew #[.string M, .string T, .int .i64 k, .slice (some ⟨gq, oq, none⟩) n c] gO #[.string M, .string T, .int .i64 1, .slice (some ⟨g, 0, none⟩) i i] g F gh qn NS from HQ_wk.out.next ⟨rfl, rfl, rfl, Nat.le_refl _, fun _ _ => rfl⟩)
                            go_wp2
                            generalize hWv : wk.drew = v at hS0 HQ_v
                            refine wp_region_noPanic ?_
                            refine any_begin 18 (by kernel_rfl) (by kernel_rfl) ?_
                            rw [hWv]
                            clear hWv HQ_wk d0 d1 e0 e1 u0 u1 u2 u3 t0 t1 t2 t3
                            refine late_begin (fun U => RdEd U gO w.heap.size g (a * 2) gq (oq + j * 2) (.slice (some ⟨g, 0, none⟩) i i) (.slice (some ⟨gq, oq, none⟩) n c) X V X Y) (fun _ => false) hS0 (fun hS => ?_)
                            refine late_take (i := 0) (some 114) rfl rfl (by kernel_rfl) (by kernel_rfl) (by kernel_rfl) (by kernel_rfl) (by kernel_rfl) (fun _ _ _ h => h) (by rfl) (v := ?v0nvk1) ?hy0nvk1 hS ?rest0nvk1
                            case hy0nvk1 => intro w0 hSw; have e1 := hSw.o3; have e2 := hSw.b3; have e3 := hSw.f0; have e4 := hSw.f1; have e5 := hSw.q0; have e6 := hSw.q1; go_simp; try with_reducible rfl
                            simp only [Act.put, List.setIfInBounds_toArray, List.set_cons_zero, List.set_cons_succ]
                            refine late_take (i := 1) (some 115) rfl rfl (by kernel_rfl) (by kernel_rfl) (by kernel_rfl) (by kernel_rfl) (by kernel_rfl) (fun _ _ _ h => h) (by rfl) (v := ?v1nvk1) ?hy1nvk1 hS ?rest1nvk1
                            case hy1nvk1 => intro w0 hSw; have e1 := hSw.o3; have e2 := hSw.b3; have e3 := hSw.f0; have e4 := hSw.f1; have e5 := hSw.q0; have e6 := hSw.q1; go_simp; try with_reducible rfl
                            simp only [Act.put, List.setIfInBounds_toArray, List.set_cons_zero, List.set_cons_succ]
                            refine late_take (i := 2) (some 116) rfl rfl (by kernel_rfl) (by kernel_rfl) (by kernel_rfl) (by kernel_rfl) (by kernel_rfl) (fun _ _ _ h => h) (by rfl) (v := ?v2nvk1) ?hy2nvk1 hS ?rest2nvk1
                            case hy2nvk1 => intro w0 hSw; have e1 := hSw.o3; have e2 := hSw.b3; have e3 := hSw.f0; have e4 := hSw.f1; have e5 := hSw.q0; have e6 := hSw.q1; go_simp; try with_reducible rfl
                            simp only [Act.put, List.setIfInBounds_toArray, List.set_cons_zero, List.set_cons_succ]
                            refine late_take (i := 3) (some 117) rfl rfl (by kernel_rfl) (by kernel_rfl) (by kernel_rfl) (by kernel_rfl) (by kernel_rfl) (fun _ _ _ h => h) (by rfl) (v := ?v3nvk1) ?hy3nvk1 hS ?rest3nvk1
                            case hy3nvk1 => intro w0 hSw; have e1 := hSw.o3; have e2 := hSw.b3; have e3 := hSw.f0; have e4 := hSw.f1; have e5 := hSw.q0; have e6 := hSw.q1; go_simp; try with_reducible rfl
                            simp only [Act.put, List.setIfInBounds_toArray, List.set_cons_zero, List.set_cons_succ]
                            refine late_take (i := 4) (some 118) rfl rfl (by kernel_rfl) (by kernel_rfl) (by kernel_rfl) (by kernel_rfl) (by kernel_rfl) (fun _ _ _ h => h) (by rfl) (v := ?v4nvk1) ?hy4nvk1 hS ?rest4nvk1
                            case hy4nvk1 => intro w0 hSw; have e1 := hSw.o3; have e2 := hSw.b3; have e3 := hSw.f0; have e4 := hSw.f1; have e5 := hSw.q0; have e6 := hSw.q1; go_simp; try with_reducible rfl
                            simp only [Act.put, List.setIfInBounds_toArray, List.set_cons_zero, List.set_cons_succ]
                            refine late_take (i := 5) (some 119) rfl rfl (by kernel_rfl) (by kernel_rfl) (by kernel_rfl) (by kernel_rfl) (by kernel_rfl) (fun _ _ _ h => h) (by rfl) (v := ?v5nvk1) ?hy5nvk1 hS ?rest5nvk1
                            case hy5nvk1 => intro w0 hSw; have e1 := hSw.o3; have e2 := hSw.b3; have e3 := hSw.f0; have e4 := hSw.f1; have e5 := hSw.q0; have e6 := hSw.q1; go_simp; try with_reducible rfl
                            simp only [Act.put, List.setIfInBounds_toArray, List.set_cons_zero, List.set_cons_succ]
                            refine late_take (i := 6) (some 120) rfl rfl (by kernel_rfl) (by kernel_rfl) (by kernel_rfl) (by kernel_rfl) (by kernel_rfl) (fun _ _ _ h => h) (by rfl) (v := ?v6nvk1) ?hy6nvk1 hS ?rest6nvk1
                            case hy6nvk1 => intro w0 hSw; have e1 := hSw.o3; have e2 := hSw.b3; have e3 := hSw.f0; have e4 := hSw.f1; have e5 := hSw.q0; have e6 := hSw.q1; go_simp; try with_reducible rfl
                            simp only [Act.put, List.setIfInBounds_toArray, List.set_cons_zero, List.set_cons_succ]
                            refine late_take (i := 7) (some 121) rfl rfl (by kernel_rfl) (by kernel_rfl) (by kernel_rfl) (by kernel_rfl) (by kernel_rfl) (fun _ _ _ h => h) (by rfl) (v := ?v7nvk1) ?hy7nvk1 hS ?rest7nvk1
                            case hy7nvk1 => intro w0 hSw; have e1 := hSw.o3; have e2 := hSw.b3; have e3 := hSw.f0; have e4 := hSw.f1; have e5 := hSw.q0; have e6 := hSw.q1; go_simp; try with_reducible rfl
                            simp only [Act.put, List.setIfInBounds_toArray, List.set_cons_zero, List.set_cons_succ]
                            refine late_take (i := 8) (some 122) rfl rfl (by kernel_rfl) (by kernel_rfl) (by kernel_rfl) (by kernel_rfl) (by kernel_rfl) (fun _ _ _ h => h) (by rfl) (v := ?v8nvk1) ?hy8nvk1 hS ?rest8nvk1
                            case hy8nvk1 => intro w0 hSw; have e1 := hSw.o3; have e2 := hSw.b3; have e3 := hSw.f0; have e4 := hSw.f1; have e5 := hSw.q0; have e6 := hSw.q1; go_simp; try with_reducible rfl
                            simp only [Act.put, List.setIfInBounds_toArray, List.set_cons_zero, List.set_cons_succ]
                            refine late_take (i := 9) (some 123) rfl rfl (by kernel_rfl) (by kernel_rfl) (by kernel_rfl) (by kernel_rfl) (by kernel_rfl) (fun _ _ _ h => h) (by rfl) (v := ?v9nvk1) ?hy9nvk1 hS ?rest9nvk1
                            case hy9nvk1 => intro w0 hSw; have e1 := hSw.o3; have e2 := hSw.b3; have e3 := hSw.f0; have e4 := hSw.f1; have e5 := hSw.q0; have e6 := hSw.q1; go_simp; try with_reducible rfl
                            simp only [Act.put, List.setIfInBounds_toArray, List.set_cons_zero, List.set_cons_succ]
                            refine late_take (i := 10) (some 124) rfl rfl (by kernel_rfl) (by kernel_rfl) (by kernel_rfl) (by kernel_rfl) (by kernel_rfl) (fun _ _ _ h => h) (by rfl) (v := ?v10nvk1) ?hy10nvk1 hS ?rest10nvk1
                            case hy10nvk1 => intro w0 hSw; have e1 := hSw.o3; have e2 := hSw.b3; have e3 := hSw.f0; have e4 := hSw.f1; have e5 := hSw.q0; have e6 := hSw.q1; go_simp; try with_reducible rfl
                            simp only [Act.put, List.setIfInBounds_toArray, List.set_cons_zero, List.set_cons_succ]
                            refine late_take (i := 11) (some 125) rfl rfl (by kernel_rfl) (by kernel_rfl) (by kernel_rfl) (by kernel_rfl) (by kernel_rfl) (fun _ _ _ h => h) (by rfl) (v := ?v11nvk1) ?hy11nvk1 hS ?rest11nvk1
                            case hy11nvk1 => intro w0 hSw; have e1 := hSw.o3; have e2 := hSw.b3; have e3 := hSw.f0; have e4 := hSw.f1; have e5 := hSw.q0; have e6 := hSw.q1; go_simp; try with_reducible rfl
                            simp only [Act.put, List.setIfInBounds_toArray, List.set_cons_zero, List.set_cons_succ]
                            refine late_take (i := 12) (some 126) rfl rfl (by kernel_rfl) (by kernel_rfl) (by kernel_rfl) (by kernel_rfl) (by kernel_rfl) (fun _ _ _ h => h) (by rfl) (v := ?v12nvk1) ?hy12nvk1 hS ?rest12nvk1
                            case hy12nvk1 => intro w0 hSw; have e1 := hSw.o3; have e2 := hSw.b3; have e3 := hSw.f0; have e4 := hSw.f1; have e5 := hSw.q0; have e6 := hSw.q1; go_simp; try with_reducible rfl
                            simp only [Act.put, List.setIfInBounds_toArray, List.set_cons_zero, List.set_cons_succ]
                            refine late_take (i := 13) (some 127) rfl rfl (by kernel_rfl) (by kernel_rfl) (by kernel_rfl) (by kernel_rfl) (by kernel_rfl) (fun _ _ _ h => h) (by rfl) (v := ?v13nvk1) ?hy13nvk1 hS ?rest13nvk1
                            case hy13nvk1 => intro w0 hSw; have e1 := hSw.o3; have e2 := hSw.b3; have e3 := hSw.f0; have e4 := hSw.f1; have e5 := hSw.q0; have e6 := hSw.q1; go_simp; try with_reducible rfl
                            simp only [Act.put, List.setIfInBounds_toArray, List.set_cons_zero, List.set_cons_succ]
                            refine late_take (i := 14) (some 128) rfl rfl (by kernel_rfl) (by kernel_rfl) (by kernel_rfl) (by kernel_rfl) (by kernel_rfl) (fun _ _ _ h => h) (by rfl) (v := ?v14nvk1) ?hy14nvk1 hS ?rest14nvk1
                            case hy14nvk1 => intro w0 hSw; have e1 := hSw.o3; have e2 := hSw.b3; have e3 := hSw.f0; have e4 := hSw.f1; have e5 := hSw.q0; have e6 := hSw.q1; go_simp; try with_reducible rfl
                            simp only [Act.put, List.setIfInBounds_toArray, List.set_cons_zero, List.set_cons_succ]
                            refine late_take (i := 15) (some 129) rfl rfl (by kernel_rfl) (by kernel_rfl) (by kernel_rfl) (by kernel_rfl) (by kernel_rfl) (fun _ _ _ h => h) (by rfl) (v := ?v15nvk1) ?hy15nvk1 hS ?rest15nvk1
                            case hy15nvk1 => intro w0 hSw; have e1 := hSw.o3; have e2 := hSw.b3; have e3 := hSw.f0; have e4 := hSw.f1; have e5 := hSw.q0; have e6 := hSw.q1; go_simp; try with_reducible rfl
                            simp only [Act.put, List.setIfInBounds_toArray, List.set_cons_zero, List.set_cons_succ]
                            refine late_take (i := 16) (some 130) rfl rfl (by kernel_rfl) (by kernel_rfl) (by kernel_rfl) (by kernel_rfl) (by kernel_rfl) (fun _ _ _ h => h) (by rfl) (v := .bool true) ?hy16nvk1 hS ?rest16nvk1
                            case hy16nvk1 => intro w0 hSw; have e1 := hSw.o3; have e2 := hSw.b3; have e3 := hSw.f0; have e4 := hSw.f1; have e5 := hSw.q0; have e6 := hSw.q1; go_simp; try with_reducible rfl
                            simp only [Act.put, List.setIfInBounds_toArray, List.set_cons_zero, List.set_cons_succ]
                            refine late_take (i := 17) (some 131) rfl rfl (by kernel_rfl) (by kernel_rfl) (by kernel_rfl) (by kernel_rfl) (by kernel_rfl) (fun _ _ _ h => h) (by rfl) (v := ?v17nvk1) ?hy17nvk1 hS ?rest17nvk1
                            case hy17nvk1 => intro w0 hSw; have e1 := hSw.o3; have e2 := hSw.b3; have e3 := hSw.f0; have e4 := hSw.f1; have e5 := hSw.q0; have e6 := hSw.q1; go_simp; try with_reducible rfl
                            simp only [Act.put, List.setIfInBounds_toArray, List.set_cons_zero, List.set_cons_succ]
                            refine late_done (by kernel_rfl) ?_ _
                            refine NoPanic.normal ?_
                            clear hS hS0
                            go_wp2
                            go_roundg (i - (a + 1) + 1)
                            case measure => omega
                            case rel => exact ⟨a + 1, by go_num, by omega, by omega, HT2.out, HQ_v.out⟩
                          · skip
                            have hn1 : (N.toList == X.toList) = false := ne_list hNX
                            clear hN hV hyf
                            have hS0 : RdEd wk.drew gO w.heap.size g (a * 2) gq (oq + j * 2) (.slice (some ⟨g, 0, none⟩) i i) (.slice (some ⟨gq, oq, none⟩) n c) N V X Y := ⟨t3, u3, d0, d1, e0, e1⟩
                            have HQ_v := hid (show LEd w wk.drew #[.string M, .string T, .int .i64 k, .slice (some ⟨gq, oq, none⟩) n c] gO #[.string M, .string T, .int .i64 1, .slice (some ⟨g, 0, none⟩) i i] g F gh qn NS from HQ_wk.out.next ⟨rfl, rfl, rfl, Nat.le_refl _, fun _ _ => rfl⟩)
                            go_wp2
                            generalize hWv : wk.drew = v at hS0 HQ_v
                            refine wp_region_noPanic ?_
                            refine any_begin 18 (by kernel_rfl) (by kernel_rfl) ?_
                            rw [hWv]
                            clear hWv HQ_wk d0 d1 e0 e1 u0 u1 u2 u3 t0 t1 t2 t3
                            refine late_begin (fun U => RdEd U gO w.heap.size g (a * 2) gq (oq + j * 2) (.slice (some ⟨g, 0, none⟩) i i) (.slice (some ⟨gq, oq, none⟩) n c) N V X Y) (fun _ => false) hS0 (fun hS => ?_)
                            refine late_take (i := 0) (some 114) rfl rfl (by kernel_rfl) (by kernel_rfl) (by kernel_rfl) (by kernel_rfl) (by kernel_rfl) (fun _ _ _ h => h) (by rfl) (v := ?v0nnk1) ?hy0nnk1 hS ?rest0nnk1
                            case hy0nnk1 => intro w0 hSw; have e1 := hSw.o3; have e2 := hSw.b3; have e3 := hSw.f0; have e4 := hSw.f1; have e5 := hSw.q0; have e6 := hSw.q1; go_simp; try with_reducible rfl
                            simp only [Act.put, List.setIfInBounds_toArray, List.set_cons_zero, List.set_cons_succ]
                            refine late_take (i := 1) (some 115) rfl rfl (by kernel_rfl) (by kernel_rfl) (by kernel_rfl) (by kernel_rfl) (by kernel_rfl) (fun _ _ _ h => h) (by rfl) (v := ?v1nnk1) ?hy1nnk1 hS ?rest1nnk1
                            case hy1nnk1 => intro w0 hSw; have e1 := hSw.o3; have e2 := hSw.b3; have e3 := hSw.f0; have e4 := hSw.f1; have e5 := hSw.q0; have e6 := hSw.q1; go_simp; try with_reducible rfl
                            simp only [Act.put, List.setIfInBounds_toArray, List.set_cons_zero, List.set_cons_succ]
                            refine late_take (i := 2) (some 116) rfl rfl (by kernel_rfl) (by kernel_rfl) (by kernel_rfl) (by kernel_rfl) (by kernel_rfl) (fun _ _ _ h => h) (by rfl) (v := ?v2nnk1) ?hy2nnk1 hS ?rest2nnk1
                            case hy2nnk1 => intro w0 hSw; have e1 := hSw.o3; have e2 := hSw.b3; have e3 := hSw.f0; have e4 := hSw.f1; have e5 := hSw.q0; have e6 := hSw.q1; go_simp; try with_reducible rfl
                            simp only [Act.put, List.setIfInBounds_toArray, List.set_cons_zero, List.set_cons_succ]
                            refine late_take (i := 3) (some 117) rfl rfl (by kernel_rfl) (by kernel_rfl) (by kernel_rfl) (by kernel_rfl) (by kernel_rfl) (fun _ _ _ h => h) (by rfl) (v := ?v3nnk1) ?hy3nnk1 hS ?rest3nnk1
                            case hy3nnk1 => intro w0 hSw; have e1 := hSw.o3; have e2 := hSw.b3; have e3 := hSw.f0; have e4 := hSw.f1; have e5 := hSw.q0; have e6 := hSw.q1; go_simp; try with_reducible rfl
                            simp only [Act.put, List.setIfInBounds_toArray, List.set_cons_zero, List.set_cons_succ]
                            refine late_take (i := 4) (some 118) rfl rfl (by kernel_rfl) (by kernel_rfl) (by kernel_rfl) (by kernel_rfl) (by kernel_rfl) (fun _ _ _ h => h) (by rfl) (v := ?v4nnk1) ?hy4nnk1 hS ?rest4nnk1
                            case hy4nnk1 => intro w0 hSw; have e1 := hSw.o3; have e2 := hSw.b3; have e3 := hSw.f0; have e4 := hSw.f1; have e5 := hSw.q0; have e6 := hSw.q1; go_simp; try with_reducible rfl
                            simp only [Act.put, List.setIfInBounds_toArray, List.set_cons_zero, List.set_cons_succ]
                            refine late_take (i := 5) (some 119) rfl rfl (by kernel_rfl) (by kernel_rfl) (by kernel_rfl) (by kernel_rfl) (by kernel_rfl) (fun _ _ _ h => h) (by rfl) (v := ?v5nnk1) ?hy5nnk1 hS ?rest5nnk1
                            case hy5nnk1 => intro w0 hSw; have e1 := hSw.o3; have e2 := hSw.b3; have e3 := hSw.f0; have e4 := hSw.f1; have e5 := hSw.q0; have e6 := hSw.q1; go_simp; try with_reducible rfl
                            simp only [Act.put, List.setIfInBounds_toArray, List.set_cons_zero, List.set_cons_succ]
                            refine late_take (i := 6) (some 120) rfl rfl (by kernel_rfl) (by kernel_rfl) (by kernel_rfl) (by kernel_rfl) (by kernel_rfl) (fun _ _ _ h => h) (by rfl) (v := ?v6nnk1) ?hy6nnk1 hS ?rest6nnk1
                            case hy6nnk1 => intro w0 hSw; have e1 := hSw.o3; have e2 := hSw.b3; have e3 := hSw.f0; have e4 := hSw.f1; have e5 := hSw.q0; have e6 := hSw.q1; go_simp; try with_reducible rfl
                            simp only [Act.put, List.setIfInBounds_toArray, List.set_cons_zero, List.set_cons_succ]
                            refine late_take (i := 7) (some 121) rfl rfl (by kernel_rfl) (by kernel_rfl) (by kernel_rfl) (by kernel_rfl) (by kernel_rfl) (fun _ _ _ h => h) (by rfl) (v := ?v7nnk1) ?hy7nnk1 hS ?rest7nnk1
                            case hy7nnk1 => intro w0 hSw; have e1 := hSw.o3; have e2 := hSw.b3; have e3 := hSw.f0; have e4 := hSw.f1; have e5 := hSw.q0; have e6 := hSw.q1; go_simp; try with_reducible rfl
                            simp only [Act.put, List.setIfInBounds_toArray, List.set_cons_zero, List.set_cons_succ]
                            refine late_take (i := 8) (some 122) rfl rfl (by kernel_rfl) (by kernel_rfl) (by kernel_rfl) (by kernel_rfl) (by kernel_rfl) (fun _ _ _ h => h) (by rfl) (v := ?v8nnk1) ?hy8nnk1 hS ?rest8nnk1
                            case hy8nnk1 => intro w0 hSw; have e1 := hSw.o3; have e2 := hSw.b3; have e3 := hSw.f0; have e4 := hSw.f1; have e5 := hSw.q0; have e6 := hSw.q1; go_simp; try with_reducible rfl
                            simp only [Act.put, List.setIfInBounds_toArray, List.set_cons_zero, List.set_cons_succ]
                            refine late_take (i := 9) (some 123) rfl rfl (by kernel_rfl) (by kernel_rfl) (by kernel_rfl) (by kernel_rfl) (by kernel_rfl) (fun _ _ _ h => h) (by rfl) (v := ?v9nnk1) ?hy9nnk1 hS ?rest9nnk1
                            case hy9nnk1 => intro w0 hSw; have e1 := hSw.o3; have e2 := hSw.b3; have e3 := hSw.f0; have e4 := hSw.f1; have e5 := hSw.q0; have e6 := hSw.q1; go_simp; try with_reducible rfl
                            simp only [Act.put, List.setIfInBounds_toArray, List.set_cons_zero, List.set_cons_succ]
                            refine late_take (i := 10) (some 124) rfl rfl (by kernel_rfl) (by kernel_rfl) (by kernel_rfl) (by kernel_rfl) (by kernel_rfl) (fun _ _ _ h => h) (by rfl) (v := ?v10nnk1) ?hy10nnk1 hS ?rest10nnk1
                            case hy10nnk1 => intro w0 hSw; have e1 := hSw.o3; have e2 := hSw.b3; have e3 := hSw.f0; have e4 := hSw.f1; have e5 := hSw.q0; have e6 := hSw.q1; go_simp; try with_reducible rfl
                            simp only [Act.put, List.setIfInBounds_toArray, List.set_cons_zero, List.set_cons_succ]
                            refine late_take (i := 11) (some 125) rfl rfl (by kernel_rfl) (by kernel_rfl) (by kernel_rfl) (by kernel_rfl) (by kernel_rfl) (fun _ _ _ h => h) (by rfl) (v := ?v11nnk1) ?hy11nnk1 hS ?rest11nnk1
                            case hy11nnk1 => intro w0 hSw; have e1 := hSw.o3; have e2 := hSw.b3; have e3 := hSw.f0; have e4 := hSw.f1; have e5 := hSw.q0; have e6 := hSw.q1; go_simp; try with_reducible rfl
                            simp only [Act.put, List.setIfInBounds_toArray, List.set_cons_zero, List.set_cons_succ]
                            refine late_take (i := 12) (some 126) rfl rfl (by kernel_rfl) (by kernel_rfl) (by kernel_rfl) (by kernel_rfl) (by kernel_rfl) (fun _ _ _ h => h) (by rfl) (v := ?v12nnk1) ?hy12nnk1 hS ?rest12nnk1
                            case hy12nnk1 => intro w0 hSw; have e1 := hSw.o3; have e2 := hSw.b3; have e3 := hSw.f0; have e4 := hSw.f1; have e5 := hSw.q0; have e6 := hSw.q1; go_simp; try with_reducible rfl
                            simp only [Act.put, List.setIfInBounds_toArray, List.set_cons_zero, List.set_cons_succ]
                            refine late_take (i := 13) (some 127) rfl rfl (by kernel_rfl) (by kernel_rfl) (by kernel_rfl) (by kernel_rfl) (by kernel_rfl) (fun _ _ _ h => h) (by rfl) (v := ?v13nnk1) ?hy13nnk1 hS ?rest13nnk1
                            case hy13nnk1 => intro w0 hSw; have e1 := hSw.o3; have e2 := hSw.b3; have e3 := hSw.f0; have e4 := hSw.f1; have e5 := hSw.q0; have e6 := hSw.q1; go_simp; try with_reducible rfl
                            simp only [Act.put, List.setIfInBounds_toArray, List.set_cons_zero, List.set_cons_succ]
                            refine late_take (i := 14) (some 128) rfl rfl (by kernel_rfl) (by kernel_rfl) (by kernel_rfl) (by kernel_rfl) (by kernel_rfl) (fun _ _ _ h => h) (by rfl) (v := ?v14nnk1) ?hy14nnk1 hS ?rest14nnk1
                            case hy14nnk1 => intro w0 hSw; have e1 := hSw.o3; have e2 := hSw.b3; have e3 := hSw.f0; have e4 := hSw.f1; have e5 := hSw.q0; have e6 := hSw.q1; go_simp; try with_reducible rfl
                            simp only [Act.put, List.setIfInBounds_toArray, List.set_cons_zero, List.set_cons_succ]
                            refine late_take (i := 15) (some 129) rfl rfl (by kernel_rfl) (by kernel_rfl) (by kernel_rfl) (by kernel_rfl) (by kernel_rfl) (fun _ _ _ h => h) (by rfl) (v := ?v15nnk1) ?hy15nnk1 hS ?rest15nnk1
                            case hy15nnk1 => intro w0 hSw; have e1 := hSw.o3; have e2 := hSw.b3; have e3 := hSw.f0; have e4 := hSw.f1; have e5 := hSw.q0; have e6 := hSw.q1; go_simp; try with_reducible rfl
                            simp only [Act.put, List.setIfInBounds_toArray, List.set_cons_zero, List.set_cons_succ]
                            refine late_take (i := 16) (some 130) rfl rfl (by kernel_rfl) (by kernel_rfl) (by kernel_rfl) (by kernel_rfl) (by kernel_rfl) (fun _ _ _ h => h) (by rfl) (v := .bool true) ?hy16nnk1 hS ?rest16nnk1
                            case hy16nnk1 => intro w0 hSw; have e1 := hSw.o3; have e2 := hSw.b3; have e3 := hSw.f0; have e4 := hSw.f1; have e5 := hSw.q0; have e6 := hSw.q1; go_simp; try with_reducible rfl
                            simp only [Act.put, List.setIfInBounds_toArray, List.set_cons_zero, List.set_cons_succ]
                            refine late_take (i := 17) (some 131) rfl rfl (by kernel_rfl) (by kernel_rfl) (by kernel_rfl) (by kernel_rfl) (by kernel_rfl) (fun _ _ _ h => h) (by rfl) (v := ?v17nnk1) ?hy17nnk1 hS ?rest17nnk1
                            case hy17nnk1 => intro w0 hSw; have e1 := hSw.o3; have e2 := hSw.b3; have e3 := hSw.f0; have e4 := hSw.f1; have e5 := hSw.q0; have e6 := hSw.q1; go_simp; try with_reducible rfl
                            simp only [Act.put, List.setIfInBounds_toArray, List.set_cons_zero, List.set_cons_succ]
                            refine late_done (by kernel_rfl) ?_ _
                            refine NoPanic.normal ?_
                            clear hS hS0
                            go_wp2
                            go_roundg (i - (a + 1) + 1)
                            case measure => omega
                            case rel => exact ⟨a + 1, by go_num, by omega, by omega, HT2.out, HQ_v.out⟩
                | false =>
                  have HT := hid (HNo.out (by rw [hke]; rfl))
                  clear hke HNo HYe
                  go_wp2_with (first | (go_at_call 20; (with_reducible refine (HA5.out _ HQ_wj.out.hp).mono ?_); rintro e u5 ⟨rfl, hb⟩; have HQ_u5 := hid (HQ_wj.out.next hb); clear hb HA5) | (go_at_call 20; (with_reducible refine (HA6.out _ HQ_u5.out.nm).mono ?_); rintro e u6 ⟨rfl, hb⟩; have HQ_u6 := hid (HQ_u5.out.next hb); clear hb HA6) | (go_at_call 19; (with_reducible refine (HB5.out _).mono ?_); rintro e u7 ⟨rfl, hb⟩; have HQ_u7 := hid (HQ_u6.out.next hb); clear hb HB5))
                  go_roundg (n - (j + 1) + 1)
                  case measure => omega
                  case rel => exact ⟨j + 1, a, rfl, by go_num, by omega, rfl, hai, HT.out, HQ_u7.out⟩
              | false =>
                cases R6 with
                | true =>
                  have HT := hid (HNo.out (by rw [hke]; rfl))
                  clear hke HNo HYe
                  go_wp2_with (first | (go_at_call 20; (with_reducible refine (HA5.out _ HQ_wj.out.hp).mono ?_); rintro e u5 ⟨rfl, hb⟩; have HQ_u5 := hid (HQ_wj.out.next hb); clear hb HA5) | (go_at_call 20; (with_reducible refine (HA6.out _ HQ_u5.out.nm).mono ?_); rintro e u6 ⟨rfl, hb⟩; have HQ_u6 := hid (HQ_u5.out.next hb); clear hb HA6) | (go_at_call 20; (with_reducible refine (HA7.out _).mono ?_); rintro e u8 ⟨rfl, hb⟩; have HQ_u8 := hid ((HQ_u6.out.next (below_new _ _)).next hb); clear hb HA7))
                  go_roundg (n - (j + 1) + 1)
                  case measure => omega
                  case rel => exact ⟨j + 1, a, rfl, by go_num, by omega, rfl, hai, HT.out, HQ_u8.out⟩
                | false =>
                  have HT := hid (HYe.out (by rw [hke]; rfl))
                  clear hke HNo HYe HSb
                  go_wp2_with (first | (go_at_call 20; (with_reducible refine (HA5.out _ HQ_wj.out.hp).mono ?_); rintro e u5 ⟨rfl, hb⟩; have HQ_u5 := hid (HQ_wj.out.next hb); clear hb HA5) | (go_at_call 20; (with_reducible refine (HA6.out _ HQ_u5.out.nm).mono ?_); rintro e u6 ⟨rfl, hb⟩; have HQ_u6 := hid (HQ_u5.out.next hb); clear hb HA6) | (go_at_call 20; (with_reducible refine (HA7.out _).mono ?_); rintro e u8 ⟨rfl, hb⟩; have HQ_u8 := hid ((HQ_u6.out.next (below_new _ _)).next hb); clear hb HA7))
                  clear c0 c1 x0 x1 x2 x3
                  go_loopg [13] (i - a + 1) (fun gk s13 wr3 => ∃ a : Nat, s13 = .int .i64 (a : Int) ∧ gk = i - a + 1 ∧ a ≤ i ∧ List.Sublist (f :: (fs.drop (j + 1)).filter (keepE NS)) (F.drop a) ∧ LEd w wr3 #[.string M, .string T, .int .i64 k, .slice (some ⟨gq, oq, none⟩) n c] gO #[.string M, .string T, .int .i64 1, .slice (some ⟨g, 0, none⟩) i i] g F gh qn NS)
                  case atStart => exact ⟨a, rfl, rfl, hai, HT.out, HQ_u8.out⟩
                  case round =>
                    obtain ⟨a, rfl, rfl, hai, hsub, hq⟩ := hrel
                    rename World => wk
                    have HQ_wk := hid hq
                    have HSb := hid hsub
                    have hlt3 : a < i := by have h9 := sub_lt hsub; rw [HLs.out] at h9; exact h9
                    clear hq hsub HQ_u8 HT
                    obtain ⟨y, hy⟩ : ∃ y, F[a]? = some y := ⟨F[a]'(by rw [HLs.out]; exact hlt3), List.getElem?_eq_getElem (by rw [HLs.out]; exact hlt3)⟩
                    obtain ⟨gg, oo, hp, d0, d1⟩ := HQ_wk.out.row.fat a y hy
                    obtain ⟨rfl, rfl⟩ : g = gg ∧ 0 = oo := by injection hp with hp; injection hp with h1 h2; exact ⟨h1, h2⟩
                    rw [Nat.zero_add] at d0 d1
                    obtain ⟨gq2, oq2, hp2, e0, e1⟩ := (HF0.out.next HQ_wk.out.low) j f HFi.out
                    obtain ⟨rfl, rfl⟩ : gq = gq2 ∧ oq = oq2 := by injection hp2 with hp2; injection hp2 with h1 h2; exact ⟨h1, h2⟩
                    rw [HXX.out] at e0
                    rw [HYY.out] at e1
                    have HDy := hid (drop_atL hy)
                    have hltI3 : (a : Int) < (i : Int) := by omega
                    have hneI3 : ((a : Int) == (i : Int)) = false := by simp; omega
                    have hneI4 : ¬ (a : Int) = (i : Int) := by omega
                    have hwa : IntKind.i64.wrap ((a : Int) + 1) = (a : Int) + 1 := by rw [IntKind.wrap_i64]; omega
                    obtain ⟨u0, u1, u2, u3, _⟩ := cells4O HQ_wk.out.bx
                    obtain ⟨t0, t1, t2, t3, _⟩ := cells4O HQ_wk.out.ob
                    by_cases hyf : y = f
                    · as_aux_lemma =>
                        subst hyf
                        rw [HXX.out] at d0
                        rw [HYY.out] at d1
                        have HT2 := hid (show List.Sublist ((fs.drop (j + 1)).filter (keepE NS)) (F.drop (a + 1)) from sub_take (x := y) (by rw [← HDy.out]; exact HSb.out))
                        have hS0 : RdEd wk.drew gO w.heap.size g (a * 2) gq (oq + j * 2) (.slice (some ⟨g, 0, none⟩) i i) (.slice (some ⟨gq, oq, none⟩) n c) X Y X Y := ⟨t3, u3, d0, d1, e0, e1⟩
                        have HQ_v := hid (show LEd w wk.drew #[.string M, .string T, .int .i64 k, .slice (some ⟨gq, oq, none⟩) n c] gO #[.string M, .string T, .int .i64 1, .slice (some ⟨g, 0, none⟩) i i] g F gh qn NS from HQ_wk.out.next ⟨rfl, rfl, rfl, Nat.le_refl _, fun _ _ => rfl⟩)
                        go_wp2
                        generalize hWv : wk.drew = v at hS0 HQ_v
                        refine wp_region_noPanic ?_
                        refine any_begin 18 (by kernel_rfl) (by kernel_rfl) ?_
                        rw [hWv]
                        clear hWv HQ_wk d0 d1 e0 e1 u0 u1 u2 u3 t0 t1 t2 t3
                        refine late_begin (fun U => RdEd U gO w.heap.size g (a * 2) gq (oq + j * 2) (.slice (some ⟨g, 0, none⟩) i i) (.slice (some ⟨gq, oq, none⟩) n c) X Y X Y) (fun _ => false) hS0 (fun hS => ?_)
                        refine late_take (i := 0) (some 114) rfl rfl (by kernel_rfl) (by kernel_rfl) (by kernel_rfl) (by kernel_rfl) (by kernel_rfl) (fun _ _ _ h => h) (by rfl) (v := ?v0eqk2) ?hy0eqk2 hS ?rest0eqk2
                        case hy0eqk2 => intro w0 hSw; have e1 := hSw.o3; have e2 := hSw.b3; have e3 := hSw.f0; have e4 := hSw.f1; have e5 := hSw.q0; have e6 := hSw.q1; go_simp; try with_reducible rfl
                        simp only [Act.put, List.setIfInBounds_toArray, List.set_cons_zero, List.set_cons_succ]
                        refine late_take (i := 1) (some 115) rfl rfl (by kernel_rfl) (by kernel_rfl) (by kernel_rfl) (by kernel_rfl) (by kernel_rfl) (fun _ _ _ h => h) (by rfl) (v := ?v1eqk2) ?hy1eqk2 hS ?rest1eqk2
                        case hy1eqk2 => intro w0 hSw; have e1 := hSw.o3; have e2 := hSw.b3; have e3 := hSw.f0; have e4 := hSw.f1; have e5 := hSw.q0; have e6 := hSw.q1; go_simp; try with_reducible rfl
                        simp only [Act.put, List.setIfInBounds_toArray, List.set_cons_zero, List.set_cons_succ]
                        refine late_take (i := 2) (some 116) rfl rfl (by kernel_rfl) (by kernel_rfl) (by kernel_rfl) (by kernel_rfl) (by kernel_rfl) (fun _ _ _ h => h) (by rfl) (v := ?v2eqk2) ?hy2eqk2 hS ?rest2eqk2
                        case hy2eqk2 => intro w0 hSw; have e1 := hSw.o3; have e2 := hSw.b3; have e3 := hSw.f0; have e4 := hSw.f1; have e5 := hSw.q0; have e6 := hSw.q1; go_simp; try with_reducible rfl
                        simp only [Act.put, List.setIfInBounds_toArray, List.set_cons_zero, List.set_cons_succ]
                        refine late_take (i := 3) (some 117) rfl rfl (by kernel_rfl) (by kernel_rfl) (by kernel_rfl) (by kernel_rfl) (by kernel_rfl) (fun _ _ _ h => h) (by rfl) (v := ?v3eqk2) ?hy3eqk2 hS ?rest3eqk2
                        case hy3eqk2 => intro w0 hSw; have e1 := hSw.o3; have e2 := hSw.b3; have e3 := hSw.f0; have e4 := hSw.f1; have e5 := hSw.q0; have e6 := hSw.q1; go_simp; try with_reducible rfl
                        simp only [Act.put, List.setIfInBounds_toArray, List.set_cons_zero, List.set_cons_succ]
                        refine late_take (i := 4) (some 118) rfl rfl (by kernel_rfl) (by kernel_rfl) (by kernel_rfl) (by kernel_rfl) (by kernel_rfl) (fun _ _ _ h => h) (by rfl) (v := ?v4eqk2) ?hy4eqk2 hS ?rest4eqk2
                        case hy4eqk2 => intro w0 hSw; have e1 := hSw.o3; have e2 := hSw.b3; have e3 := hSw.f0; have e4 := hSw.f1; have e5 := hSw.q0; have e6 := hSw.q1; go_simp; try with_reducible rfl
                        simp only [Act.put, List.setIfInBounds_toArray, List.set_cons_zero, List.set_cons_succ]
                        refine late_take (i := 5) (some 119) rfl rfl (by kernel_rfl) (by kernel_rfl) (by kernel_rfl) (by kernel_rfl) (by kernel_rfl) (fun _ _ _ h => h) (by rfl) (v := ?v5eqk2) ?hy5eqk2 hS ?rest5eqk2
                        case hy5eqk2 => intro w0 hSw; have e1 := hSw.o3; have e2 := hSw.b3; have e3 := hSw.f0; have e4 := hSw.f1; have e5 := hSw.q0; have e6 := hSw.q1; go_simp; try with_reducible rfl
                        simp only [Act.put, List.setIfInBounds_toArray, List.set_cons_zero, List.set_cons_succ]
                        refine late_take (i := 6) (some 120) rfl rfl (by kernel_rfl) (by kernel_rfl) (by kernel_rfl) (by kernel_rfl) (by kernel_rfl) (fun _ _ _ h => h) (by rfl) (v := ?v6eqk2) ?hy6eqk2 hS ?rest6eqk2
                        case hy6eqk2 => intro w0 hSw; have e1 := hSw.o3; have e2 := hSw.b3; have e3 := hSw.f0; have e4 := hSw.f1; have e5 := hSw.q0; have e6 := hSw.q1; go_simp; try with_reducible rfl
                        simp only [Act.put, List.setIfInBounds_toArray, List.set_cons_zero, List.set_cons_succ]
                        refine late_take (i := 7) (some 121) rfl rfl (by kernel_rfl) (by kernel_rfl) (by kernel_rfl) (by kernel_rfl) (by kernel_rfl) (fun _ _ _ h => h) (by rfl) (v := ?v7eqk2) ?hy7eqk2 hS ?rest7eqk2
                        case hy7eqk2 => intro w0 hSw; have e1 := hSw.o3; have e2 := hSw.b3; have e3 := hSw.f0; have e4 := hSw.f1; have e5 := hSw.q0; have e6 := hSw.q1; go_simp; try with_reducible rfl
                        simp only [Act.put, List.setIfInBounds_toArray, List.set_cons_zero, List.set_cons_succ]
                        refine late_take (i := 8) (some 122) rfl rfl (by kernel_rfl) (by kernel_rfl) (by kernel_rfl) (by kernel_rfl) (by kernel_rfl) (fun _ _ _ h => h) (by rfl) (v := ?v8eqk2) ?hy8eqk2 hS ?rest8eqk2
                        case hy8eqk2 => intro w0 hSw; have e1 := hSw.o3; have e2 := hSw.b3; have e3 := hSw.f0; have e4 := hSw.f1; have e5 := hSw.q0; have e6 := hSw.q1; go_simp; try with_reducible rfl
                        simp only [Act.put, List.setIfInBounds_toArray, List.set_cons_zero, List.set_cons_succ]
                        refine late_take (i := 9) (some 123) rfl rfl (by kernel_rfl) (by kernel_rfl) (by kernel_rfl) (by kernel_rfl) (by kernel_rfl) (fun _ _ _ h => h) (by rfl) (v := ?v9eqk2) ?hy9eqk2 hS ?rest9eqk2
                        case hy9eqk2 => intro w0 hSw; have e1 := hSw.o3; have e2 := hSw.b3; have e3 := hSw.f0; have e4 := hSw.f1; have e5 := hSw.q0; have e6 := hSw.q1; go_simp; try with_reducible rfl
                        simp only [Act.put, List.setIfInBounds_toArray, List.set_cons_zero, List.set_cons_succ]
                        refine late_take (i := 10) (some 124) rfl rfl (by kernel_rfl) (by kernel_rfl) (by kernel_rfl) (by kernel_rfl) (by kernel_rfl) (fun _ _ _ h => h) (by rfl) (v := ?v10eqk2) ?hy10eqk2 hS ?rest10eqk2
                        case hy10eqk2 => intro w0 hSw; have e1 := hSw.o3; have e2 := hSw.b3; have e3 := hSw.f0; have e4 := hSw.f1; have e5 := hSw.q0; have e6 := hSw.q1; go_simp; try with_reducible rfl
                        simp only [Act.put, List.setIfInBounds_toArray, List.set_cons_zero, List.set_cons_succ]
                        refine late_take (i := 11) (some 125) rfl rfl (by kernel_rfl) (by kernel_rfl) (by kernel_rfl) (by kernel_rfl) (by kernel_rfl) (fun _ _ _ h => h) (by rfl) (v := ?v11eqk2) ?hy11eqk2 hS ?rest11eqk2
                        case hy11eqk2 => intro w0 hSw; have e1 := hSw.o3; have e2 := hSw.b3; have e3 := hSw.f0; have e4 := hSw.f1; have e5 := hSw.q0; have e6 := hSw.q1; go_simp; try with_reducible rfl
                        simp only [Act.put, List.setIfInBounds_toArray, List.set_cons_zero, List.set_cons_succ]
                        refine late_take (i := 12) (some 126) rfl rfl (by kernel_rfl) (by kernel_rfl) (by kernel_rfl) (by kernel_rfl) (by kernel_rfl) (fun _ _ _ h => h) (by rfl) (v := ?v12eqk2) ?hy12eqk2 hS ?rest12eqk2
                        case hy12eqk2 => intro w0 hSw; have e1 := hSw.o3; have e2 := hSw.b3; have e3 := hSw.f0; have e4 := hSw.f1; have e5 := hSw.q0; have e6 := hSw.q1; go_simp; try with_reducible rfl
                        simp only [Act.put, List.setIfInBounds_toArray, List.set_cons_zero, List.set_cons_succ]
                        refine late_take (i := 13) (some 127) rfl rfl (by kernel_rfl) (by kernel_rfl) (by kernel_rfl) (by kernel_rfl) (by kernel_rfl) (fun _ _ _ h => h) (by rfl) (v := ?v13eqk2) ?hy13eqk2 hS ?rest13eqk2
                        case hy13eqk2 => intro w0 hSw; have e1 := hSw.o3; have e2 := hSw.b3; have e3 := hSw.f0; have e4 := hSw.f1; have e5 := hSw.q0; have e6 := hSw.q1; go_simp; try with_reducible rfl
                        simp only [Act.put, List.setIfInBounds_toArray, List.set_cons_zero, List.set_cons_succ]
                        refine late_take (i := 14) (some 128) rfl rfl (by kernel_rfl) (by kernel_rfl) (by kernel_rfl) (by kernel_rfl) (by kernel_rfl) (fun _ _ _ h => h) (by rfl) (v := ?v14eqk2) ?hy14eqk2 hS ?rest14eqk2
                        case hy14eqk2 => intro w0 hSw; have e1 := hSw.o3; have e2 := hSw.b3; have e3 := hSw.f0; have e4 := hSw.f1; have e5 := hSw.q0; have e6 := hSw.q1; go_simp; try with_reducible rfl
                        simp only [Act.put, List.setIfInBounds_toArray, List.set_cons_zero, List.set_cons_succ]
                        refine late_take (i := 15) (some 129) rfl rfl (by kernel_rfl) (by kernel_rfl) (by kernel_rfl) (by kernel_rfl) (by kernel_rfl) (fun _ _ _ h => h) (by rfl) (v := ?v15eqk2) ?hy15eqk2 hS ?rest15eqk2
                        case hy15eqk2 => intro w0 hSw; have e1 := hSw.o3; have e2 := hSw.b3; have e3 := hSw.f0; have e4 := hSw.f1; have e5 := hSw.q0; have e6 := hSw.q1; go_simp; try with_reducible rfl
                        simp only [Act.put, List.setIfInBounds_toArray, List.set_cons_zero, List.set_cons_succ]
                        refine late_take (i := 16) (some 130) rfl rfl (by kernel_rfl) (by kernel_rfl) (by kernel_rfl) (by kernel_rfl) (by kernel_rfl) (fun _ _ _ h => h) (by rfl) (v := .bool false) ?hy16eqk2 hS ?rest16eqk2
                        case hy16eqk2 => intro w0 hSw; have e1 := hSw.o3; have e2 := hSw.b3; have e3 := hSw.f0; have e4 := hSw.f1; have e5 := hSw.q0; have e6 := hSw.q1; go_simp; try with_reducible rfl
                        simp only [Act.put, List.setIfInBounds_toArray, List.set_cons_zero, List.set_cons_succ]
                        refine late_take (i := 17) (some 131) rfl rfl (by kernel_rfl) (by kernel_rfl) (by kernel_rfl) (by kernel_rfl) (by kernel_rfl) (fun _ _ _ h => h) (by rfl) (v := ?v17eqk2) ?hy17eqk2 hS ?rest17eqk2
                        case hy17eqk2 => intro w0 hSw; have e1 := hSw.o3; have e2 := hSw.b3; have e3 := hSw.f0; have e4 := hSw.f1; have e5 := hSw.q0; have e6 := hSw.q1; go_simp; try with_reducible rfl
                        simp only [Act.put, List.setIfInBounds_toArray, List.set_cons_zero, List.set_cons_succ]
                        refine late_done (by kernel_rfl) ?_ _
                        refine NoPanic.normal ?_
                        clear hS hS0
                        obtain ⟨t0, t1, t2, t3, _⟩ := cells4O HQ_v.out.ob
                        go_wp2
                        go_roundg (n - (j + 1) + 1)
                        case measure => omega
                        case rel => exact ⟨j + 1, a + 1, by go_num, by go_num, by omega, rfl, by omega, HT2.out, HQ_v.out⟩
                    · as_aux_lemma =>
                        have HT2 := hid (show List.Sublist (f :: (fs.drop (j + 1)).filter (keepE NS)) (F.drop (a + 1)) from sub_step (y := y) (by rw [← HDy.out]; exact HSb.out) (fun e => hyf e.symm))
                        obtain ⟨N, hN⟩ : ∃ N, str y.1 = N := ⟨_, rfl⟩
                        obtain ⟨V, hV⟩ : ∃ V, str y.2 = V := ⟨_, rfl⟩
                        rw [hN] at d0
                        rw [hV] at d1
                        by_cases hNX : N = X
                        · rw [hNX] at d0
                          have hVY : ¬ V = Y := fun e => hyf (Prod.ext (str_inj (hN.trans (hNX.trans HXX.out.symm))) (str_inj (hV.trans (e.trans HYY.out.symm))))
                          have hv1 : (V.toList == Y.toList) = false := ne_list hVY
                          clear hN hV hyf hVY hNX
                          have hS0 : RdEd wk.drew gO w.heap.size g (a * 2) gq (oq + j * 2) (.slice (some ⟨g, 0, none⟩) i i) (.slice (some ⟨gq, oq, none⟩) n c) X V X Y := ⟨t3, u3, d0, d1, e0, e1⟩
                          have HQ_v := hid (show LEd w wk.drew #[.string M, .string T, .int .i64 k, .slice (some ⟨gq, oq, none⟩) n c] gO #[.string M, .string T, .int .i64 1, .slice (some ⟨g, 0, none⟩) i i] g F gh qn NS from HQ_wk.out.next ⟨rfl, rfl, rfl, Nat.le_refl _, fun _ _ => rfl⟩)
                          go_wp2
                          generalize hWv : wk.drew = v at hS0 HQ_v
                          refine wp_region_noPanic ?_
                          refine any_begin 18 (by kernel_rfl) (by kernel_rfl) ?_
                          rw [hWv]
                          clear hWv HQ_wk d0 d1 e0 e1 u0 u1 u2 u3 t0 t1 t2 t3
                          refine late_begin (fun U => RdEd U gO w.heap.size g (a * 2) gq (oq + j * 2) (.slice (some ⟨g, 0, none⟩) i i) (.slice (some ⟨gq, oq, none⟩) n c) X V X Y) (fun _ => false) hS0 (fun hS => ?_)
                          refine late_take (i := 0) (some 114) rfl rfl (by kernel_rfl) (by kernel_rfl) (by kernel_rfl) (by kernel_rfl) (by kernel_rfl) (fun _ _ _ h => h) (by rfl) (v := ?v0nvk2) ?hy0nvk2 hS ?rest0nvk2
                          case hy0nvk2 => intro w0 hSw; have e1 := hSw.o3; have e2 := hSw.b3; have e3 := hSw.f0; have e4 := hSw.f1; have e5 := hSw.q0; have e6 := hSw.q1; go_simp; try with_reducible rfl
                          simp only [Act.put, List.setIfInBounds_toArray, List.set_cons_zero, List.set_cons_succ]
                          refine late_take (i := 1) (some 115) rfl rfl (by kernel_rfl) (by kernel_rfl) (by kernel_rfl) (by kernel_rfl) (by kernel_rfl) (fun _ _ _ h => h) (by rfl) (v := ?v1nvk2) ?hy1nvk2 hS ?rest1nvk2
                          case hy1nvk2 => intro w0 hSw; have e1 := hSw.o3; have e2 := hSw.b3; have e3 := hSw.f0; have e4 := hSw.f1; have e5 := hSw.q0; have e6 := hSw.q1; go_simp; try with_reducible rfl
                          simp only [Act.put, List.setIfInBounds_toArray, List.set_cons_zero, List.set_cons_succ]
                          refine late_take (i := 2) (some 116) rfl rfl (by kernel_rfl) (by kernel_rfl) (by kernel_rfl) (by kernel_rfl) (by kernel_rfl) (fun _ _ _ h => h) (by rfl) (v := ?v2nvk2) ?hy2nvk2 hS ?rest2nvk2
                          case hy2nvk2 => intro w0 hSw; have e1 := hSw.o3; have e2 := hSw.b3; have e3 := hSw.f0; have e4 := hSw.f1; have e5 := hSw.q0; have e6 := hSw.q1; go_simp; try with_reducible rfl
                          simp only [Act.put, List.setIfInBounds_toArray, List.set_cons_zero, List.set_cons_succ]
                          refine late_take (i := 3) (some 117) rfl rfl (by kernel_rfl) (by kernel_rfl) (by kernel_rfl) (by kernel_rfl) (by kernel_rfl) (fun _ _ _ h => h) (by rfl) (v := ?v3nvk2) ?hy3nvk2 hS ?rest3nvk2
                          case hy3nvk2 => intro w0 hSw; have e1 := hSw.o3; have e2 := hSw.b3; have e3 := hSw.f0; have e4 := hSw.f1; have e5 := hSw.q0; have e6 := hSw.q1; go_simp; try with_reducible rfl
                          simp only [Act.put, List.setIfInBounds_toArray, List.set_cons_zero, List.set_cons_succ]
                          refine late_take (i := 4) (some 118) rfl rfl (by kernel_rfl) (by kernel_rfl) (by kernel_rfl) (by kernel_rfl) (by kernel_rfl) (fun _ _ _ h => h) (by rfl) (v := ?v4nvk2) ?hy4nvk2 hS ?rest4nvk2
                          case hy4nvk2 => intro w0 hSw; have e1 := hSw.o3; have e2 := hSw.b3; have e3 := hSw.f0; have e4 := hSw.f1; have e5 := hSw.q0; have e6 := hSw.q1; go_simp; try with_reducible rfl
                          simp only [Act.put, List.setIfInBounds_toArray, List.set_cons_zero, List.set_cons_succ]
                          refine late_take (i := 5) (some 119) rfl rfl (by kernel_rfl) (by kernel_rfl) (by kernel_rfl) (by kernel_rfl) (by kernel_rfl) (fun _ _ _ h => h) (by rfl) (v := ?v5nvk2) ?hy5nvk2 hS ?rest5nvk2
                          case hy5nvk2 => intro w0 hSw; have e1 := hSw.o3; have e2 := hSw.b3; have e3 := hSw.f0; have e4 := hSw.f1; have e5 := hSw.q0; have e6 := hSw.q1; go_simp; try with_reducible rfl
                          simp only [Act.put, List.setIfInBounds_toArray, List.set_cons_zero, List.set_cons_succ]
                          refine late_take (i := 6) (some 120) rfl rfl (by kernel_rfl) (by kernel_rfl) (by kernel_rfl) (by kernel_rfl) (by kernel_rfl) (fun _ _ _ h => h) (by rfl) (v := ?v6nvk2) ?hy6nvk2 hS ?rest6nvk2
                          case hy6nvk2 => intro w0 hSw; have e1 := hSw.o3; have e2 := hSw.b3; have e3 := hSw.f0; have e4 := hSw.f1; have e5 := hSw.q0; have e6 := hSw.q1; go_simp; try with_reducible rfl
                          simp only [Act.put, List.setIfInBounds_toArray, List.set_cons_zero, List.set_cons_succ]
                          refine late_take (i := 7) (some 121) rfl rfl (by kernel_rfl) (by kernel_rfl) (by kernel_rfl) (by kernel_rfl) (by kernel_rfl) (fun _ _ _ h => h) (by rfl) (v := ?v7nvk2) ?hy7nvk2 hS ?rest7nvk2
                          case hy7nvk2 => intro w0 hSw; have e1 := hSw.o3; have e2 := hSw.b3; have e3 := hSw.f0; have e4 := hSw.f1; have e5 := hSw.q0; have e6 := hSw.q1; go_simp; try with_reducible rfl
                          simp only [Act.put, List.setIfInBounds_toArray, List.set_cons_zero, List.set_cons_succ]
                          refine late_take (i := 8) (some 122) rfl rfl (by kernel_rfl) (by kernel_rfl) (by kernel_rfl) (by kernel_rfl) (by kernel_rfl) (fun _ _ _ h => h) (by rfl) (v := ?v8nvk2) ?hy8nvk2 hS ?rest8nvk2
                          case hy8nvk2 => intro w0 hSw; have e1 := hSw.o3; have e2 := hSw.b3; have e3 := hSw.f0; have e4 := hSw.f1; have e5 := hSw.q0; have e6 := hSw.q1; go_simp; try with_reducible rfl
                          simp only [Act.put, List.setIfInBounds_toArray, List.set_cons_zero, List.set_cons_succ]
                          refine late_take (i := 9) (some 123) rfl rfl (by kernel_rfl) (by kernel_rfl) (by kernel_rfl) (by kernel_rfl) (by kernel_rfl) (fun _ _ _ h => h) (by rfl) (v := ?v9nvk2) ?hy9nvk2 hS ?rest9nvk2
                          case hy9nvk2 => intro w0 hSw; have e1 := hSw.o3; have e2 := hSw.b3; have e3 := hSw.f0; have e4 := hSw.f1; have e5 := hSw.q0; have e6 := hSw.q1; go_simp; try with_reducible rfl
                          simp only [Act.put, List.setIfInBounds_toArray, List.set_cons_zero, List.set_cons_succ]
                          refine late_take (i := 10) (some 124) rfl rfl (by kernel_rfl) (by kernel_rfl) (by kernel_rfl) (by kernel_rfl) (by kernel_rfl) (fun _ _ _ h => h) (by rfl) (v := ?v10nvk2) ?hy10nvk2 hS ?rest10nvk2
                          case hy10nvk2 => intro w0 hSw; have e1 := hSw.o3; have e2 := hSw.b3; have e3 := hSw.f0; have e4 := hSw.f1; have e5 := hSw.q0; have e6 := hSw.q1; go_simp; try with_reducible rfl
                          simp only [Act.put, List.setIfInBounds_toArray, List.set_cons_zero, List.set_cons_succ]
                          refine late_take (i := 11) (some 125) rfl rfl (by kernel_rfl) (by kernel_rfl) (by kernel_rfl) (by kernel_rfl) (by kernel_rfl) (fun _ _ _ h => h) (by rfl) (v := ?v11nvk2) ?hy11nvk2 hS ?rest11nvk2
                          case hy11nvk2 => intro w0 hSw; have e1 := hSw.o3; have e2 := hSw.b3; have e3 := hSw.f0; have e4 := hSw.f1; have e5 := hSw.q0; have e6 := hSw.q1; go_simp; try with_reducible rfl
                          simp only [Act.put, List.setIfInBounds_toArray, List.set_cons_zero, List.set_cons_succ]
                          refine late_take (i := 12) (some 126) rfl rfl (by kernel_rfl) (by kernel_rfl) (by kernel_rfl) (by kernel_rfl) (by kernel_rfl) (fun _ _ _ h => h) (by rfl) (v := ?v12nvk2) ?hy12nvk2 hS ?rest12nvk2
                          case hy12nvk2 => intro w0 hSw; have e1 := hSw.o3; have e2 := hSw.b3; have e3 := hSw.f0; have e4 := hSw.f1; have e5 := hSw.q0; have e6 := hSw.q1; go_simp; try with_reducible rfl
                          simp only [Act.put, List.setIfInBounds_toArray, List.set_cons_zero, List.set_cons_succ]
                          refine late_take (i := 13) (some 127) rfl rfl (by kernel_rfl) (by kernel_rfl) (by kernel_rfl) (by kernel_rfl) (by kernel_rfl) (fun _ _ _ h => h) (by rfl) (v := ?v13nvk2) ?hy13nvk2 hS ?rest13nvk2
                          case hy13nvk2 => intro w0 hSw; have e1 := hSw.o3; have e2 := hSw.b3; have e3 := hSw.f0; have e4 := hSw.f1; have e5 := hSw.q0; have e6 := hSw.q1; go_simp; try with_reducible rfl
                          simp only [Act.put, List.setIfInBounds_toArray, List.set_cons_zero, List.set_cons_succ]
                          refine late_take (i := 14) (some 128) rfl rfl (by kernel_rfl) (by kernel_rfl) (by kernel_rfl) (by kernel_rfl) (by kernel_rfl) (fun _ _ _ h => h) (by rfl) (v := ?v14nvk2) ?hy14nvk2 hS ?rest14nvk2
                          case hy14nvk2 => intro w0 hSw; have e1 := hSw.o3; have e2 := hSw.b3; have e3 := hSw.f0; have e4 := hSw.f1; have e5 := hSw.q0; have e6 := hSw.q1; go_simp; try with_reducible rfl
                          simp only [Act.put, List.setIfInBounds_toArray, List.set_cons_zero, List.set_cons_succ]
                          refine late_take (i := 15) (some 129) rfl rfl (by kernel_rfl) (by kernel_rfl) (by kernel_rfl) (by kernel_rfl) (by kernel_rfl) (fun _ _ _ h => h) (by rfl) (v := ?v15nvk2) ?hy15nvk2 hS ?rest15nvk2
                          case hy15nvk2 => intro w0 hSw; have e1 := hSw.o3; have e2 := hSw.b3; have e3 := hSw.f0; have e4 := hSw.f1; have e5 := hSw.q0; have e6 := hSw.q1; go_simp; try with_reducible rfl
                          simp only [Act.put, List.setIfInBounds_toArray, List.set_cons_zero, List.set_cons_succ]
                          refine late_take (i := 16) (some 130) rfl rfl (by kernel_rfl) (by kernel_rfl) (by kernel_rfl) (by kernel_rfl) (by kernel_rfl) (fun _ _ _ h => h) (by rfl) (v := .bool true) ?hy16nvk2 hS ?rest16nvk2
                          case hy16nvk2 => intro w0 hSw; have e1 := hSw.o3; have e2 := hSw.b3; have e3 := hSw.f0; have e4 := hSw.f1; have e5 := hSw.q0; have e6 := hSw.q1; go_simp; try with_reducible rfl
                          simp only [Act.put, List.setIfInBounds_toArray, List.set_cons_zero, List.set_cons_succ]
                          refine late_take (i := 17) (some 131) rfl rfl (by kernel_rfl) (by kernel_rfl) (by kernel_rfl) (by kernel_rfl) (by kernel_rfl) (fun _ _ _ h => h) (by rfl) (v := ?v17nvk2) ?hy17nvk2 hS ?rest17nvk2
                          case hy17nvk2 => intro w0 hSw; have e1 := hSw.o3; have e2 := hSw.b3; have e3 := hSw.f0; have e4 := hSw.f1; have e5 := hSw.q0; have e6 := hSw.q1; go_simp; try with_reducible rfl
                          simp only [Act.put, List.setIfInBounds_toArray, List.set_cons_zero, List.set_cons_succ]
                          refine late_done (by kernel_rfl) ?_ _
                          refine NoPanic.normal ?_
                          clear hS hS0
                          go_wp2
                          go_roundg (i - (a + 1) + 1)
                          case measure => omega
                          case rel => exact ⟨a + 1, by go_num, by omega, by omega, HT2.out, HQ_v.out⟩
                        · skip
                          have hn1 : (N.toList == X.toList) = false := ne_list hNX
                          clear hN hV hyf
                          have hS0 : RdEd wk.drew gO w.heap.size g (a * 2) gq (oq + j * 2) (.slice (some ⟨g, 0, none⟩) i i) (.slice (some ⟨gq, oq, none⟩) n c) N V X Y := ⟨t3, u3, d0, d1, e0, e1⟩
                          have HQ_v := hid (show LEd w wk.drew #[.string M, .string T, .int .i64 k, .slice (some ⟨gq, oq, none⟩) n c] gO #[.string M, .string T, .int .i64 1, .slice (some ⟨g, 0, none⟩) i i] g F gh qn NS from HQ_wk.out.next ⟨rfl, rfl, rfl, Nat.le_refl _, fun _ _ => rfl⟩)
                          go_wp2
                          generalize hWv : wk.drew = v at hS0 HQ_v
                          refine wp_region_noPanic ?_
                          refine any_begin 18 (by kernel_rfl) (by kernel_rfl) ?_
                          rw [hWv]
                          clear hWv HQ_wk d0 d1 e0 e1 u0 u1 u2 u3 t0 t1 t2 t3
                          refine late_begin (fun U => RdEd U gO w.heap.size g (a * 2) gq (oq + j * 2) (.slice (some ⟨g, 0, none⟩) i i) (.slice (some ⟨gq, oq, none⟩) n c) N V X Y) (fun _ => false) hS0 (fun hS => ?_)
                          refine late_take (i := 0) (some 114) rfl rfl (by kernel_rfl) (by kernel_rfl) (by kernel_rfl) (by kernel_rfl) (by kernel_rfl) (fun _ _ _ h => h) (by rfl) (v := ?v0nnk2) ?hy0nnk2 hS ?rest0nnk2
                          case hy0nnk2 => intro w0 hSw; have e1 := hSw.o3; have e2 := hSw.b3; have e3 := hSw.f0; have e4 := hSw.f1; have e5 := hSw.q0; have e6 := hSw.q1; go_simp; try with_reducible rfl
                          simp only [Act.put, List.setIfInBounds_toArray, List.set_cons_zero, List.set_cons_succ]
                          refine late_take (i := 1) (some 115) rfl rfl (by kernel_rfl) (by kernel_rfl) (by kernel_rfl) (by kernel_rfl) (by kernel_rfl) (fun _ _ _ h => h) (by rfl) (v := ?v1nnk2) ?hy1nnk2 hS ?rest1nnk2
                          case hy1nnk2 => intro w0 hSw; have e1 := hSw.o3; have e2 := hSw.b3; have e3 := hSw.f0; have e4 := hSw.f1; have e5 := hSw.q0; have e6 := hSw.q1; go_simp; try with_reducible rfl
                          simp only [Act.put, List.setIfInBounds_toArray, List.set_cons_zero, List.set_cons_succ]
                          refine late_take (i := 2) (some 116) rfl rfl (by kernel_rfl) (by kernel_rfl) (by kernel_rfl) (by kernel_rfl) (by kernel_rfl) (fun _ _ _ h => h) (by rfl) (v := ?v2nnk2) ?hy2nnk2 hS ?rest2nnk2
                          case hy2nnk2 => intro w0 hSw; have e1 := hSw.o3; have e2 := hSw.b3; have e3 := hSw.f0; have e4 := hSw.f1; have e5 := hSw.q0; have e6 := hSw.q1; go_simp; try with_reducible rfl
                          simp only [Act.put, List.setIfInBounds_toArray, List.set_cons_zero, List.set_cons_succ]
                          refine late_take (i := 3) (some 117) rfl rfl (by kernel_rfl) (by kernel_rfl) (by kernel_rfl) (by kernel_rfl) (by kernel_rfl) (fun _ _ _ h => h) (by rfl) (v := ?v3nnk2) ?hy3nnk2 hS ?rest3nnk2
                          case hy3nnk2 => intro w0 hSw; have e1 := hSw.o3; have e2 := hSw.b3; have e3 := hSw.f0; have e4 := hSw.f1; have e5 := hSw.q0; have e6 := hSw.q1; go_simp; try with_reducible rfl
                          simp only [Act.put, List.setIfInBounds_toArray, List.set_cons_zero, List.set_cons_succ]
                          refine late_take (i := 4) (some 118) rfl rfl (by kernel_rfl) (by kernel_rfl) (by kernel_rfl) (by kernel_rfl) (by kernel_rfl) (fun _ _ _ h => h) (by rfl) (v := ?v4nnk2) ?hy4nnk2 hS ?rest4nnk2
                          case hy4nnk2 => intro w0 hSw; have e1 := hSw.o3; have e2 := hSw.b3; have e3 := hSw.f0; have e4 := hSw.f1; have e5 := hSw.q0; have e6 := hSw.q1; go_simp; try with_reducible rfl
                          simp only [Act.put, List.setIfInBounds_toArray, List.set_cons_zero, List.set_cons_succ]
                          refine late_take (i := 5) (some 119) rfl rfl (by kernel_rfl) (by kernel_rfl) (by kernel_rfl) (by kernel_rfl) (by kernel_rfl) (fun _ _ _ h => h) (by rfl) (v := ?v5nnk2) ?hy5nnk2 hS ?rest5nnk2
                          case hy5nnk2 => intro w0 hSw; have e1 := hSw.o3; have e2 := hSw.b3; have e3 := hSw.f0; have e4 := hSw.f1; have e5 := hSw.q0; have e6 := hSw.q1; go_simp; try with_reducible rfl
                          simp only [Act.put, List.setIfInBounds_toArray, List.set_cons_zero, List.set_cons_succ]
                          refine late_take (i := 6) (some 120) rfl rfl (by kernel_rfl) (by kernel_rfl) (by kernel_rfl) (by kernel_rfl) (by kernel_rfl) (fun _ _ _ h => h) (by rfl) (v := ?v6nnk2) ?hy6nnk2 hS ?rest6nnk2
                          case hy6nnk2 => intro w0 hSw; have e1 := hSw.o3; have e2 := hSw.b3; have e3 := hSw.f0; have e4 := hSw.f1; have e5 := hSw.q0; have e6 := hSw.q1; go_simp; try with_reducible rfl
                          simp only [Act.put, List.setIfInBounds_toArray, List.set_cons_zero, List.set_cons_succ]
                          refine late_take (i := 7) (some 121) rfl rfl (by kernel_rfl) (by kernel_rfl) (by kernel_rfl) (by kernel_rfl) (by kernel_rfl) (fun _ _ _ h => h) (by rfl) (v := ?v7nnk2) ?hy7nnk2 hS ?rest7nnk2
                          case hy7nnk2 => intro w0 hSw; have e1 := hSw.o3; have e2 := hSw.b3; have e3 := hSw.f0; have e4 := hSw.f1; have e5 := hSw.q0; have e6 := hSw.q1; go_simp; try with_reducible rfl
                          simp only [Act.put, List.setIfInBounds_toArray, List.set_cons_zero, List.set_cons_succ]
                          refine late_take (i := 8) (some 122) rfl rfl (by kernel_rfl) (by kernel_rfl) (by kernel_rfl) (by kernel_rfl) (by kernel_rfl) (fun _ _ _ h => h) (by rfl) (v := ?v8nnk2) ?hy8nnk2 hS ?rest8nnk2
                          case hy8nnk2 => intro w0 hSw; have e1 := hSw.o3; have e2 := hSw.b3; have e3 := hSw.f0; have e4 := hSw.f1; have e5 := hSw.q0; have e6 := hSw.q1; go_simp; try with_reducible rfl
                          simp only [Act.put, List.setIfInBounds_toArray, List.set_cons_zero, List.set_cons_succ]
                          refine late_take (i := 9) (some 123) rfl rfl (by kernel_rfl) (by kernel_rfl) (by kernel_rfl) (by kernel_rfl) (by kernel_rfl) (fun _ _ _ h => h) (by rfl) (v := ?v9nnk2) ?hy9nnk2 hS ?rest9nnk2
                          case hy9nnk2 => intro w0 hSw; have e1 := hSw.o3; have e2 := hSw.b3; have e3 := hSw.f0; have e4 := hSw.f1; have e5 := hSw.q0; have e6 := hSw.q1; go_simp; try with_reducible rfl
                          simp only [Act.put, List.setIfInBounds_toArray, List.set_cons_zero, List.set_cons_succ]
                          refine late_take (i := 10) (some 124) rfl rfl (by kernel_rfl) (by kernel_rfl) (by kernel_rfl) (by kernel_rfl) (by kernel_rfl) (fun _ _ _ h => h) (by rfl) (v := ?v10nnk2) ?hy10nnk2 hS ?rest10nnk2
                          case hy10nnk2 => intro w0 hSw; have e1 := hSw.o3; have e2 := hSw.b3; have e3 := hSw.f0; have e4 := hSw.f1; have e5 := hSw.q0; have e6 := hSw.q1; go_simp; try with_reducible rfl
                          simp only [Act.put, List.setIfInBounds_toArray, List.set_cons_zero, List.set_cons_succ]
                          refine late_take (i := 11) (some 125) rfl rfl (by kernel_rfl) (by kernel_rfl) (by kernel_rfl) (by kernel_rfl) (by kernel_rfl) (fun _ _ _ h => h) (by rfl) (v := ?v11nnk2) ?hy11nnk2 hS ?rest11nnk2
                          case hy11nnk2 => intro w0 hSw; have e1 := hSw.o3; have e2 := hSw.b3; have e3 := hSw.f0; have e4 := hSw.f1; have e5 := hSw.q0; have e6 := hSw.q1; go_simp; try with_reducible rfl
                          simp only [Act.put, List.setIfInBounds_toArray, List.set_cons_zero, List.set_cons_succ]
                          refine late_take (i := 12) (some 126) rfl rfl (by kernel_rfl) (by kernel_rfl) (by kernel_rfl) (by kernel_rfl) (by kernel_rfl) (fun _ _ _ h => h) (by rfl) (v := ?v12nnk2) ?hy12nnk2 hS ?rest12nnk2
                          case hy12nnk2 => intro w0 hSw; have e1 := hSw.o3; have e2 := hSw.b3; have e3 := hSw.f0; have e4 := hSw.f1; have e5 := hSw.q0; have e6 := hSw.q1; go_simp; try with_reducible rfl
                          simp only [Act.put, List.setIfInBounds_toArray, List.set_cons_zero, List.set_cons_succ]
                          refine late_take (i := 13) (some 127) rfl rfl (by kernel_rfl) (by kernel_rfl) (by kernel_rfl) (by kernel_rfl) (by kernel_rfl) (fun _ _ _ h => h) (by rfl) (v := ?v13nnk2) ?hy13nnk2 hS ?rest13nnk2
                          case hy13nnk2 => intro w0 hSw; have e1 := hSw.o3; have e2 := hSw.b3; have e3 := hSw.f0; have e4 := hSw.f1; have e5 := hSw.q0; have e6 := hSw.q1; go_simp; try with_reducible rfl
                          simp only [Act.put, List.setIfInBounds_toArray, List.set_cons_zero, List.set_cons_succ]
                          refine late_take (i := 14) (some 128) rfl rfl (by kernel_rfl) (by kernel_rfl) (by kernel_rfl) (by kernel_rfl) (by kernel_rfl) (fun _ _ _ h => h) (by rfl) (v := ?v14nnk2) ?hy14nnk2 hS ?rest14nnk2
                          case hy14nnk2 => intro w0 hSw; have e1 := hSw.o3; have e2 := hSw.b3; have e3 := hSw.f0; have e4 := hSw.f1; have e5 := hSw.q0; have e6 := hSw.q1; go_simp; try with_reducible rfl
                          simp only [Act.put, List.setIfInBounds_toArray, List.set_cons_zero, List.set_cons_succ]
                          refine late_take (i := 15) (some 129) rfl rfl (by kernel_rfl) (by kernel_rfl) (by kernel_rfl) (by kernel_rfl) (by kernel_rfl) (fun _ _ _ h => h) (by rfl) (v := ?v15nnk2) ?hy15nnk2 hS ?rest15nnk2
                          case hy15nnk2 => intro w0 hSw; have e1 := hSw.o3; have e2 := hSw.b3; have e3 := hSw.f0; have e4 := hSw.f1; have e5 := hSw.q0; have e6 := hSw.q1; go_simp; try with_reducible rfl
                          simp only [Act.put, List.setIfInBounds_toArray, List.set_cons_zero, List.set_cons_succ]
                          refine late_take (i := 16) (some 130) rfl rfl (by kernel_rfl) (by kernel_rfl) (by kernel_rfl) (by kernel_rfl) (by kernel_rfl) (fun _ _ _ h => h) (by rfl) (v := .bool true) ?hy16nnk2 hS ?rest16nnk2
                          case hy16nnk2 => intro w0 hSw; have e1 := hSw.o3; have e2 := hSw.b3; have e3 := hSw.f0; have e4 := hSw.f1; have e5 := hSw.q0; have e6 := hSw.q1; go_simp; try with_reducible rfl
                          simp only [Act.put, List.setIfInBounds_toArray, List.set_cons_zero, List.set_cons_succ]
                          refine late_take (i := 17) (some 131) rfl rfl (by kernel_rfl) (by kernel_rfl) (by kernel_rfl) (by kernel_rfl) (by kernel_rfl) (fun _ _ _ h => h) (by rfl) (v := ?v17nnk2) ?hy17nnk2 hS ?rest17nnk2
                          case hy17nnk2 => intro w0 hSw; have e1 := hSw.o3; have e2 := hSw.b3; have e3 := hSw.f0; have e4 := hSw.f1; have e5 := hSw.q0; have e6 := hSw.q1; go_simp; try with_reducible rfl
                          simp only [Act.put, List.setIfInBounds_toArray, List.set_cons_zero, List.set_cons_succ]
                          refine late_done (by kernel_rfl) ?_ _
                          refine NoPanic.normal ?_
                          clear hS hS0
                          go_wp2
                          go_roundg (i - (a + 1) + 1)
                          case measure => omega
                          case rel => exact ⟨a + 1, by go_num, by omega, by omega, HT2.out, HQ_v.out⟩
          · obtain rfl : j = n := by omega
            have hltI : ¬ (j : Int) < (j : Int) := by omega
            clear hlt HSb
            go_wp2_with (first | (go_at_call 10; (with_reducible refine (HS1.out _ HQ_wj.out.low).mono ?_); rintro e r1 ⟨v1, rfl, ho, hb⟩; obtain ⟨q1, d1, rfl⟩ := own_slice ho; have HL1 := hid (below_out HQ_wj.out.low hb); have HO1 := hid (OwnF.fat ho); clear hb ho HS1) | (go_at_call 10; (with_reducible refine (HS2.out _ _ _ _ HL1.out rfl HO1.out).mono ?_); rintro e r2 ⟨v2, rfl, ho, hb⟩; obtain ⟨q2, d2, rfl⟩ := own_slice ho; have HL2 := hid (below_out HL1.out hb); have HO2 := hid (OwnF.fat ho); have HO3 := hid (HO1.out.next hb); clear hb ho HS2) | (go_at_call 9; (with_reducible refine (HSm.out _ XS _ _ _ _ _ rfl HO2.out HO3.out HlS.out).mono ?_); rintro e r3 ⟨rfl, hb⟩; have HL3 := hid (below_out HL2.out hb); clear hb HSm) | (go_at_call 5; (with_reducible refine (HWk.out _ HL3.out).mono ?_); rintro e r4 ⟨rfl, hb⟩; have HL4 := hid (below_out HL3.out hb); clear hb HWk))
            go_ret
            exact ⟨rfl, HL4.out⟩
  · have HRq := hid (fun (W : World) (hb : Below w.heap.size w W) => (HRq1.out W hb).mono (R' := fun e w' => e = .returned (.tuple #[.agg #[.string ⟨#[]⟩, .string ⟨#[]⟩, .int .i64 0, .slice none 0 0], .iface 69 (.int .i64 (greatE F.length (reqE m t 1 F) : Int))]) ∧ Below W.heap.size W w') (by
      rintro e w' (⟨_, h2⟩ | ⟨h1, _⟩)
      · exact h2
      · exact absurd h1 hge))
    obtain ⟨ge, hg9⟩ : ∃ ge : Int, (greatE F.length (reqE m t 1 F) : Int) = ge := ⟨_, rfl⟩
    rw [hg9] at HRq
    clear hF hsz hn hmx hE hm ht hL0 hL1 hNS hnk hXS hFF hs hM hT hzs hls hFz hcn hks hnz HMx HRq0 HRq1 hge hg9
    go_enter Tryd.func4, Tryd.ntmps4
    obtain ⟨y0, y1, y2, y3, _⟩ := cells4O HR0.out
    go_wp2_with (first | (go_at_call 18; (with_reducible refine (HRq.out _ HB0.out).mono ?_); rintro e w1 ⟨rfl, hb⟩; have HB1 := hid (below_out (below_out HB0.out hb) (below_new w1 (.cells #[.string ⟨#[]⟩, .string ⟨#[]⟩, .int .i64 0, .slice none 0 0] 35 (0, 0)))); clear hb HRq y0 y1 y2 y3) | (go_at_call 5; (with_reducible refine (HWk.out _ HB1.out).mono ?_); rintro e w2 ⟨rfl, hb⟩; have HB2 := hid (below_out HB1.out hb); clear hb HWk))
    go_ret
    exact ⟨rfl, HB2.out⟩
end Go.Proofs.YtnlmjlfoeodleaaDoor
