/- The law of smuggling. -/
import Derived.Test.YthakldcfpndabaaDoorLFlds
import Derived.Test.YthakldcfpndabaaDoorLBackF
import Derived.Test.YthakldcfpndabaaDoorFDig
namespace Go.Proofs.YthakldcfpndabaaDoor
open Go.RowKit

def lclB : B := [99, 111, 110, 116, 101, 110, 116, 45, 108, 101, 110, 103, 116, 104]
def lteB : B := [116, 114, 97, 110, 115, 102, 101, 114, 45, 101, 110, 99, 111, 100, 105, 110, 103]
def uclB : B := [67, 79, 78, 84, 69, 78, 84, 45, 76, 69, 78, 71, 84, 72]
theorem same_smug : sameB (str lclB) clN = true ∧ sameB (str lteB) teN = true ∧ sameB (str clB) clN = true ∧ sameB (str uclB) clN = true := by decide +kernel
def smugA (fs : List (B × B)) (i a : Nat) : List (B × B) := fs.take i ++ [(lclB, told 10 a), (lteB, chB)] ++ fs.drop i
def smugB (fs : List (B × B)) (i a b : Nat) : List (B × B) := fs.take i ++ [(clB, told 10 a), (uclB, told 10 b)] ++ fs.drop i
theorem vals_two (x y : B × B) (nm : ByteArray) : valsB [x, y] nm = valsB [x] nm ++ valsB [y] nm := vals_app [x] [y] nm
theorem smugA_frm (fs : List (B × B)) (i a : Nat) (k o : Int) : (frmF k (smugA fs i a) o).2 = 30 := by
  obtain ⟨s1, s2, _, _⟩ := same_smug
  refine both_frm k o ?_ ?_
  · unfold smugA
    rw [vals_app, vals_app, vals_two, vals_one, if_pos s1]
    simp
  · unfold smugA
    rw [vals_app, vals_app, vals_two, vals_one (lteB, chB), if_pos s2]
    simp
theorem smugB_frm (fs : List (B × B)) (i a b : Nat) (ha : a < 1000) (hb : b < 1000) (hab : a ≠ b) (k o : Int) : (frmF k (smugB fs i a b) o).2 = 30 := by
  obtain ⟨_, _, s3, s4⟩ := same_smug
  refine part_frm k o (x := str (told 10 a)) (y := str (told 10 b)) (n := a) (m := b) ?_ ?_ (oneN_told a (by omega)) (oneN_told b (by omega)) (by omega)
  · unfold smugB
    rw [vals_app, vals_app, vals_two, vals_one, if_pos s3]
    simp
  · unfold smugB
    rw [vals_app, vals_app, vals_two, vals_one (uclB, told 10 b), if_pos s4]
    simp
theorem smug_len (fs : List (B × B)) (i : Nat) (x y : B × B) : (fs.take i ++ [x, y] ++ fs.drop i).length = fs.length + 2 := by
  simp
  omega
theorem smug_szB {fs : List (B × B)} (i : Nat) {x y : B × B} (h : szB fs) (hx : x.1.length ≤ 1048576 ∧ x.2.length ≤ 1048576) (hy : y.1.length ≤ 1048576 ∧ y.2.length ≤ 1048576) : szB (fs.take i ++ [x, y] ++ fs.drop i) := by
  intro f hf
  rcases List.mem_append.1 hf with h1 | h1
  · rcases List.mem_append.1 h1 with h2 | h2
    · exact h f (List.mem_of_mem_take h2)
    · simp at h2
      rcases h2 with rfl | rfl
      · exact hx
      · exact hy
  · exact h f (List.mem_of_mem_drop h1)
/-- What is left of a row behind a cut. -/
theorem FAt.take {w : World} {p : Option Addr} {fs : List (B × B)} (h : FAt w p fs) (i : Nat) : FAt w p (fs.take i) := fun j f hj => h j f (by
  rw [List.getElem?_take] at hj
  split at hj
  · exact hj
  · cases hj)
theorem FAt.drop {w : World} {g o : Nat} {fs : List (B × B)} (h : FAt w (some ⟨g, o, none⟩) fs) (i : Nat) : FAt w (some ⟨g, o + i * 2, none⟩) (fs.drop i) := fun j f hj => by
  rw [List.getElem?_drop] at hj
  obtain ⟨g', o', e, c0, c1⟩ := h (i + j) f hj
  cases e
  refine ⟨g, o + i * 2, rfl, ?_, ?_⟩
  · rw [show o + i * 2 + j * 2 = o + (i + j) * 2 by omega]; exact c0
  · rw [show o + i * 2 + j * 2 + 1 = o + (i + j) * 2 + 1 by omega]; exact c1
theorem uwrap_bd (x : Int) : 0 ≤ IntKind.u64.wrap x ∧ IntKind.u64.wrap x < 18446744073709551616 := by rw [IntKind.wrap_u64]; omega
theorem rem_at (x : Int) (n : Nat) (h : 0 < n) : ∃ a : Nat, a < n ∧ (IntKind.u64.wrap x).tmod (n : Int) = (a : Int) := by
  have hb := uwrap_bd x
  refine ⟨((IntKind.u64.wrap x).tmod (n : Int)).toNat, ?_, ?_⟩
  · have := Int.tmod_lt_of_pos (IntKind.u64.wrap x) (show (0 : Int) < (n : Int) by omega)
    have h2 := Int.tmod_nonneg (n : Int) hb.1
    omega
  · rw [Int.toNat_of_nonneg (Int.tmod_nonneg (n : Int) hb.1)]
theorem wrapN (n : Nat) (h : n ≤ 1048576) : IntKind.u64.wrap (n : Int) = (n : Int) := by rw [IntKind.wrap_u64]; omega
theorem wrapI (n : Nat) (h : n ≤ 1048576) : IntKind.i64.wrap (n : Int) = (n : Int) := by rw [IntKind.wrap_i64]; omega
theorem arr2 {w : World} (x0 x1 : Int) (T : TypeId) : RdK (w.alloc (.cells #[.int .i64 x0, .int .i64 x1] T (0, 0))) w.heap.size x0 x1 := by
  have h := heap_alloc_new w (.cells #[.int .i64 x0, .int .i64 x1] T (0, 0))
  exact ⟨(cells2 h).a0, (cells2 h).a1⟩
theorem wp_append_own_noneF {P : Program} {w : World} {o : Oper} {a : Act} {K : Act → World → Prop} {Q : Exit → Act → World → Prop} (s x : Operand) (t : TypeId)
    (ho : o.op = .call { callee := .builtin .append, args := #[s, x], argTypes := #[t, t] })
    (base : Nat) (e : TypeId) (i : TypeInfo) (size : Nat) (ht : P.underlying t = some (.slice e)) (hi : P.info? e = some i)
    (v : Value) (n : Nat) (xs : List Value) (hs : a.eval s = v) (hown : w.ownsRow base e size v n xs) (hx : a.eval x = .slice none 0 0)
    (h : K (a.put o.dst v) w) : o.wp P a w K Q := by
  have hrun := run_append_owned_none (P := P) (w := w) base t o.type e i size ht hi v n xs hown
  unfold Oper.wp
  simp [execOp, ho, resolve, invoke, builtin, hs, hx, hrun, Result.andThen]
  exact h
set_option maxRecDepth 20000 in
set_option maxHeartbeats 16000000 in
theorem smug_pos (fs : List (B × B)) (g o : Nat) (n c : Nat) (hn : fs.length = n) (hc : n ≤ c) (hp : 0 < n) (x0 x1 wh : Int) (w : World) (hF : FAt w (some ⟨g, o, none⟩) fs) (hsz : szB fs) (hnn : n + 2 ≤ 1048576) (hmx : MxL w) (hE : EnvE w) :
    Calls Tryd.prog 7 #[.slice (some ⟨g, o, none⟩) n c, .agg #[.int .i64 x0, .int .i64 x1], .int .i64 wh] w fun e w' => e = .returned (.bool true) ∧ Below w.heap.size w w' := by
  obtain ⟨a, ha, hae⟩ := rem_at x0 1000 (by decide)
  obtain ⟨b, hb, hbe⟩ := rem_at x1 1000 (by decide)
  have HAe := hid (show Value.int .u64 ((IntKind.u64.wrap x0).tmod 1000) = .int .u64 (a : Int) from by rw [show (1000 : Int) = ((1000 : Nat) : Int) from rfl, hae])
  have HBe := hid (show Value.int .u64 ((IntKind.u64.wrap x1).tmod 1000) = .int .u64 (b : Int) from by rw [show (1000 : Int) = ((1000 : Nat) : Int) from rfl, hbe])
  have HAw := hid (wrapI a (by omega))
  have HBw := hid (wrapI b (by omega))
  obtain ⟨i, hi, hie⟩ := rem_at wh n hp
  have HIe : Value.int .i64 (wrap64 ((IntKind.u64.wrap wh).tmod (n : Int))) = .int .i64 (i : Int) := by rw [hie, show wrap64 (i : Int) = (i : Int) from by unfold wrap64; omega]
  clear hie
  clear hae hbe
  have hlA : (smugA fs i a).length = n + 2 := by unfold smugA; rw [smug_len, hn]
  have hlB : (smugB fs i a b).length = n + 2 := by unfold smugB; rw [smug_len, hn]
  have hta := told_len a
  have htb := told_len b
  have hzA : szB (smugA fs i a) := smug_szB i hsz ⟨by show lclB.length ≤ 1048576; decide, by show (told 10 a).length ≤ 1048576; omega⟩ ⟨by decide, by decide⟩
  have hzB : szB (smugB fs i a b) := smug_szB i hsz ⟨by show clB.length ≤ 1048576; decide, by show (told 10 a).length ≤ 1048576; omega⟩ ⟨by show uclB.length ≤ 1048576; decide, by show (told 10 b).length ≤ 1048576; omega⟩
  have HQA := hid (show ∀ (W : World) (p : Option Addr) (d : Nat), Below w.heap.size w W → FAt W p (smugA fs i a) → _ from fun W p d hb h => prequest ⟨#[]⟩ ⟨#[]⟩ 1 (smugA fs i a) p (n + 2) d hlA W h hzA hnn (hmx.next hb))
  have HQB := hid (show ∀ (W : World) (p : Option Addr) (d : Nat), Below w.heap.size w W → FAt W p (smugB fs i a b) → _ from fun W p d hb h => prequest ⟨#[]⟩ ⟨#[]⟩ 1 (smugB fs i a b) p (n + 2) d hlB W h hzB hnn (hmx.next hb))
  have hEA := smugA_frm fs i a 1 0
  have hEB : a ≠ b → (frmF 1 (smugB fs i a b) 0).2 = 30 := fun h => smugB_frm fs i a b ha hb h 1 0
  obtain ⟨⟨⟨KA, NA⟩, EA⟩, hA⟩ : ∃ x, frmF 1 (smugA fs i a) 0 = x := ⟨_, rfl⟩
  obtain ⟨⟨⟨KB, NB⟩, EB⟩, hB⟩ : ∃ x, frmF 1 (smugB fs i a b) 0 = x := ⟨_, rfl⟩
  rw [hA] at HQA hEA
  rw [hB] at HQB hEB
  dsimp only [frmV] at HQA HQB hEA hEB
  subst hEA
  rw [show errOf 30 = .iface 83 (.int .i64 30) from rfl] at HQA
  have HNm := hid (show ∀ W : World, Below w.heap.size w W → _ from fun W hb => num_any 30 W (hE.next hb))
  rw [show errOf 30 = .iface 83 (.int .i64 30) from rfl] at HNm
  have HSu := hid (show ∀ W : World, Below w.heap.size w W → _ from fun W hb => sure11_any W (hmx.next hb))
  have HDa := hid (show ∀ W : World, _ from fun W => digits_any a ha W)
  have HDb := hid (show ∀ W : World, _ from fun W => digits_any b hb W)
  have HEB := hid hEB
  obtain ⟨TA, hTA⟩ : ∃ T, str (told 10 a) = T := ⟨_, rfl⟩
  obtain ⟨TB, hTB⟩ : ∃ T, str (told 10 b) = T := ⟨_, rfl⟩
  rw [hTA] at HDa
  rw [hTB] at HDb
  have HTA := hid hTA
  have HTB := hid hTB
  obtain ⟨i0, hi0, hz0, hz1, hz2⟩ := info_parts infoF
  have HL := hid hn
  have HS0 := hid (arr2 (w := w) x0 x1 62)
  have HB0 := hid (below_new w (.cells #[.int .i64 x0, .int .i64 x1] 62 (0, 0)))
  have HF := hid hF
  have HFt := hid (show ∀ W : World, Below w.heap.size w W → FAt W (some ⟨g, o, none⟩) (fs.take i) from fun W hb => (HF.out.next hb).take i)
  have HFd := hid (show ∀ W : World, Below w.heap.size w W → FAt W (some ⟨g, o + i * 2, none⟩) (fs.drop i) from fun W hb => (HF.out.next hb).drop i)
  have HLt := hid (show (fs.take i).length = i from by rw [List.length_take, HL.out]; omega)
  have HLd := hid (show (fs.drop i).length = n - i from by rw [List.length_drop, HL.out])
  clear hF
  clear hlA hlB hta htb hzA hzB hA hB hEB hTA hTB hn hsz hmx hE
  go_enter Tryd.func7, Tryd.ntmps7
  go_wp2
  have hS0 : RdK (w.alloc (.cells #[.int .i64 x0, .int .i64 x1] 62 (0, 0))).drew w.heap.size x0 x1 := ⟨HS0.out.a0, HS0.out.a1⟩
  refine wp_region_noPanic ?_
  refine any_begin 12 (by kernel_rfl) (by kernel_rfl) ?_
  refine late_begin (fun U => RdK U w.heap.size x0 x1) (fun _ => false) hS0 (fun hS => ?_)
  refine late_take (i := 0) (some 16) rfl rfl (by kernel_rfl) (by kernel_rfl) (by kernel_rfl) (by kernel_rfl) (by kernel_rfl) (fun _ _ _ h => h) (by rfl) (v := ?v0r) ?hy0r hS ?rest0r
  case hy0r => intro w0 hSw; obtain ⟨a0, a1⟩ := hSw; go_simp; try with_reducible rfl
  simp only [Act.put, List.setIfInBounds_toArray, List.set_cons_zero, List.set_cons_succ]
  refine late_take (i := 1) (some 17) rfl rfl (by kernel_rfl) (by kernel_rfl) (by kernel_rfl) (by kernel_rfl) (by kernel_rfl) (fun _ _ _ h => h) (by rfl) (v := ?v1r) ?hy1r hS ?rest1r
  case hy1r => intro w0 hSw; obtain ⟨a0, a1⟩ := hSw; go_simp; try with_reducible rfl
  simp only [Act.put, List.setIfInBounds_toArray, List.set_cons_zero, List.set_cons_succ]
  refine late_take (i := 2) (some 18) rfl rfl (by kernel_rfl) (by kernel_rfl) (by kernel_rfl) (by kernel_rfl) (by kernel_rfl) (fun _ _ _ h => h) (by rfl) (v := ?v2r) ?hy2r hS ?rest2r
  case hy2r => intro w0 hSw; obtain ⟨a0, a1⟩ := hSw; go_simp; try with_reducible rfl
  simp only [Act.put, List.setIfInBounds_toArray, List.set_cons_zero, List.set_cons_succ]
  refine late_take (i := 3) (some 19) rfl rfl (by kernel_rfl) (by kernel_rfl) (by kernel_rfl) (by kernel_rfl) (by kernel_rfl) (fun _ _ _ h => h) (by rfl) (v := .int .u64 (a : Int)) ?hy3r hS ?rest3r
  case hy3r => intro w0 hSw; obtain ⟨a0, a1⟩ := hSw; go_simp; exact (Value.int.inj HAe.out).2
  simp only [Act.put, List.setIfInBounds_toArray, List.set_cons_zero, List.set_cons_succ]
  refine late_take (i := 4) (some 20) rfl rfl (by kernel_rfl) (by kernel_rfl) (by kernel_rfl) (by kernel_rfl) (by kernel_rfl) (fun _ _ _ h => h) (by rfl) (v := .int .i64 (a : Int)) ?hy4r hS ?rest4r
  case hy4r => intro w0 hSw; obtain ⟨a0, a1⟩ := hSw; go_simp; exact HAw.out
  simp only [Act.put, List.setIfInBounds_toArray, List.set_cons_zero, List.set_cons_succ]
  refine late_take (i := 5) (some 21) rfl rfl (by kernel_rfl) (by kernel_rfl) (by kernel_rfl) (by kernel_rfl) (by kernel_rfl) (fun _ _ _ h => h) (by rfl) (v := ?v5r) ?hy5r hS ?rest5r
  case hy5r => intro w0 hSw; obtain ⟨a0, a1⟩ := hSw; go_simp; try with_reducible rfl
  simp only [Act.put, List.setIfInBounds_toArray, List.set_cons_zero, List.set_cons_succ]
  refine late_take (i := 6) (some 22) rfl rfl (by kernel_rfl) (by kernel_rfl) (by kernel_rfl) (by kernel_rfl) (by kernel_rfl) (fun _ _ _ h => h) (by rfl) (v := ?v6r) ?hy6r hS ?rest6r
  case hy6r => intro w0 hSw; obtain ⟨a0, a1⟩ := hSw; go_simp; try with_reducible rfl
  simp only [Act.put, List.setIfInBounds_toArray, List.set_cons_zero, List.set_cons_succ]
  refine late_take (i := 7) (some 23) rfl rfl (by kernel_rfl) (by kernel_rfl) (by kernel_rfl) (by kernel_rfl) (by kernel_rfl) (fun _ _ _ h => h) (by rfl) (v := ?v7r) ?hy7r hS ?rest7r
  case hy7r => intro w0 hSw; obtain ⟨a0, a1⟩ := hSw; go_simp; try with_reducible rfl
  simp only [Act.put, List.setIfInBounds_toArray, List.set_cons_zero, List.set_cons_succ]
  refine late_take (i := 8) (some 24) rfl rfl (by kernel_rfl) (by kernel_rfl) (by kernel_rfl) (by kernel_rfl) (by kernel_rfl) (fun _ _ _ h => h) (by rfl) (v := .int .u64 (b : Int)) ?hy8r hS ?rest8r
  case hy8r => intro w0 hSw; obtain ⟨a0, a1⟩ := hSw; go_simp; exact (Value.int.inj HBe.out).2
  simp only [Act.put, List.setIfInBounds_toArray, List.set_cons_zero, List.set_cons_succ]
  refine late_take (i := 9) (some 25) rfl rfl (by kernel_rfl) (by kernel_rfl) (by kernel_rfl) (by kernel_rfl) (by kernel_rfl) (fun _ _ _ h => h) (by rfl) (v := .int .i64 (b : Int)) ?hy9r hS ?rest9r
  case hy9r => intro w0 hSw; obtain ⟨a0, a1⟩ := hSw; go_simp; exact HBw.out
  simp only [Act.put, List.setIfInBounds_toArray, List.set_cons_zero, List.set_cons_succ]
  refine late_take (i := 10) (some 7) rfl rfl (by kernel_rfl) (by kernel_rfl) (by kernel_rfl) (by kernel_rfl) (by kernel_rfl) (fun _ _ _ h => h) (by rfl) (v := ?v10r) ?hy10r hS ?rest10r
  case hy10r => intro w0 hSw; obtain ⟨a0, a1⟩ := hSw; go_simp; try with_reducible rfl
  simp only [Act.put, List.setIfInBounds_toArray, List.set_cons_zero, List.set_cons_succ]
  refine late_take (i := 11) (some 8) rfl rfl (by kernel_rfl) (by kernel_rfl) (by kernel_rfl) (by kernel_rfl) (by kernel_rfl) (fun _ _ _ h => h) (by rfl) (v := ?v11r) ?hy11r hS ?rest11r
  case hy11r => intro w0 hSw; obtain ⟨a0, a1⟩ := hSw; go_simp; try with_reducible rfl
  simp only [Act.put, List.setIfInBounds_toArray, List.set_cons_zero, List.set_cons_succ]
  refine late_done (by kernel_rfl) ?_ _
  refine NoPanic.normal ?_
  have HB1 := hid (show Below w.heap.size w (w.alloc (.cells #[.int .i64 x0, .int .i64 x1] 62 (0, 0))).drew from HB0.out.drew)
  clear hS hS0 HS0 HB0 HAe HBe HAw HBw
  generalize (w.alloc (.cells #[.int .i64 x0, .int .i64 x1] 62 (0, 0))).drew = U1 at HB1 ⊢
  go_wp2
  rw [HIe]
  clear HIe
  have hin : (i : Int) ≤ (n : Int) := by omega
  have hic : (i : Int) ≤ (c : Int) := by omega
  have hine : ¬ c = i := by omega
  have hicn : i ≤ c := by omega
  have hinn : i ≤ n := by omega
  have HVu := hid (show Below w.heap.size w U1.drew from HB1.out.drew)
  refine wp_region_noPanic ?_
  refine any_begin 16 (by kernel_rfl) (by kernel_rfl) ?_
  refine late_begin (fun _ => True) (fun _ => false) trivial (fun hS => ?_)
  refine late_take (i := 0) (some 36) rfl rfl (by kernel_rfl) (by kernel_rfl) (by kernel_rfl) (by kernel_rfl) (by kernel_rfl) (fun _ _ _ h => h) (by rfl) (v := ?v0u) ?hy0u hS ?rest0u
  case hy0u => intro w0 hSw; go_simp; try with_reducible rfl
  simp only [Act.put, List.setIfInBounds_toArray, List.set_cons_zero, List.set_cons_succ]
  refine late_take (i := 1) (some 37) rfl rfl (by kernel_rfl) (by kernel_rfl) (by kernel_rfl) (by kernel_rfl) (by kernel_rfl) (fun _ _ _ h => h) (by rfl) (v := ?v1u) ?hy1u hS ?rest1u
  case hy1u => intro w0 hSw; go_simp; try with_reducible rfl
  simp only [Act.put, List.setIfInBounds_toArray, List.set_cons_zero, List.set_cons_succ]
  refine late_take (i := 2) (some 38) rfl rfl (by kernel_rfl) (by kernel_rfl) (by kernel_rfl) (by kernel_rfl) (by kernel_rfl) (fun _ _ _ h => h) (by rfl) (v := ?v2u) ?hy2u hS ?rest2u
  case hy2u => intro w0 hSw; go_simp; try with_reducible rfl
  simp only [Act.put, List.setIfInBounds_toArray, List.set_cons_zero, List.set_cons_succ]
  refine late_take (i := 3) (some 39) rfl rfl (by kernel_rfl) (by kernel_rfl) (by kernel_rfl) (by kernel_rfl) (by kernel_rfl) (fun _ _ _ h => h) (by rfl) (v := .slice (some ⟨g, o, none⟩) i c) ?hy3u hS ?rest3u
  case hy3u => intro w0 hSw; go_simp; try with_reducible rfl
  simp only [Act.put, List.setIfInBounds_toArray, List.set_cons_zero, List.set_cons_succ]
  refine late_take (i := 5) (some 41) rfl rfl (by kernel_rfl) (by kernel_rfl) (by kernel_rfl) (by kernel_rfl) (by kernel_rfl) (fun _ _ _ h => h) (by rfl) (v := ?v5u) ?hy5u hS ?rest5u
  case hy5u => intro w0 hSw; go_simp; try with_reducible rfl
  simp only [Act.put, List.setIfInBounds_toArray, List.set_cons_zero, List.set_cons_succ]
  refine late_take (i := 8) (some 44) rfl rfl (by kernel_rfl) (by kernel_rfl) (by kernel_rfl) (by kernel_rfl) (by kernel_rfl) (fun _ _ _ h => h) (by rfl) (v := ?v8u) ?hy8u hS ?rest8u
  case hy8u => intro w0 hSw; go_simp; try with_reducible rfl
  simp only [Act.put, List.setIfInBounds_toArray, List.set_cons_zero, List.set_cons_succ]
  refine late_take (i := 11) (some 47) rfl rfl (by kernel_rfl) (by kernel_rfl) (by kernel_rfl) (by kernel_rfl) (by kernel_rfl) (fun _ _ _ h => h) (by rfl) (v := ?v11u) ?hy11u hS ?rest11u
  case hy11u => intro w0 hSw; go_simp; try with_reducible rfl
  simp only [Act.put, List.setIfInBounds_toArray, List.set_cons_zero, List.set_cons_succ]
  refine late_take (i := 12) (some 48) rfl rfl (by kernel_rfl) (by kernel_rfl) (by kernel_rfl) (by kernel_rfl) (by kernel_rfl) (fun _ _ _ h => h) (by rfl) (v := ?v12u) ?hy12u hS ?rest12u
  case hy12u => intro w0 hSw; go_simp; try with_reducible rfl
  simp only [Act.put, List.setIfInBounds_toArray, List.set_cons_zero, List.set_cons_succ]
  refine late_take (i := 13) (some 49) rfl rfl (by kernel_rfl) (by kernel_rfl) (by kernel_rfl) (by kernel_rfl) (by kernel_rfl) (fun _ _ _ h => h) (by rfl) (v := .slice (some ⟨g, o + i * 2, none⟩) (n - i) (c - i)) ?hy13u hS ?rest13u
  case hy13u => intro w0 hSw; go_simp; try with_reducible rfl; try omega
  simp only [Act.put, List.setIfInBounds_toArray, List.set_cons_zero, List.set_cons_succ]
  refine wpAnyD_one (i := 4) (by kernel_rfl) rfl (fun K hK => ?_)
  rw [if_pos (by rfl)]
  refine wp_append_own_at (.tmp 36) (.tmp 39) 22 rfl U1.drew.heap.size 25 i0 _ 2 32 Tryd.underlying22 hi0 hz0 hz1 hz2 rfl (by decide) (.slice none 0 0) 0 [] (by go_simp) (OwnF.nil _ _) ⟨g, o, none⟩ i c (fldC (fs.take i)) (by go_simp) (by rw [fldC_len, HLt.out]) (HFt.out _ HVu.out).newsF (fldC_plain _) (by unfold maxLen; omega) (by omega) (Nat.le_refl _) ?_
  intro v' wa hown hgr _
  rw [Nat.zero_add, List.nil_append] at hown
  obtain ⟨qu, du, rfl⟩ := own_slice hown
  have HOuA := hid (show OwnF wa U1.drew.heap.size (.slice qu i du) (fs.take i) from by unfold OwnF; rw [HLt.out]; exact hown)
  have HBuA := hid (below_grown hgr)
  clear hown hgr
  show K (Act.put _ (some 40) _) _
  refine hK _ _ ⟨fun _ => trivial, ?_⟩
  clear hK K
  simp only [Act.put, List.setIfInBounds_toArray, List.set_cons_zero, List.set_cons_succ]
  refine wpAnyD_one (i := 6) (by kernel_rfl) rfl (fun K hK => ?_)
  go_simp
  go_at_call 31
  refine (HDa.out _).mono ?_
  rintro e wd ⟨rfl, hwd⟩
  subst wd
  refine hK _ _ ⟨fun _ => trivial, ?_⟩
  clear hK K
  refine late_take (i := 7) (some 43) rfl rfl (by kernel_rfl) (by kernel_rfl) (by kernel_rfl) (by kernel_rfl) (by kernel_rfl) (fun _ _ _ h => h) (by rfl) (v := ?v7u) ?hy7u hS ?rest7u
  case hy7u => intro w0 hSw; go_simp; try with_reducible rfl
  simp only [Act.put, List.setIfInBounds_toArray, List.set_cons_zero, List.set_cons_succ]
  refine wpAnyD_one (i := 9) (by kernel_rfl) rfl (fun K hK => ?_)
  go_simp
  have hb5 := below_new wa (.cells #[.string ⟨#[99, 111, 110, 116, 101, 110, 116, 45, 108, 101, 110, 103, 116, 104]⟩, .string TA, .string ⟨#[116, 114, 97, 110, 115, 102, 101, 114, 45, 101, 110, 99, 111, 100, 105, 110, 103]⟩, .string ⟨#[99, 104, 117, 110, 107, 101, 100]⟩] 25 (0, 0))
  have HBuB := hid (below_out HBuA.out hb5)
  have HOuB := hid (HOuA.out.keep hb5)
  have HCu := hid (cells_new wa [.string ⟨#[99, 111, 110, 116, 101, 110, 116, 45, 108, 101, 110, 103, 116, 104]⟩, .string TA, .string ⟨#[116, 114, 97, 110, 115, 102, 101, 114, 45, 101, 110, 99, 111, 100, 105, 110, 103]⟩, .string ⟨#[99, 104, 117, 110, 107, 101, 100]⟩] 25)
  refine hK _ _ ⟨fun _ => trivial, ?_⟩
  clear hK K hb5
  refine wpAnyD_one (i := 10) (by kernel_rfl) rfl (fun K hK => ?_)
  rw [if_pos (by rfl)]
  refine wp_append_own_at (.tmp 40) (.tmp 45) 22 rfl U1.drew.heap.size 25 i0 _ 2 32 Tryd.underlying22 hi0 hz0 hz1 hz2 rfl (by decide) (.slice qu i du) i (fldC (fs.take i)) (by go_simp) (by have h9 := HOuB.out; unfold OwnF at h9; rw [HLt.out] at h9; exact h9) ⟨wa.heap.size, 0, none⟩ 2 2 [.string ⟨#[99, 111, 110, 116, 101, 110, 116, 45, 108, 101, 110, 103, 116, 104]⟩, .string TA, .string ⟨#[116, 114, 97, 110, 115, 102, 101, 114, 45, 101, 110, 99, 111, 100, 105, 110, 103]⟩, .string ⟨#[99, 104, 117, 110, 107, 101, 100]⟩] (by go_simp) rfl HCu.out (by simp [Value.oneCell']) (by unfold maxLen; omega) (by omega) HBuB.out.size ?_
  intro v' wb hown hgr _
  obtain ⟨quB, duB, rfl⟩ := own_slice hown
  have hpc : [Value.string ⟨#[99, 111, 110, 116, 101, 110, 116, 45, 108, 101, 110, 103, 116, 104]⟩, Value.string TA, Value.string ⟨#[116, 114, 97, 110, 115, 102, 101, 114, 45, 101, 110, 99, 111, 100, 105, 110, 103]⟩, Value.string ⟨#[99, 104, 117, 110, 107, 101, 100]⟩] = fldC [(lclB, told 10 a), (lteB, chB)] := by rw [← HTA.out]; rfl
  rw [hpc, ← fldC_app] at hown
  have HOuC := hid (show OwnF wb U1.drew.heap.size (.slice quB (i + 2) duB) (fs.take i ++ [(lclB, told 10 a), (lteB, chB)]) from by unfold OwnF; rw [List.length_append, HLt.out]; exact hown)
  have HBuC := hid (HBuB.out.trans (OwnF.below HOuB.out HBuB.out.size hgr))
  clear hown hgr hpc
  show K (Act.put _ (some 46) _) _
  refine hK _ _ ⟨fun _ => trivial, ?_⟩
  clear hK K
  simp only [Act.put, List.setIfInBounds_toArray, List.set_cons_zero, List.set_cons_succ]
  refine wpAnyD_one (i := 14) (by kernel_rfl) rfl (fun K hK => ?_)
  rw [if_pos (by rfl)]
  refine wp_append_own_at (.tmp 46) (.tmp 49) 22 rfl U1.drew.heap.size 25 i0 _ 2 32 Tryd.underlying22 hi0 hz0 hz1 hz2 rfl (by decide) (.slice quB (i + 2) duB) (i + 2) (fldC (fs.take i ++ [(lclB, told 10 a), (lteB, chB)])) (by go_simp) (by have h9 := HOuC.out; unfold OwnF at h9; rw [List.length_append, HLt.out] at h9; exact h9) ⟨g, o + i * 2, none⟩ (n - i) (c - i) (fldC (fs.drop i)) (by go_simp) (by rw [fldC_len, HLd.out]) (HFd.out _ (HVu.out.trans (HBuC.out.mono HVu.out.size))).newsF (fldC_plain _) (by unfold maxLen; omega) (by omega) HBuC.out.size ?_
  intro v' wc hown hgr _
  obtain ⟨quC, duC, rfl⟩ : ∃ q d, v' = .slice q (n + 2) d := by have h9 := own_slice hown; rw [show i + 2 + (n - i) = n + 2 by omega] at h9; exact h9
  have HOuD := hid (show OwnF wc U1.drew.heap.size (.slice quC (n + 2) duC) (smugA fs i a) from by unfold OwnF; rw [show (smugA fs i a).length = n + 2 from by unfold smugA; rw [smug_len, HL.out]]; rw [show i + 2 + (n - i) = n + 2 by omega] at hown; unfold smugA; rw [fldC_app]; exact hown)
  have HBuD := hid (HBuC.out.trans (OwnF.below HOuC.out HBuC.out.size hgr))
  clear hown hgr
  show K (Act.put _ (some 50) _) _
  refine hK _ _ ⟨fun _ => trivial, ?_⟩
  clear hK K
  simp only [Act.put, List.setIfInBounds_toArray, List.set_cons_zero, List.set_cons_succ]
  refine late_take (i := 15) (some 9) rfl rfl (by kernel_rfl) (by kernel_rfl) (by kernel_rfl) (by kernel_rfl) (by kernel_rfl) (fun _ _ _ h => h) (by rfl) (v := ?v15u) ?hy15u hS ?rest15u
  case hy15u => intro w0 hSw; go_simp; try with_reducible rfl
  simp only [Act.put, List.setIfInBounds_toArray, List.set_cons_zero, List.set_cons_succ]
  refine late_done (by kernel_rfl) ?_ _
  refine NoPanic.normal ?_
  have HB2 := hid (HVu.out.trans (HBuD.out.mono HVu.out.size))
  have HFA := hid (OwnF.fat HOuD.out)
  clear HVu HBuD HOuD HOuA HBuA HOuB HBuB HOuC HBuC HCu
  go_wp2
  have HVv := hid (show Below w.heap.size w wc.drew from HB2.out.drew)
  refine wp_region_noPanic ?_
  refine any_begin 18 (by kernel_rfl) (by kernel_rfl) ?_
  refine late_begin (fun _ => True) (fun _ => false) trivial (fun hS => ?_)
  refine late_take (i := 0) (some 51) rfl rfl (by kernel_rfl) (by kernel_rfl) (by kernel_rfl) (by kernel_rfl) (by kernel_rfl) (fun _ _ _ h => h) (by rfl) (v := ?v0v) ?hy0v hS ?rest0v
  case hy0v => intro w0 hSw; go_simp; try with_reducible rfl
  simp only [Act.put, List.setIfInBounds_toArray, List.set_cons_zero, List.set_cons_succ]
  refine late_take (i := 1) (some 52) rfl rfl (by kernel_rfl) (by kernel_rfl) (by kernel_rfl) (by kernel_rfl) (by kernel_rfl) (fun _ _ _ h => h) (by rfl) (v := ?v1v) ?hy1v hS ?rest1v
  case hy1v => intro w0 hSw; go_simp; try with_reducible rfl
  simp only [Act.put, List.setIfInBounds_toArray, List.set_cons_zero, List.set_cons_succ]
  refine late_take (i := 2) (some 53) rfl rfl (by kernel_rfl) (by kernel_rfl) (by kernel_rfl) (by kernel_rfl) (by kernel_rfl) (fun _ _ _ h => h) (by rfl) (v := ?v2v) ?hy2v hS ?rest2v
  case hy2v => intro w0 hSw; go_simp; try with_reducible rfl
  simp only [Act.put, List.setIfInBounds_toArray, List.set_cons_zero, List.set_cons_succ]
  refine late_take (i := 3) (some 54) rfl rfl (by kernel_rfl) (by kernel_rfl) (by kernel_rfl) (by kernel_rfl) (by kernel_rfl) (fun _ _ _ h => h) (by rfl) (v := .slice (some ⟨g, o, none⟩) i c) ?hy3v hS ?rest3v
  case hy3v => intro w0 hSw; go_simp; try with_reducible rfl
  simp only [Act.put, List.setIfInBounds_toArray, List.set_cons_zero, List.set_cons_succ]
  refine late_take (i := 5) (some 56) rfl rfl (by kernel_rfl) (by kernel_rfl) (by kernel_rfl) (by kernel_rfl) (by kernel_rfl) (fun _ _ _ h => h) (by rfl) (v := ?v5v) ?hy5v hS ?rest5v
  case hy5v => intro w0 hSw; go_simp; try with_reducible rfl
  simp only [Act.put, List.setIfInBounds_toArray, List.set_cons_zero, List.set_cons_succ]
  refine late_take (i := 8) (some 59) rfl rfl (by kernel_rfl) (by kernel_rfl) (by kernel_rfl) (by kernel_rfl) (by kernel_rfl) (fun _ _ _ h => h) (by rfl) (v := ?v8v) ?hy8v hS ?rest8v
  case hy8v => intro w0 hSw; go_simp; try with_reducible rfl
  simp only [Act.put, List.setIfInBounds_toArray, List.set_cons_zero, List.set_cons_succ]
  refine late_take (i := 13) (some 64) rfl rfl (by kernel_rfl) (by kernel_rfl) (by kernel_rfl) (by kernel_rfl) (by kernel_rfl) (fun _ _ _ h => h) (by rfl) (v := ?v13v) ?hy13v hS ?rest13v
  case hy13v => intro w0 hSw; go_simp; try with_reducible rfl
  simp only [Act.put, List.setIfInBounds_toArray, List.set_cons_zero, List.set_cons_succ]
  refine late_take (i := 14) (some 65) rfl rfl (by kernel_rfl) (by kernel_rfl) (by kernel_rfl) (by kernel_rfl) (by kernel_rfl) (fun _ _ _ h => h) (by rfl) (v := ?v14v) ?hy14v hS ?rest14v
  case hy14v => intro w0 hSw; go_simp; try with_reducible rfl
  simp only [Act.put, List.setIfInBounds_toArray, List.set_cons_zero, List.set_cons_succ]
  refine late_take (i := 15) (some 66) rfl rfl (by kernel_rfl) (by kernel_rfl) (by kernel_rfl) (by kernel_rfl) (by kernel_rfl) (fun _ _ _ h => h) (by rfl) (v := .slice (some ⟨g, o + i * 2, none⟩) (n - i) (c - i)) ?hy15v hS ?rest15v
  case hy15v => intro w0 hSw; go_simp; try with_reducible rfl; try omega
  simp only [Act.put, List.setIfInBounds_toArray, List.set_cons_zero, List.set_cons_succ]
  refine wpAnyD_one (i := 4) (by kernel_rfl) rfl (fun K hK => ?_)
  rw [if_pos (by rfl)]
  refine wp_append_own_at (.tmp 51) (.tmp 54) 22 rfl wc.drew.heap.size 25 i0 _ 2 32 Tryd.underlying22 hi0 hz0 hz1 hz2 rfl (by decide) (.slice none 0 0) 0 [] (by go_simp) (OwnF.nil _ _) ⟨g, o, none⟩ i c (fldC (fs.take i)) (by go_simp) (by rw [fldC_len, HLt.out]) (HFt.out _ HVv.out).newsF (fldC_plain _) (by unfold maxLen; omega) (by omega) (Nat.le_refl _) ?_
  intro v' wx hown hgr _
  rw [Nat.zero_add, List.nil_append] at hown
  obtain ⟨qv, dv, rfl⟩ := own_slice hown
  have HOvA := hid (show OwnF wx wc.drew.heap.size (.slice qv i dv) (fs.take i) from by unfold OwnF; rw [HLt.out]; exact hown)
  have HBvA := hid (below_grown hgr)
  clear hown hgr
  show K (Act.put _ (some 55) _) _
  refine hK _ _ ⟨fun _ => trivial, ?_⟩
  clear hK K
  simp only [Act.put, List.setIfInBounds_toArray, List.set_cons_zero, List.set_cons_succ]
  refine wpAnyD_one (i := 6) (by kernel_rfl) rfl (fun K hK => ?_)
  go_simp
  go_at_call 31
  refine (HDa.out _).mono ?_
  rintro e wd ⟨rfl, hwd⟩
  subst wd
  refine hK _ _ ⟨fun _ => trivial, ?_⟩
  clear hK K
  refine late_take (i := 7) (some 58) rfl rfl (by kernel_rfl) (by kernel_rfl) (by kernel_rfl) (by kernel_rfl) (by kernel_rfl) (fun _ _ _ h => h) (by rfl) (v := ?v7v) ?hy7v hS ?rest7v
  case hy7v => intro w0 hSw; go_simp; try with_reducible rfl
  simp only [Act.put, List.setIfInBounds_toArray, List.set_cons_zero, List.set_cons_succ]
  refine wpAnyD_one (i := 9) (by kernel_rfl) rfl (fun K hK => ?_)
  go_simp
  go_at_call 31
  refine (HDb.out _).mono ?_
  rintro e wd ⟨rfl, hwd⟩
  subst wd
  refine hK _ _ ⟨fun _ => trivial, ?_⟩
  clear hK K
  refine late_take (i := 10) (some 61) rfl rfl (by kernel_rfl) (by kernel_rfl) (by kernel_rfl) (by kernel_rfl) (by kernel_rfl) (fun _ _ _ h => h) (by rfl) (v := ?v10v) ?hy10v hS ?rest10v
  case hy10v => intro w0 hSw; go_simp; try with_reducible rfl
  simp only [Act.put, List.setIfInBounds_toArray, List.set_cons_zero, List.set_cons_succ]
  refine wpAnyD_one (i := 11) (by kernel_rfl) rfl (fun K hK => ?_)
  go_simp
  have hb5 := below_new wx (.cells #[.string ⟨#[67, 111, 110, 116, 101, 110, 116, 45, 76, 101, 110, 103, 116, 104]⟩, .string TA, .string ⟨#[67, 79, 78, 84, 69, 78, 84, 45, 76, 69, 78, 71, 84, 72]⟩, .string TB] 25 (0, 0))
  have HBvB := hid (below_out HBvA.out hb5)
  have HOvB := hid (HOvA.out.keep hb5)
  have HCv := hid (cells_new wx [.string ⟨#[67, 111, 110, 116, 101, 110, 116, 45, 76, 101, 110, 103, 116, 104]⟩, .string TA, .string ⟨#[67, 79, 78, 84, 69, 78, 84, 45, 76, 69, 78, 71, 84, 72]⟩, .string TB] 25)
  refine hK _ _ ⟨fun _ => trivial, ?_⟩
  clear hK K hb5
  refine wpAnyD_one (i := 12) (by kernel_rfl) rfl (fun K hK => ?_)
  rw [if_pos (by rfl)]
  refine wp_append_own_at (.tmp 55) (.tmp 62) 22 rfl wc.drew.heap.size 25 i0 _ 2 32 Tryd.underlying22 hi0 hz0 hz1 hz2 rfl (by decide) (.slice qv i dv) i (fldC (fs.take i)) (by go_simp) (by have h9 := HOvB.out; unfold OwnF at h9; rw [HLt.out] at h9; exact h9) ⟨wx.heap.size, 0, none⟩ 2 2 [.string ⟨#[67, 111, 110, 116, 101, 110, 116, 45, 76, 101, 110, 103, 116, 104]⟩, .string TA, .string ⟨#[67, 79, 78, 84, 69, 78, 84, 45, 76, 69, 78, 71, 84, 72]⟩, .string TB] (by go_simp) rfl HCv.out (by simp [Value.oneCell']) (by unfold maxLen; omega) (by omega) HBvB.out.size ?_
  intro v' wy hown hgr _
  obtain ⟨qvB, dvB, rfl⟩ := own_slice hown
  have hpc : [Value.string ⟨#[67, 111, 110, 116, 101, 110, 116, 45, 76, 101, 110, 103, 116, 104]⟩, Value.string TA, Value.string ⟨#[67, 79, 78, 84, 69, 78, 84, 45, 76, 69, 78, 71, 84, 72]⟩, Value.string TB] = fldC [(clB, told 10 a), (uclB, told 10 b)] := by rw [← HTA.out, ← HTB.out]; rfl
  rw [hpc, ← fldC_app] at hown
  have HOvC := hid (show OwnF wy wc.drew.heap.size (.slice qvB (i + 2) dvB) (fs.take i ++ [(clB, told 10 a), (uclB, told 10 b)]) from by unfold OwnF; rw [List.length_append, HLt.out]; exact hown)
  have HBvC := hid (HBvB.out.trans (OwnF.below HOvB.out HBvB.out.size hgr))
  clear hown hgr hpc
  show K (Act.put _ (some 63) _) _
  refine hK _ _ ⟨fun _ => trivial, ?_⟩
  clear hK K
  simp only [Act.put, List.setIfInBounds_toArray, List.set_cons_zero, List.set_cons_succ]
  refine wpAnyD_one (i := 16) (by kernel_rfl) rfl (fun K hK => ?_)
  rw [if_pos (by rfl)]
  refine wp_append_own_at (.tmp 63) (.tmp 66) 22 rfl wc.drew.heap.size 25 i0 _ 2 32 Tryd.underlying22 hi0 hz0 hz1 hz2 rfl (by decide) (.slice qvB (i + 2) dvB) (i + 2) (fldC (fs.take i ++ [(clB, told 10 a), (uclB, told 10 b)])) (by go_simp) (by have h9 := HOvC.out; unfold OwnF at h9; rw [List.length_append, HLt.out] at h9; exact h9) ⟨g, o + i * 2, none⟩ (n - i) (c - i) (fldC (fs.drop i)) (by go_simp) (by rw [fldC_len, HLd.out]) (HFd.out _ (HVv.out.trans (HBvC.out.mono HVv.out.size))).newsF (fldC_plain _) (by unfold maxLen; omega) (by omega) HBvC.out.size ?_
  intro v' wz hown hgr _
  obtain ⟨qvC, dvC, rfl⟩ : ∃ q d, v' = .slice q (n + 2) d := by have h9 := own_slice hown; rw [show i + 2 + (n - i) = n + 2 by omega] at h9; exact h9
  have HOvD := hid (show OwnF wz wc.drew.heap.size (.slice qvC (n + 2) dvC) (smugB fs i a b) from by unfold OwnF; rw [show (smugB fs i a b).length = n + 2 from by unfold smugB; rw [smug_len, HL.out]]; rw [show i + 2 + (n - i) = n + 2 by omega] at hown; unfold smugB; rw [fldC_app]; exact hown)
  have HBvD := hid (HBvC.out.trans (OwnF.below HOvC.out HBvC.out.size hgr))
  clear hown hgr
  show K (Act.put _ (some 67) _) _
  refine hK _ _ ⟨fun _ => trivial, ?_⟩
  clear hK K
  simp only [Act.put, List.setIfInBounds_toArray, List.set_cons_zero, List.set_cons_succ]
  refine late_take (i := 17) (some 10) rfl rfl (by kernel_rfl) (by kernel_rfl) (by kernel_rfl) (by kernel_rfl) (by kernel_rfl) (fun _ _ _ h => h) (by rfl) (v := ?v17v) ?hy17v hS ?rest17v
  case hy17v => intro w0 hSw; go_simp; try with_reducible rfl
  simp only [Act.put, List.setIfInBounds_toArray, List.set_cons_zero, List.set_cons_succ]
  refine late_done (by kernel_rfl) ?_ _
  refine NoPanic.normal ?_
  have HB3 := hid (HVv.out.trans (HBvD.out.mono HVv.out.size))
  have HFB := hid (OwnF.fat HOvD.out)
  have HFA3 := hid (show FAt wz quC (smugA fs i a) from (show FAt wc.drew quC (smugA fs i a) from HFA.out).next HBvD.out)
  clear HVv HBvD HOvD HOvA HBvA HOvB HBvB HOvC HBvC HCv HFA HB2
  obtain ⟨VB, hVB⟩ : ∃ V, errOf EB = V := ⟨_, rfl⟩
  rw [hVB] at HQB
  by_cases hab : a = b
  · subst hab
    clear hVB
    go_wp2_with (first | (go_at_call 27; (with_reducible refine (HQA.out _ _ _ HB3.out HFA3.out).mono ?_); rintro e w4 ⟨rfl, hb⟩; have hb2 := below_new w4 (frmO KA NA); have HB4 := hid (below_out (below_out HB3.out hb) hb2); have HFB4 := hid ((HFB.out.next hb).next hb2); clear hb hb2 HQA) | (go_at_call 27; (with_reducible refine (HQB.out _ _ _ HB4.out HFB4.out).mono ?_); rintro e w5 ⟨rfl, hb⟩; have hb2 := below_new w5 (frmO KB NB); have HB5 := hid (below_out (below_out HB4.out hb) hb2); clear hb hb2 HQB) | (go_at_call 24; (with_reducible refine (HNm.out _ HB5.out).mono ?_); rintro e w6 ⟨rfl, hb⟩; have HB6 := hid (below_out HB5.out hb); clear hb HB5) | (go_at_call 26; (with_reducible refine (HSu.out _ HB6.out).mono ?_); rintro e w8 ⟨rfl, hb⟩; have HB8 := hid (below_out HB6.out hb); clear hb HSu))
    go_ret
    exact ⟨rfl, HB8.out⟩
  · have hEE := HEB.out hab
    subst hEE
    rw [show errOf 30 = .iface 83 (.int .i64 30) from rfl] at hVB
    subst hVB
    have hab1 : ((a : Int) == (b : Int)) = false := by simp; omega
    go_wp2_with (first | (go_at_call 27; (with_reducible refine (HQA.out _ _ _ HB3.out HFA3.out).mono ?_); rintro e w4 ⟨rfl, hb⟩; have hb2 := below_new w4 (frmO KA NA); have HB4 := hid (below_out (below_out HB3.out hb) hb2); have HFB4 := hid ((HFB.out.next hb).next hb2); clear hb hb2 HQA) | (go_at_call 27; (with_reducible refine (HQB.out _ _ _ HB4.out HFB4.out).mono ?_); rintro e w5 ⟨rfl, hb⟩; have hb2 := below_new w5 (frmO KB NB); have HB5 := hid (below_out (below_out HB4.out hb) hb2); clear hb hb2 HQB) | (go_at_call 24; (with_reducible refine (HNm.out _ HB5.out).mono ?_); rintro e w6 ⟨rfl, hb⟩; have HB6 := hid (below_out HB5.out hb); clear hb HB5) | (go_at_call 24; (with_reducible refine (HNm.out _ HB6.out).mono ?_); rintro e w7 ⟨rfl, hb⟩; have HB7 := hid (below_out HB6.out hb); clear hb HNm) | (go_at_call 26; (with_reducible refine (HSu.out _ HB7.out).mono ?_); rintro e w8 ⟨rfl, hb⟩; have HB8 := hid (below_out HB7.out hb); clear hb HSu))
    go_ret
    exact ⟨rfl, HB8.out⟩
set_option maxRecDepth 20000 in
set_option maxHeartbeats 16000000 in
theorem smug_zero (ad : Addr) (c : Nat) (x0 x1 wh : Int) (w : World) (hmx : MxL w) (hE : EnvE w) :
    Calls Tryd.prog 7 #[.slice (some ad) 0 c, .agg #[.int .i64 x0, .int .i64 x1], .int .i64 wh] w fun e w' => e = .returned (.bool true) ∧ Below w.heap.size w w' := by
  have hn : ([] : List (B × B)).length = 0 := rfl
  have hsz : szB [] := fun f hf => by simp at hf
  have hnn : 0 + 2 ≤ 1048576 := by decide
  obtain ⟨a, ha, hae⟩ := rem_at x0 1000 (by decide)
  obtain ⟨b, hb, hbe⟩ := rem_at x1 1000 (by decide)
  have HAe := hid (show Value.int .u64 ((IntKind.u64.wrap x0).tmod 1000) = .int .u64 (a : Int) from by rw [show (1000 : Int) = ((1000 : Nat) : Int) from rfl, hae])
  have HBe := hid (show Value.int .u64 ((IntKind.u64.wrap x1).tmod 1000) = .int .u64 (b : Int) from by rw [show (1000 : Int) = ((1000 : Nat) : Int) from rfl, hbe])
  have HAw := hid (wrapI a (by omega))
  have HBw := hid (wrapI b (by omega))
  clear hae hbe
  have hlA : (smugA [] 0 a).length = 0 + 2 := by unfold smugA; rw [smug_len, hn]
  have hlB : (smugB [] 0 a b).length = 0 + 2 := by unfold smugB; rw [smug_len, hn]
  have hta := told_len a
  have htb := told_len b
  have hzA : szB (smugA [] 0 a) := smug_szB 0 hsz ⟨by show lclB.length ≤ 1048576; decide, by show (told 10 a).length ≤ 1048576; omega⟩ ⟨by decide, by decide⟩
  have hzB : szB (smugB [] 0 a b) := smug_szB 0 hsz ⟨by show clB.length ≤ 1048576; decide, by show (told 10 a).length ≤ 1048576; omega⟩ ⟨by show uclB.length ≤ 1048576; decide, by show (told 10 b).length ≤ 1048576; omega⟩
  have HQA := hid (show ∀ (W : World) (p : Option Addr) (d : Nat), Below w.heap.size w W → FAt W p (smugA [] 0 a) → _ from fun W p d hb h => prequest ⟨#[]⟩ ⟨#[]⟩ 1 (smugA [] 0 a) p (0 + 2) d hlA W h hzA hnn (hmx.next hb))
  have HQB := hid (show ∀ (W : World) (p : Option Addr) (d : Nat), Below w.heap.size w W → FAt W p (smugB [] 0 a b) → _ from fun W p d hb h => prequest ⟨#[]⟩ ⟨#[]⟩ 1 (smugB [] 0 a b) p (0 + 2) d hlB W h hzB hnn (hmx.next hb))
  have hEA := smugA_frm [] 0 a 1 0
  have hEB : a ≠ b → (frmF 1 (smugB [] 0 a b) 0).2 = 30 := fun h => smugB_frm [] 0 a b ha hb h 1 0
  obtain ⟨⟨⟨KA, NA⟩, EA⟩, hA⟩ : ∃ x, frmF 1 (smugA [] 0 a) 0 = x := ⟨_, rfl⟩
  obtain ⟨⟨⟨KB, NB⟩, EB⟩, hB⟩ : ∃ x, frmF 1 (smugB [] 0 a b) 0 = x := ⟨_, rfl⟩
  rw [hA] at HQA hEA
  rw [hB] at HQB hEB
  dsimp only [frmV] at HQA HQB hEA hEB
  subst hEA
  rw [show errOf 30 = .iface 83 (.int .i64 30) from rfl] at HQA
  have HNm := hid (show ∀ W : World, Below w.heap.size w W → _ from fun W hb => num_any 30 W (hE.next hb))
  rw [show errOf 30 = .iface 83 (.int .i64 30) from rfl] at HNm
  have HSu := hid (show ∀ W : World, Below w.heap.size w W → _ from fun W hb => sure11_any W (hmx.next hb))
  have HDa := hid (show ∀ W : World, _ from fun W => digits_any a ha W)
  have HDb := hid (show ∀ W : World, _ from fun W => digits_any b hb W)
  have HEB := hid hEB
  obtain ⟨TA, hTA⟩ : ∃ T, str (told 10 a) = T := ⟨_, rfl⟩
  obtain ⟨TB, hTB⟩ : ∃ T, str (told 10 b) = T := ⟨_, rfl⟩
  rw [hTA] at HDa
  rw [hTB] at HDb
  have HTA := hid hTA
  have HTB := hid hTB
  obtain ⟨i0, hi0, hz0, hz1, hz2⟩ := info_parts infoF
  have HL := hid hn
  have HS0 := hid (arr2 (w := w) x0 x1 62)
  have HB0 := hid (below_new w (.cells #[.int .i64 x0, .int .i64 x1] 62 (0, 0)))
  clear hlA hlB hta htb hzA hzB hA hB hEB hTA hTB hn hsz hmx hE
  go_enter Tryd.func7, Tryd.ntmps7
  go_wp2
  have hS0 : RdK (w.alloc (.cells #[.int .i64 x0, .int .i64 x1] 62 (0, 0))).drew w.heap.size x0 x1 := ⟨HS0.out.a0, HS0.out.a1⟩
  refine wp_region_noPanic ?_
  refine any_begin 12 (by kernel_rfl) (by kernel_rfl) ?_
  refine late_begin (fun U => RdK U w.heap.size x0 x1) (fun _ => false) hS0 (fun hS => ?_)
  refine late_take (i := 0) (some 16) rfl rfl (by kernel_rfl) (by kernel_rfl) (by kernel_rfl) (by kernel_rfl) (by kernel_rfl) (fun _ _ _ h => h) (by rfl) (v := ?v0r) ?hy0r hS ?rest0r
  case hy0r => intro w0 hSw; obtain ⟨a0, a1⟩ := hSw; go_simp; try with_reducible rfl
  simp only [Act.put, List.setIfInBounds_toArray, List.set_cons_zero, List.set_cons_succ]
  refine late_take (i := 1) (some 17) rfl rfl (by kernel_rfl) (by kernel_rfl) (by kernel_rfl) (by kernel_rfl) (by kernel_rfl) (fun _ _ _ h => h) (by rfl) (v := ?v1r) ?hy1r hS ?rest1r
  case hy1r => intro w0 hSw; obtain ⟨a0, a1⟩ := hSw; go_simp; try with_reducible rfl
  simp only [Act.put, List.setIfInBounds_toArray, List.set_cons_zero, List.set_cons_succ]
  refine late_take (i := 2) (some 18) rfl rfl (by kernel_rfl) (by kernel_rfl) (by kernel_rfl) (by kernel_rfl) (by kernel_rfl) (fun _ _ _ h => h) (by rfl) (v := ?v2r) ?hy2r hS ?rest2r
  case hy2r => intro w0 hSw; obtain ⟨a0, a1⟩ := hSw; go_simp; try with_reducible rfl
  simp only [Act.put, List.setIfInBounds_toArray, List.set_cons_zero, List.set_cons_succ]
  refine late_take (i := 3) (some 19) rfl rfl (by kernel_rfl) (by kernel_rfl) (by kernel_rfl) (by kernel_rfl) (by kernel_rfl) (fun _ _ _ h => h) (by rfl) (v := .int .u64 (a : Int)) ?hy3r hS ?rest3r
  case hy3r => intro w0 hSw; obtain ⟨a0, a1⟩ := hSw; go_simp; exact (Value.int.inj HAe.out).2
  simp only [Act.put, List.setIfInBounds_toArray, List.set_cons_zero, List.set_cons_succ]
  refine late_take (i := 4) (some 20) rfl rfl (by kernel_rfl) (by kernel_rfl) (by kernel_rfl) (by kernel_rfl) (by kernel_rfl) (fun _ _ _ h => h) (by rfl) (v := .int .i64 (a : Int)) ?hy4r hS ?rest4r
  case hy4r => intro w0 hSw; obtain ⟨a0, a1⟩ := hSw; go_simp; exact HAw.out
  simp only [Act.put, List.setIfInBounds_toArray, List.set_cons_zero, List.set_cons_succ]
  refine late_take (i := 5) (some 21) rfl rfl (by kernel_rfl) (by kernel_rfl) (by kernel_rfl) (by kernel_rfl) (by kernel_rfl) (fun _ _ _ h => h) (by rfl) (v := ?v5r) ?hy5r hS ?rest5r
  case hy5r => intro w0 hSw; obtain ⟨a0, a1⟩ := hSw; go_simp; try with_reducible rfl
  simp only [Act.put, List.setIfInBounds_toArray, List.set_cons_zero, List.set_cons_succ]
  refine late_take (i := 6) (some 22) rfl rfl (by kernel_rfl) (by kernel_rfl) (by kernel_rfl) (by kernel_rfl) (by kernel_rfl) (fun _ _ _ h => h) (by rfl) (v := ?v6r) ?hy6r hS ?rest6r
  case hy6r => intro w0 hSw; obtain ⟨a0, a1⟩ := hSw; go_simp; try with_reducible rfl
  simp only [Act.put, List.setIfInBounds_toArray, List.set_cons_zero, List.set_cons_succ]
  refine late_take (i := 7) (some 23) rfl rfl (by kernel_rfl) (by kernel_rfl) (by kernel_rfl) (by kernel_rfl) (by kernel_rfl) (fun _ _ _ h => h) (by rfl) (v := ?v7r) ?hy7r hS ?rest7r
  case hy7r => intro w0 hSw; obtain ⟨a0, a1⟩ := hSw; go_simp; try with_reducible rfl
  simp only [Act.put, List.setIfInBounds_toArray, List.set_cons_zero, List.set_cons_succ]
  refine late_take (i := 8) (some 24) rfl rfl (by kernel_rfl) (by kernel_rfl) (by kernel_rfl) (by kernel_rfl) (by kernel_rfl) (fun _ _ _ h => h) (by rfl) (v := .int .u64 (b : Int)) ?hy8r hS ?rest8r
  case hy8r => intro w0 hSw; obtain ⟨a0, a1⟩ := hSw; go_simp; exact (Value.int.inj HBe.out).2
  simp only [Act.put, List.setIfInBounds_toArray, List.set_cons_zero, List.set_cons_succ]
  refine late_take (i := 9) (some 25) rfl rfl (by kernel_rfl) (by kernel_rfl) (by kernel_rfl) (by kernel_rfl) (by kernel_rfl) (fun _ _ _ h => h) (by rfl) (v := .int .i64 (b : Int)) ?hy9r hS ?rest9r
  case hy9r => intro w0 hSw; obtain ⟨a0, a1⟩ := hSw; go_simp; exact HBw.out
  simp only [Act.put, List.setIfInBounds_toArray, List.set_cons_zero, List.set_cons_succ]
  refine late_take (i := 10) (some 7) rfl rfl (by kernel_rfl) (by kernel_rfl) (by kernel_rfl) (by kernel_rfl) (by kernel_rfl) (fun _ _ _ h => h) (by rfl) (v := ?v10r) ?hy10r hS ?rest10r
  case hy10r => intro w0 hSw; obtain ⟨a0, a1⟩ := hSw; go_simp; try with_reducible rfl
  simp only [Act.put, List.setIfInBounds_toArray, List.set_cons_zero, List.set_cons_succ]
  refine late_take (i := 11) (some 8) rfl rfl (by kernel_rfl) (by kernel_rfl) (by kernel_rfl) (by kernel_rfl) (by kernel_rfl) (fun _ _ _ h => h) (by rfl) (v := ?v11r) ?hy11r hS ?rest11r
  case hy11r => intro w0 hSw; obtain ⟨a0, a1⟩ := hSw; go_simp; try with_reducible rfl
  simp only [Act.put, List.setIfInBounds_toArray, List.set_cons_zero, List.set_cons_succ]
  refine late_done (by kernel_rfl) ?_ _
  refine NoPanic.normal ?_
  have HB1 := hid (show Below w.heap.size w (w.alloc (.cells #[.int .i64 x0, .int .i64 x1] 62 (0, 0))).drew from HB0.out.drew)
  clear hS hS0 HS0 HB0 HAe HBe HAw HBw
  generalize (w.alloc (.cells #[.int .i64 x0, .int .i64 x1] 62 (0, 0))).drew = U1 at HB1 ⊢
  go_wp2
  have HVu := hid (show Below w.heap.size w U1.drew from HB1.out.drew)
  refine wp_region_noPanic ?_
  refine any_begin 16 (by kernel_rfl) (by kernel_rfl) ?_
  refine late_begin (fun _ => True) (fun _ => false) trivial (fun hS => ?_)
  refine late_take (i := 0) (some 36) rfl rfl (by kernel_rfl) (by kernel_rfl) (by kernel_rfl) (by kernel_rfl) (by kernel_rfl) (fun _ _ _ h => h) (by rfl) (v := ?v0u) ?hy0u hS ?rest0u
  case hy0u => intro w0 hSw; go_simp; try with_reducible rfl
  simp only [Act.put, List.setIfInBounds_toArray, List.set_cons_zero, List.set_cons_succ]
  refine late_take (i := 1) (some 37) rfl rfl (by kernel_rfl) (by kernel_rfl) (by kernel_rfl) (by kernel_rfl) (by kernel_rfl) (fun _ _ _ h => h) (by rfl) (v := ?v1u) ?hy1u hS ?rest1u
  case hy1u => intro w0 hSw; go_simp; try with_reducible rfl
  simp only [Act.put, List.setIfInBounds_toArray, List.set_cons_zero, List.set_cons_succ]
  refine late_take (i := 2) (some 38) rfl rfl (by kernel_rfl) (by kernel_rfl) (by kernel_rfl) (by kernel_rfl) (by kernel_rfl) (fun _ _ _ h => h) (by rfl) (v := ?v2u) ?hy2u hS ?rest2u
  case hy2u => intro w0 hSw; go_simp; try with_reducible rfl
  simp only [Act.put, List.setIfInBounds_toArray, List.set_cons_zero, List.set_cons_succ]
  refine late_take (i := 3) (some 39) rfl rfl (by kernel_rfl) (by kernel_rfl) (by kernel_rfl) (by kernel_rfl) (by kernel_rfl) (fun _ _ _ h => h) (by rfl) (v := .slice (some ad) 0 c) ?hy3u hS ?rest3u
  case hy3u => intro w0 hSw; go_simp; try with_reducible rfl
  simp only [Act.put, List.setIfInBounds_toArray, List.set_cons_zero, List.set_cons_succ]
  refine late_take (i := 5) (some 41) rfl rfl (by kernel_rfl) (by kernel_rfl) (by kernel_rfl) (by kernel_rfl) (by kernel_rfl) (fun _ _ _ h => h) (by rfl) (v := ?v5u) ?hy5u hS ?rest5u
  case hy5u => intro w0 hSw; go_simp; try with_reducible rfl
  simp only [Act.put, List.setIfInBounds_toArray, List.set_cons_zero, List.set_cons_succ]
  refine late_take (i := 8) (some 44) rfl rfl (by kernel_rfl) (by kernel_rfl) (by kernel_rfl) (by kernel_rfl) (by kernel_rfl) (fun _ _ _ h => h) (by rfl) (v := ?v8u) ?hy8u hS ?rest8u
  case hy8u => intro w0 hSw; go_simp; try with_reducible rfl
  simp only [Act.put, List.setIfInBounds_toArray, List.set_cons_zero, List.set_cons_succ]
  refine late_take (i := 11) (some 47) rfl rfl (by kernel_rfl) (by kernel_rfl) (by kernel_rfl) (by kernel_rfl) (by kernel_rfl) (fun _ _ _ h => h) (by rfl) (v := ?v11u) ?hy11u hS ?rest11u
  case hy11u => intro w0 hSw; go_simp; try with_reducible rfl
  simp only [Act.put, List.setIfInBounds_toArray, List.set_cons_zero, List.set_cons_succ]
  refine late_take (i := 12) (some 48) rfl rfl (by kernel_rfl) (by kernel_rfl) (by kernel_rfl) (by kernel_rfl) (by kernel_rfl) (fun _ _ _ h => h) (by rfl) (v := ?v12u) ?hy12u hS ?rest12u
  case hy12u => intro w0 hSw; go_simp; try with_reducible rfl
  simp only [Act.put, List.setIfInBounds_toArray, List.set_cons_zero, List.set_cons_succ]
  refine late_take (i := 13) (some 49) rfl rfl (by kernel_rfl) (by kernel_rfl) (by kernel_rfl) (by kernel_rfl) (by kernel_rfl) (fun _ _ _ h => h) (by rfl) (v := .slice (some ad) 0 c) ?hy13u hS ?rest13u
  case hy13u => intro w0 hSw; go_simp; try with_reducible rfl; try omega
  simp only [Act.put, List.setIfInBounds_toArray, List.set_cons_zero, List.set_cons_succ]
  refine wpAnyD_one (i := 4) (by kernel_rfl) rfl (fun K hK => ?_)
  rw [if_pos (by rfl)]
  refine wp_append_own_at (.tmp 36) (.tmp 39) 22 rfl U1.drew.heap.size 25 i0 _ 2 32 Tryd.underlying22 hi0 hz0 hz1 hz2 rfl (by decide) (.slice none 0 0) 0 [] (by go_simp) (OwnF.nil _ _) ad 0 c [] (by go_simp) rfl (fun j u hj => by simp at hj) (fun u hu => by simp at hu) (by unfold maxLen; omega) (by omega) (Nat.le_refl _) ?_
  intro v' wa hown hgr _
  rw [Nat.zero_add, List.nil_append] at hown
  obtain ⟨qu, du, rfl⟩ := own_slice hown
  have HOuA := hid (show OwnF wa U1.drew.heap.size (.slice qu 0 du) (([] : List (B × B))) from by exact hown)
  have HBuA := hid (below_grown hgr)
  clear hown hgr
  show K (Act.put _ (some 40) _) _
  refine hK _ _ ⟨fun _ => trivial, ?_⟩
  clear hK K
  simp only [Act.put, List.setIfInBounds_toArray, List.set_cons_zero, List.set_cons_succ]
  refine wpAnyD_one (i := 6) (by kernel_rfl) rfl (fun K hK => ?_)
  go_simp
  go_at_call 31
  refine (HDa.out _).mono ?_
  rintro e wd ⟨rfl, hwd⟩
  subst wd
  refine hK _ _ ⟨fun _ => trivial, ?_⟩
  clear hK K
  refine late_take (i := 7) (some 43) rfl rfl (by kernel_rfl) (by kernel_rfl) (by kernel_rfl) (by kernel_rfl) (by kernel_rfl) (fun _ _ _ h => h) (by rfl) (v := ?v7u) ?hy7u hS ?rest7u
  case hy7u => intro w0 hSw; go_simp; try with_reducible rfl
  simp only [Act.put, List.setIfInBounds_toArray, List.set_cons_zero, List.set_cons_succ]
  refine wpAnyD_one (i := 9) (by kernel_rfl) rfl (fun K hK => ?_)
  go_simp
  have hb5 := below_new wa (.cells #[.string ⟨#[99, 111, 110, 116, 101, 110, 116, 45, 108, 101, 110, 103, 116, 104]⟩, .string TA, .string ⟨#[116, 114, 97, 110, 115, 102, 101, 114, 45, 101, 110, 99, 111, 100, 105, 110, 103]⟩, .string ⟨#[99, 104, 117, 110, 107, 101, 100]⟩] 25 (0, 0))
  have HBuB := hid (below_out HBuA.out hb5)
  have HOuB := hid (HOuA.out.keep hb5)
  have HCu := hid (cells_new wa [.string ⟨#[99, 111, 110, 116, 101, 110, 116, 45, 108, 101, 110, 103, 116, 104]⟩, .string TA, .string ⟨#[116, 114, 97, 110, 115, 102, 101, 114, 45, 101, 110, 99, 111, 100, 105, 110, 103]⟩, .string ⟨#[99, 104, 117, 110, 107, 101, 100]⟩] 25)
  refine hK _ _ ⟨fun _ => trivial, ?_⟩
  clear hK K hb5
  refine wpAnyD_one (i := 10) (by kernel_rfl) rfl (fun K hK => ?_)
  rw [if_pos (by rfl)]
  refine wp_append_own_at (.tmp 40) (.tmp 45) 22 rfl U1.drew.heap.size 25 i0 _ 2 32 Tryd.underlying22 hi0 hz0 hz1 hz2 rfl (by decide) (.slice qu 0 du) 0 (fldC (([] : List (B × B)))) (by go_simp) (by have h9 := HOuB.out; unfold OwnF at h9; exact h9) ⟨wa.heap.size, 0, none⟩ 2 2 [.string ⟨#[99, 111, 110, 116, 101, 110, 116, 45, 108, 101, 110, 103, 116, 104]⟩, .string TA, .string ⟨#[116, 114, 97, 110, 115, 102, 101, 114, 45, 101, 110, 99, 111, 100, 105, 110, 103]⟩, .string ⟨#[99, 104, 117, 110, 107, 101, 100]⟩] (by go_simp) rfl HCu.out (by simp [Value.oneCell']) (by unfold maxLen; omega) (by omega) HBuB.out.size ?_
  intro v' wb hown hgr _
  obtain ⟨quB, duB, rfl⟩ := own_slice hown
  have hpc : [Value.string ⟨#[99, 111, 110, 116, 101, 110, 116, 45, 108, 101, 110, 103, 116, 104]⟩, Value.string TA, Value.string ⟨#[116, 114, 97, 110, 115, 102, 101, 114, 45, 101, 110, 99, 111, 100, 105, 110, 103]⟩, Value.string ⟨#[99, 104, 117, 110, 107, 101, 100]⟩] = fldC [(lclB, told 10 a), (lteB, chB)] := by rw [← HTA.out]; rfl
  rw [hpc, ← fldC_app] at hown
  have HOuC := hid (show OwnF wb U1.drew.heap.size (.slice quB (0 + 2) duB) (([] : List (B × B)) ++ [(lclB, told 10 a), (lteB, chB)]) from by unfold OwnF; rw [List.length_append]; exact hown)
  have HBuC := hid (HBuB.out.trans (OwnF.below HOuB.out HBuB.out.size hgr))
  clear hown hgr hpc
  show K (Act.put _ (some 46) _) _
  refine hK _ _ ⟨fun _ => trivial, ?_⟩
  clear hK K
  simp only [Act.put, List.setIfInBounds_toArray, List.set_cons_zero, List.set_cons_succ]
  refine wpAnyD_one (i := 14) (by kernel_rfl) rfl (fun K hK => ?_)
  rw [if_pos (by rfl)]
  refine wp_append_own_at (.tmp 46) (.tmp 49) 22 rfl U1.drew.heap.size 25 i0 _ 2 32 Tryd.underlying22 hi0 hz0 hz1 hz2 rfl (by decide) (.slice quB (0 + 2) duB) (0 + 2) (fldC (([] : List (B × B)) ++ [(lclB, told 10 a), (lteB, chB)])) (by go_simp) (by have h9 := HOuC.out; unfold OwnF at h9; rw [List.length_append] at h9; exact h9) ad 0 c [] (by go_simp) rfl (fun j u hj => by simp at hj) (fun u hu => by simp at hu) (by unfold maxLen; omega) (by omega) HBuC.out.size ?_
  intro v' wc hown hgr _
  obtain ⟨quC, duC, rfl⟩ : ∃ q d, v' = .slice q (0 + 2) d := by have h9 := own_slice hown; rw [show 0 + 2 + 0 = 0 + 2 by omega] at h9; exact h9
  have HOuD := hid (show OwnF wc U1.drew.heap.size (.slice quC (0 + 2) duC) (smugA [] 0 a) from by rw [List.append_nil] at hown; exact hown)
  have HBuD := hid (HBuC.out.trans (OwnF.below HOuC.out HBuC.out.size hgr))
  clear hown hgr
  show K (Act.put _ (some 50) _) _
  refine hK _ _ ⟨fun _ => trivial, ?_⟩
  clear hK K
  simp only [Act.put, List.setIfInBounds_toArray, List.set_cons_zero, List.set_cons_succ]
  refine late_take (i := 15) (some 9) rfl rfl (by kernel_rfl) (by kernel_rfl) (by kernel_rfl) (by kernel_rfl) (by kernel_rfl) (fun _ _ _ h => h) (by rfl) (v := ?v15u) ?hy15u hS ?rest15u
  case hy15u => intro w0 hSw; go_simp; try with_reducible rfl
  simp only [Act.put, List.setIfInBounds_toArray, List.set_cons_zero, List.set_cons_succ]
  refine late_done (by kernel_rfl) ?_ _
  refine NoPanic.normal ?_
  have HB2 := hid (HVu.out.trans (HBuD.out.mono HVu.out.size))
  have HFA := hid (OwnF.fat HOuD.out)
  clear HVu HBuD HOuD HOuA HBuA HOuB HBuB HOuC HBuC HCu
  go_wp2
  have HVv := hid (show Below w.heap.size w wc.drew from HB2.out.drew)
  refine wp_region_noPanic ?_
  refine any_begin 18 (by kernel_rfl) (by kernel_rfl) ?_
  refine late_begin (fun _ => True) (fun _ => false) trivial (fun hS => ?_)
  refine late_take (i := 0) (some 51) rfl rfl (by kernel_rfl) (by kernel_rfl) (by kernel_rfl) (by kernel_rfl) (by kernel_rfl) (fun _ _ _ h => h) (by rfl) (v := ?v0v) ?hy0v hS ?rest0v
  case hy0v => intro w0 hSw; go_simp; try with_reducible rfl
  simp only [Act.put, List.setIfInBounds_toArray, List.set_cons_zero, List.set_cons_succ]
  refine late_take (i := 1) (some 52) rfl rfl (by kernel_rfl) (by kernel_rfl) (by kernel_rfl) (by kernel_rfl) (by kernel_rfl) (fun _ _ _ h => h) (by rfl) (v := ?v1v) ?hy1v hS ?rest1v
  case hy1v => intro w0 hSw; go_simp; try with_reducible rfl
  simp only [Act.put, List.setIfInBounds_toArray, List.set_cons_zero, List.set_cons_succ]
  refine late_take (i := 2) (some 53) rfl rfl (by kernel_rfl) (by kernel_rfl) (by kernel_rfl) (by kernel_rfl) (by kernel_rfl) (fun _ _ _ h => h) (by rfl) (v := ?v2v) ?hy2v hS ?rest2v
  case hy2v => intro w0 hSw; go_simp; try with_reducible rfl
  simp only [Act.put, List.setIfInBounds_toArray, List.set_cons_zero, List.set_cons_succ]
  refine late_take (i := 3) (some 54) rfl rfl (by kernel_rfl) (by kernel_rfl) (by kernel_rfl) (by kernel_rfl) (by kernel_rfl) (fun _ _ _ h => h) (by rfl) (v := .slice (some ad) 0 c) ?hy3v hS ?rest3v
  case hy3v => intro w0 hSw; go_simp; try with_reducible rfl
  simp only [Act.put, List.setIfInBounds_toArray, List.set_cons_zero, List.set_cons_succ]
  refine late_take (i := 5) (some 56) rfl rfl (by kernel_rfl) (by kernel_rfl) (by kernel_rfl) (by kernel_rfl) (by kernel_rfl) (fun _ _ _ h => h) (by rfl) (v := ?v5v) ?hy5v hS ?rest5v
  case hy5v => intro w0 hSw; go_simp; try with_reducible rfl
  simp only [Act.put, List.setIfInBounds_toArray, List.set_cons_zero, List.set_cons_succ]
  refine late_take (i := 8) (some 59) rfl rfl (by kernel_rfl) (by kernel_rfl) (by kernel_rfl) (by kernel_rfl) (by kernel_rfl) (fun _ _ _ h => h) (by rfl) (v := ?v8v) ?hy8v hS ?rest8v
  case hy8v => intro w0 hSw; go_simp; try with_reducible rfl
  simp only [Act.put, List.setIfInBounds_toArray, List.set_cons_zero, List.set_cons_succ]
  refine late_take (i := 13) (some 64) rfl rfl (by kernel_rfl) (by kernel_rfl) (by kernel_rfl) (by kernel_rfl) (by kernel_rfl) (fun _ _ _ h => h) (by rfl) (v := ?v13v) ?hy13v hS ?rest13v
  case hy13v => intro w0 hSw; go_simp; try with_reducible rfl
  simp only [Act.put, List.setIfInBounds_toArray, List.set_cons_zero, List.set_cons_succ]
  refine late_take (i := 14) (some 65) rfl rfl (by kernel_rfl) (by kernel_rfl) (by kernel_rfl) (by kernel_rfl) (by kernel_rfl) (fun _ _ _ h => h) (by rfl) (v := ?v14v) ?hy14v hS ?rest14v
  case hy14v => intro w0 hSw; go_simp; try with_reducible rfl
  simp only [Act.put, List.setIfInBounds_toArray, List.set_cons_zero, List.set_cons_succ]
  refine late_take (i := 15) (some 66) rfl rfl (by kernel_rfl) (by kernel_rfl) (by kernel_rfl) (by kernel_rfl) (by kernel_rfl) (fun _ _ _ h => h) (by rfl) (v := .slice (some ad) 0 c) ?hy15v hS ?rest15v
  case hy15v => intro w0 hSw; go_simp; try with_reducible rfl; try omega
  simp only [Act.put, List.setIfInBounds_toArray, List.set_cons_zero, List.set_cons_succ]
  refine wpAnyD_one (i := 4) (by kernel_rfl) rfl (fun K hK => ?_)
  rw [if_pos (by rfl)]
  refine wp_append_own_at (.tmp 51) (.tmp 54) 22 rfl wc.drew.heap.size 25 i0 _ 2 32 Tryd.underlying22 hi0 hz0 hz1 hz2 rfl (by decide) (.slice none 0 0) 0 [] (by go_simp) (OwnF.nil _ _) ad 0 c [] (by go_simp) rfl (fun j u hj => by simp at hj) (fun u hu => by simp at hu) (by unfold maxLen; omega) (by omega) (Nat.le_refl _) ?_
  intro v' wx hown hgr _
  rw [Nat.zero_add, List.nil_append] at hown
  obtain ⟨qv, dv, rfl⟩ := own_slice hown
  have HOvA := hid (show OwnF wx wc.drew.heap.size (.slice qv 0 dv) (([] : List (B × B))) from by exact hown)
  have HBvA := hid (below_grown hgr)
  clear hown hgr
  show K (Act.put _ (some 55) _) _
  refine hK _ _ ⟨fun _ => trivial, ?_⟩
  clear hK K
  simp only [Act.put, List.setIfInBounds_toArray, List.set_cons_zero, List.set_cons_succ]
  refine wpAnyD_one (i := 6) (by kernel_rfl) rfl (fun K hK => ?_)
  go_simp
  go_at_call 31
  refine (HDa.out _).mono ?_
  rintro e wd ⟨rfl, hwd⟩
  subst wd
  refine hK _ _ ⟨fun _ => trivial, ?_⟩
  clear hK K
  refine late_take (i := 7) (some 58) rfl rfl (by kernel_rfl) (by kernel_rfl) (by kernel_rfl) (by kernel_rfl) (by kernel_rfl) (fun _ _ _ h => h) (by rfl) (v := ?v7v) ?hy7v hS ?rest7v
  case hy7v => intro w0 hSw; go_simp; try with_reducible rfl
  simp only [Act.put, List.setIfInBounds_toArray, List.set_cons_zero, List.set_cons_succ]
  refine wpAnyD_one (i := 9) (by kernel_rfl) rfl (fun K hK => ?_)
  go_simp
  go_at_call 31
  refine (HDb.out _).mono ?_
  rintro e wd ⟨rfl, hwd⟩
  subst wd
  refine hK _ _ ⟨fun _ => trivial, ?_⟩
  clear hK K
  refine late_take (i := 10) (some 61) rfl rfl (by kernel_rfl) (by kernel_rfl) (by kernel_rfl) (by kernel_rfl) (by kernel_rfl) (fun _ _ _ h => h) (by rfl) (v := ?v10v) ?hy10v hS ?rest10v
  case hy10v => intro w0 hSw; go_simp; try with_reducible rfl
  simp only [Act.put, List.setIfInBounds_toArray, List.set_cons_zero, List.set_cons_succ]
  refine wpAnyD_one (i := 11) (by kernel_rfl) rfl (fun K hK => ?_)
  go_simp
  have hb5 := below_new wx (.cells #[.string ⟨#[67, 111, 110, 116, 101, 110, 116, 45, 76, 101, 110, 103, 116, 104]⟩, .string TA, .string ⟨#[67, 79, 78, 84, 69, 78, 84, 45, 76, 69, 78, 71, 84, 72]⟩, .string TB] 25 (0, 0))
  have HBvB := hid (below_out HBvA.out hb5)
  have HOvB := hid (HOvA.out.keep hb5)
  have HCv := hid (cells_new wx [.string ⟨#[67, 111, 110, 116, 101, 110, 116, 45, 76, 101, 110, 103, 116, 104]⟩, .string TA, .string ⟨#[67, 79, 78, 84, 69, 78, 84, 45, 76, 69, 78, 71, 84, 72]⟩, .string TB] 25)
  refine hK _ _ ⟨fun _ => trivial, ?_⟩
  clear hK K hb5
  refine wpAnyD_one (i := 12) (by kernel_rfl) rfl (fun K hK => ?_)
  rw [if_pos (by rfl)]
  refine wp_append_own_at (.tmp 55) (.tmp 62) 22 rfl wc.drew.heap.size 25 i0 _ 2 32 Tryd.underlying22 hi0 hz0 hz1 hz2 rfl (by decide) (.slice qv 0 dv) 0 (fldC (([] : List (B × B)))) (by go_simp) (by have h9 := HOvB.out; unfold OwnF at h9; exact h9) ⟨wx.heap.size, 0, none⟩ 2 2 [.string ⟨#[67, 111, 110, 116, 101, 110, 116, 45, 76, 101, 110, 103, 116, 104]⟩, .string TA, .string ⟨#[67, 79, 78, 84, 69, 78, 84, 45, 76, 69, 78, 71, 84, 72]⟩, .string TB] (by go_simp) rfl HCv.out (by simp [Value.oneCell']) (by unfold maxLen; omega) (by omega) HBvB.out.size ?_
  intro v' wy hown hgr _
  obtain ⟨qvB, dvB, rfl⟩ := own_slice hown
  have hpc : [Value.string ⟨#[67, 111, 110, 116, 101, 110, 116, 45, 76, 101, 110, 103, 116, 104]⟩, Value.string TA, Value.string ⟨#[67, 79, 78, 84, 69, 78, 84, 45, 76, 69, 78, 71, 84, 72]⟩, Value.string TB] = fldC [(clB, told 10 a), (uclB, told 10 b)] := by rw [← HTA.out, ← HTB.out]; rfl
  rw [hpc, ← fldC_app] at hown
  have HOvC := hid (show OwnF wy wc.drew.heap.size (.slice qvB (0 + 2) dvB) (([] : List (B × B)) ++ [(clB, told 10 a), (uclB, told 10 b)]) from by unfold OwnF; rw [List.length_append]; exact hown)
  have HBvC := hid (HBvB.out.trans (OwnF.below HOvB.out HBvB.out.size hgr))
  clear hown hgr hpc
  show K (Act.put _ (some 63) _) _
  refine hK _ _ ⟨fun _ => trivial, ?_⟩
  clear hK K
  simp only [Act.put, List.setIfInBounds_toArray, List.set_cons_zero, List.set_cons_succ]
  refine wpAnyD_one (i := 16) (by kernel_rfl) rfl (fun K hK => ?_)
  rw [if_pos (by rfl)]
  refine wp_append_own_at (.tmp 63) (.tmp 66) 22 rfl wc.drew.heap.size 25 i0 _ 2 32 Tryd.underlying22 hi0 hz0 hz1 hz2 rfl (by decide) (.slice qvB (0 + 2) dvB) (0 + 2) (fldC (([] : List (B × B)) ++ [(clB, told 10 a), (uclB, told 10 b)])) (by go_simp) (by have h9 := HOvC.out; unfold OwnF at h9; rw [List.length_append] at h9; exact h9) ad 0 c [] (by go_simp) rfl (fun j u hj => by simp at hj) (fun u hu => by simp at hu) (by unfold maxLen; omega) (by omega) HBvC.out.size ?_
  intro v' wz hown hgr _
  obtain ⟨qvC, dvC, rfl⟩ : ∃ q d, v' = .slice q (0 + 2) d := by have h9 := own_slice hown; rw [show 0 + 2 + 0 = 0 + 2 by omega] at h9; exact h9
  have HOvD := hid (show OwnF wz wc.drew.heap.size (.slice qvC (0 + 2) dvC) (smugB [] 0 a b) from by rw [List.append_nil] at hown; exact hown)
  have HBvD := hid (HBvC.out.trans (OwnF.below HOvC.out HBvC.out.size hgr))
  clear hown hgr
  show K (Act.put _ (some 67) _) _
  refine hK _ _ ⟨fun _ => trivial, ?_⟩
  clear hK K
  simp only [Act.put, List.setIfInBounds_toArray, List.set_cons_zero, List.set_cons_succ]
  refine late_take (i := 17) (some 10) rfl rfl (by kernel_rfl) (by kernel_rfl) (by kernel_rfl) (by kernel_rfl) (by kernel_rfl) (fun _ _ _ h => h) (by rfl) (v := ?v17v) ?hy17v hS ?rest17v
  case hy17v => intro w0 hSw; go_simp; try with_reducible rfl
  simp only [Act.put, List.setIfInBounds_toArray, List.set_cons_zero, List.set_cons_succ]
  refine late_done (by kernel_rfl) ?_ _
  refine NoPanic.normal ?_
  have HB3 := hid (HVv.out.trans (HBvD.out.mono HVv.out.size))
  have HFB := hid (OwnF.fat HOvD.out)
  have HFA3 := hid (show FAt wz quC (smugA [] 0 a) from (show FAt wc.drew quC (smugA [] 0 a) from HFA.out).next HBvD.out)
  clear HVv HBvD HOvD HOvA HBvA HOvB HBvB HOvC HBvC HCv HFA HB2
  obtain ⟨VB, hVB⟩ : ∃ V, errOf EB = V := ⟨_, rfl⟩
  rw [hVB] at HQB
  by_cases hab : a = b
  · subst hab
    clear hVB
    go_wp2_with (first | (go_at_call 27; (with_reducible refine (HQA.out _ _ _ HB3.out HFA3.out).mono ?_); rintro e w4 ⟨rfl, hb⟩; have hb2 := below_new w4 (frmO KA NA); have HB4 := hid (below_out (below_out HB3.out hb) hb2); have HFB4 := hid ((HFB.out.next hb).next hb2); clear hb hb2 HQA) | (go_at_call 27; (with_reducible refine (HQB.out _ _ _ HB4.out HFB4.out).mono ?_); rintro e w5 ⟨rfl, hb⟩; have hb2 := below_new w5 (frmO KB NB); have HB5 := hid (below_out (below_out HB4.out hb) hb2); clear hb hb2 HQB) | (go_at_call 24; (with_reducible refine (HNm.out _ HB5.out).mono ?_); rintro e w6 ⟨rfl, hb⟩; have HB6 := hid (below_out HB5.out hb); clear hb HB5) | (go_at_call 26; (with_reducible refine (HSu.out _ HB6.out).mono ?_); rintro e w8 ⟨rfl, hb⟩; have HB8 := hid (below_out HB6.out hb); clear hb HSu))
    go_ret
    exact ⟨rfl, HB8.out⟩
  · have hEE := HEB.out hab
    subst hEE
    rw [show errOf 30 = .iface 83 (.int .i64 30) from rfl] at hVB
    subst hVB
    have hab1 : ((a : Int) == (b : Int)) = false := by simp; omega
    go_wp2_with (first | (go_at_call 27; (with_reducible refine (HQA.out _ _ _ HB3.out HFA3.out).mono ?_); rintro e w4 ⟨rfl, hb⟩; have hb2 := below_new w4 (frmO KA NA); have HB4 := hid (below_out (below_out HB3.out hb) hb2); have HFB4 := hid ((HFB.out.next hb).next hb2); clear hb hb2 HQA) | (go_at_call 27; (with_reducible refine (HQB.out _ _ _ HB4.out HFB4.out).mono ?_); rintro e w5 ⟨rfl, hb⟩; have hb2 := below_new w5 (frmO KB NB); have HB5 := hid (below_out (below_out HB4.out hb) hb2); clear hb hb2 HQB) | (go_at_call 24; (with_reducible refine (HNm.out _ HB5.out).mono ?_); rintro e w6 ⟨rfl, hb⟩; have HB6 := hid (below_out HB5.out hb); clear hb HB5) | (go_at_call 24; (with_reducible refine (HNm.out _ HB6.out).mono ?_); rintro e w7 ⟨rfl, hb⟩; have HB7 := hid (below_out HB6.out hb); clear hb HNm) | (go_at_call 26; (with_reducible refine (HSu.out _ HB7.out).mono ?_); rintro e w8 ⟨rfl, hb⟩; have HB8 := hid (below_out HB7.out hb); clear hb HSu))
    go_ret
    exact ⟨rfl, HB8.out⟩
set_option maxRecDepth 20000 in
set_option maxHeartbeats 16000000 in
theorem smug_none (x0 x1 wh : Int) (w : World) (hmx : MxL w) (hE : EnvE w) :
    Calls Tryd.prog 7 #[.slice none 0 0, .agg #[.int .i64 x0, .int .i64 x1], .int .i64 wh] w fun e w' => e = .returned (.bool true) ∧ Below w.heap.size w w' := by
  have hn : ([] : List (B × B)).length = 0 := rfl
  have hsz : szB [] := fun f hf => by simp at hf
  have hnn : 0 + 2 ≤ 1048576 := by decide
  obtain ⟨a, ha, hae⟩ := rem_at x0 1000 (by decide)
  obtain ⟨b, hb, hbe⟩ := rem_at x1 1000 (by decide)
  have HAe := hid (show Value.int .u64 ((IntKind.u64.wrap x0).tmod 1000) = .int .u64 (a : Int) from by rw [show (1000 : Int) = ((1000 : Nat) : Int) from rfl, hae])
  have HBe := hid (show Value.int .u64 ((IntKind.u64.wrap x1).tmod 1000) = .int .u64 (b : Int) from by rw [show (1000 : Int) = ((1000 : Nat) : Int) from rfl, hbe])
  have HAw := hid (wrapI a (by omega))
  have HBw := hid (wrapI b (by omega))
  clear hae hbe
  have hlA : (smugA [] 0 a).length = 0 + 2 := by unfold smugA; rw [smug_len, hn]
  have hlB : (smugB [] 0 a b).length = 0 + 2 := by unfold smugB; rw [smug_len, hn]
  have hta := told_len a
  have htb := told_len b
  have hzA : szB (smugA [] 0 a) := smug_szB 0 hsz ⟨by show lclB.length ≤ 1048576; decide, by show (told 10 a).length ≤ 1048576; omega⟩ ⟨by decide, by decide⟩
  have hzB : szB (smugB [] 0 a b) := smug_szB 0 hsz ⟨by show clB.length ≤ 1048576; decide, by show (told 10 a).length ≤ 1048576; omega⟩ ⟨by show uclB.length ≤ 1048576; decide, by show (told 10 b).length ≤ 1048576; omega⟩
  have HQA := hid (show ∀ (W : World) (p : Option Addr) (d : Nat), Below w.heap.size w W → FAt W p (smugA [] 0 a) → _ from fun W p d hb h => prequest ⟨#[]⟩ ⟨#[]⟩ 1 (smugA [] 0 a) p (0 + 2) d hlA W h hzA hnn (hmx.next hb))
  have HQB := hid (show ∀ (W : World) (p : Option Addr) (d : Nat), Below w.heap.size w W → FAt W p (smugB [] 0 a b) → _ from fun W p d hb h => prequest ⟨#[]⟩ ⟨#[]⟩ 1 (smugB [] 0 a b) p (0 + 2) d hlB W h hzB hnn (hmx.next hb))
  have hEA := smugA_frm [] 0 a 1 0
  have hEB : a ≠ b → (frmF 1 (smugB [] 0 a b) 0).2 = 30 := fun h => smugB_frm [] 0 a b ha hb h 1 0
  obtain ⟨⟨⟨KA, NA⟩, EA⟩, hA⟩ : ∃ x, frmF 1 (smugA [] 0 a) 0 = x := ⟨_, rfl⟩
  obtain ⟨⟨⟨KB, NB⟩, EB⟩, hB⟩ : ∃ x, frmF 1 (smugB [] 0 a b) 0 = x := ⟨_, rfl⟩
  rw [hA] at HQA hEA
  rw [hB] at HQB hEB
  dsimp only [frmV] at HQA HQB hEA hEB
  subst hEA
  rw [show errOf 30 = .iface 83 (.int .i64 30) from rfl] at HQA
  have HNm := hid (show ∀ W : World, Below w.heap.size w W → _ from fun W hb => num_any 30 W (hE.next hb))
  rw [show errOf 30 = .iface 83 (.int .i64 30) from rfl] at HNm
  have HSu := hid (show ∀ W : World, Below w.heap.size w W → _ from fun W hb => sure11_any W (hmx.next hb))
  have HDa := hid (show ∀ W : World, _ from fun W => digits_any a ha W)
  have HDb := hid (show ∀ W : World, _ from fun W => digits_any b hb W)
  have HEB := hid hEB
  obtain ⟨TA, hTA⟩ : ∃ T, str (told 10 a) = T := ⟨_, rfl⟩
  obtain ⟨TB, hTB⟩ : ∃ T, str (told 10 b) = T := ⟨_, rfl⟩
  rw [hTA] at HDa
  rw [hTB] at HDb
  have HTA := hid hTA
  have HTB := hid hTB
  obtain ⟨i0, hi0, hz0, hz1, hz2⟩ := info_parts infoF
  have HL := hid hn
  have HS0 := hid (arr2 (w := w) x0 x1 62)
  have HB0 := hid (below_new w (.cells #[.int .i64 x0, .int .i64 x1] 62 (0, 0)))
  clear hlA hlB hta htb hzA hzB hA hB hEB hTA hTB hn hsz hmx hE
  go_enter Tryd.func7, Tryd.ntmps7
  go_wp2
  have hS0 : RdK (w.alloc (.cells #[.int .i64 x0, .int .i64 x1] 62 (0, 0))).drew w.heap.size x0 x1 := ⟨HS0.out.a0, HS0.out.a1⟩
  refine wp_region_noPanic ?_
  refine any_begin 12 (by kernel_rfl) (by kernel_rfl) ?_
  refine late_begin (fun U => RdK U w.heap.size x0 x1) (fun _ => false) hS0 (fun hS => ?_)
  refine late_take (i := 0) (some 16) rfl rfl (by kernel_rfl) (by kernel_rfl) (by kernel_rfl) (by kernel_rfl) (by kernel_rfl) (fun _ _ _ h => h) (by rfl) (v := ?v0r) ?hy0r hS ?rest0r
  case hy0r => intro w0 hSw; obtain ⟨a0, a1⟩ := hSw; go_simp; try with_reducible rfl
  simp only [Act.put, List.setIfInBounds_toArray, List.set_cons_zero, List.set_cons_succ]
  refine late_take (i := 1) (some 17) rfl rfl (by kernel_rfl) (by kernel_rfl) (by kernel_rfl) (by kernel_rfl) (by kernel_rfl) (fun _ _ _ h => h) (by rfl) (v := ?v1r) ?hy1r hS ?rest1r
  case hy1r => intro w0 hSw; obtain ⟨a0, a1⟩ := hSw; go_simp; try with_reducible rfl
  simp only [Act.put, List.setIfInBounds_toArray, List.set_cons_zero, List.set_cons_succ]
  refine late_take (i := 2) (some 18) rfl rfl (by kernel_rfl) (by kernel_rfl) (by kernel_rfl) (by kernel_rfl) (by kernel_rfl) (fun _ _ _ h => h) (by rfl) (v := ?v2r) ?hy2r hS ?rest2r
  case hy2r => intro w0 hSw; obtain ⟨a0, a1⟩ := hSw; go_simp; try with_reducible rfl
  simp only [Act.put, List.setIfInBounds_toArray, List.set_cons_zero, List.set_cons_succ]
  refine late_take (i := 3) (some 19) rfl rfl (by kernel_rfl) (by kernel_rfl) (by kernel_rfl) (by kernel_rfl) (by kernel_rfl) (fun _ _ _ h => h) (by rfl) (v := .int .u64 (a : Int)) ?hy3r hS ?rest3r
  case hy3r => intro w0 hSw; obtain ⟨a0, a1⟩ := hSw; go_simp; exact (Value.int.inj HAe.out).2
  simp only [Act.put, List.setIfInBounds_toArray, List.set_cons_zero, List.set_cons_succ]
  refine late_take (i := 4) (some 20) rfl rfl (by kernel_rfl) (by kernel_rfl) (by kernel_rfl) (by kernel_rfl) (by kernel_rfl) (fun _ _ _ h => h) (by rfl) (v := .int .i64 (a : Int)) ?hy4r hS ?rest4r
  case hy4r => intro w0 hSw; obtain ⟨a0, a1⟩ := hSw; go_simp; exact HAw.out
  simp only [Act.put, List.setIfInBounds_toArray, List.set_cons_zero, List.set_cons_succ]
  refine late_take (i := 5) (some 21) rfl rfl (by kernel_rfl) (by kernel_rfl) (by kernel_rfl) (by kernel_rfl) (by kernel_rfl) (fun _ _ _ h => h) (by rfl) (v := ?v5r) ?hy5r hS ?rest5r
  case hy5r => intro w0 hSw; obtain ⟨a0, a1⟩ := hSw; go_simp; try with_reducible rfl
  simp only [Act.put, List.setIfInBounds_toArray, List.set_cons_zero, List.set_cons_succ]
  refine late_take (i := 6) (some 22) rfl rfl (by kernel_rfl) (by kernel_rfl) (by kernel_rfl) (by kernel_rfl) (by kernel_rfl) (fun _ _ _ h => h) (by rfl) (v := ?v6r) ?hy6r hS ?rest6r
  case hy6r => intro w0 hSw; obtain ⟨a0, a1⟩ := hSw; go_simp; try with_reducible rfl
  simp only [Act.put, List.setIfInBounds_toArray, List.set_cons_zero, List.set_cons_succ]
  refine late_take (i := 7) (some 23) rfl rfl (by kernel_rfl) (by kernel_rfl) (by kernel_rfl) (by kernel_rfl) (by kernel_rfl) (fun _ _ _ h => h) (by rfl) (v := ?v7r) ?hy7r hS ?rest7r
  case hy7r => intro w0 hSw; obtain ⟨a0, a1⟩ := hSw; go_simp; try with_reducible rfl
  simp only [Act.put, List.setIfInBounds_toArray, List.set_cons_zero, List.set_cons_succ]
  refine late_take (i := 8) (some 24) rfl rfl (by kernel_rfl) (by kernel_rfl) (by kernel_rfl) (by kernel_rfl) (by kernel_rfl) (fun _ _ _ h => h) (by rfl) (v := .int .u64 (b : Int)) ?hy8r hS ?rest8r
  case hy8r => intro w0 hSw; obtain ⟨a0, a1⟩ := hSw; go_simp; exact (Value.int.inj HBe.out).2
  simp only [Act.put, List.setIfInBounds_toArray, List.set_cons_zero, List.set_cons_succ]
  refine late_take (i := 9) (some 25) rfl rfl (by kernel_rfl) (by kernel_rfl) (by kernel_rfl) (by kernel_rfl) (by kernel_rfl) (fun _ _ _ h => h) (by rfl) (v := .int .i64 (b : Int)) ?hy9r hS ?rest9r
  case hy9r => intro w0 hSw; obtain ⟨a0, a1⟩ := hSw; go_simp; exact HBw.out
  simp only [Act.put, List.setIfInBounds_toArray, List.set_cons_zero, List.set_cons_succ]
  refine late_take (i := 10) (some 7) rfl rfl (by kernel_rfl) (by kernel_rfl) (by kernel_rfl) (by kernel_rfl) (by kernel_rfl) (fun _ _ _ h => h) (by rfl) (v := ?v10r) ?hy10r hS ?rest10r
  case hy10r => intro w0 hSw; obtain ⟨a0, a1⟩ := hSw; go_simp; try with_reducible rfl
  simp only [Act.put, List.setIfInBounds_toArray, List.set_cons_zero, List.set_cons_succ]
  refine late_take (i := 11) (some 8) rfl rfl (by kernel_rfl) (by kernel_rfl) (by kernel_rfl) (by kernel_rfl) (by kernel_rfl) (fun _ _ _ h => h) (by rfl) (v := ?v11r) ?hy11r hS ?rest11r
  case hy11r => intro w0 hSw; obtain ⟨a0, a1⟩ := hSw; go_simp; try with_reducible rfl
  simp only [Act.put, List.setIfInBounds_toArray, List.set_cons_zero, List.set_cons_succ]
  refine late_done (by kernel_rfl) ?_ _
  refine NoPanic.normal ?_
  have HB1 := hid (show Below w.heap.size w (w.alloc (.cells #[.int .i64 x0, .int .i64 x1] 62 (0, 0))).drew from HB0.out.drew)
  clear hS hS0 HS0 HB0 HAe HBe HAw HBw
  generalize (w.alloc (.cells #[.int .i64 x0, .int .i64 x1] 62 (0, 0))).drew = U1 at HB1 ⊢
  go_wp2
  have HVu := hid (show Below w.heap.size w U1.drew from HB1.out.drew)
  refine wp_region_noPanic ?_
  refine any_begin 16 (by kernel_rfl) (by kernel_rfl) ?_
  refine late_begin (fun _ => True) (fun _ => false) trivial (fun hS => ?_)
  refine late_take (i := 0) (some 36) rfl rfl (by kernel_rfl) (by kernel_rfl) (by kernel_rfl) (by kernel_rfl) (by kernel_rfl) (fun _ _ _ h => h) (by rfl) (v := ?v0u) ?hy0u hS ?rest0u
  case hy0u => intro w0 hSw; go_simp; try with_reducible rfl
  simp only [Act.put, List.setIfInBounds_toArray, List.set_cons_zero, List.set_cons_succ]
  refine late_take (i := 1) (some 37) rfl rfl (by kernel_rfl) (by kernel_rfl) (by kernel_rfl) (by kernel_rfl) (by kernel_rfl) (fun _ _ _ h => h) (by rfl) (v := ?v1u) ?hy1u hS ?rest1u
  case hy1u => intro w0 hSw; go_simp; try with_reducible rfl
  simp only [Act.put, List.setIfInBounds_toArray, List.set_cons_zero, List.set_cons_succ]
  refine late_take (i := 2) (some 38) rfl rfl (by kernel_rfl) (by kernel_rfl) (by kernel_rfl) (by kernel_rfl) (by kernel_rfl) (fun _ _ _ h => h) (by rfl) (v := ?v2u) ?hy2u hS ?rest2u
  case hy2u => intro w0 hSw; go_simp; try with_reducible rfl
  simp only [Act.put, List.setIfInBounds_toArray, List.set_cons_zero, List.set_cons_succ]
  refine late_take (i := 3) (some 39) rfl rfl (by kernel_rfl) (by kernel_rfl) (by kernel_rfl) (by kernel_rfl) (by kernel_rfl) (fun _ _ _ h => h) (by rfl) (v := .slice none 0 0) ?hy3u hS ?rest3u
  case hy3u => intro w0 hSw; go_simp; try with_reducible rfl
  simp only [Act.put, List.setIfInBounds_toArray, List.set_cons_zero, List.set_cons_succ]
  refine late_take (i := 5) (some 41) rfl rfl (by kernel_rfl) (by kernel_rfl) (by kernel_rfl) (by kernel_rfl) (by kernel_rfl) (fun _ _ _ h => h) (by rfl) (v := ?v5u) ?hy5u hS ?rest5u
  case hy5u => intro w0 hSw; go_simp; try with_reducible rfl
  simp only [Act.put, List.setIfInBounds_toArray, List.set_cons_zero, List.set_cons_succ]
  refine late_take (i := 8) (some 44) rfl rfl (by kernel_rfl) (by kernel_rfl) (by kernel_rfl) (by kernel_rfl) (by kernel_rfl) (fun _ _ _ h => h) (by rfl) (v := ?v8u) ?hy8u hS ?rest8u
  case hy8u => intro w0 hSw; go_simp; try with_reducible rfl
  simp only [Act.put, List.setIfInBounds_toArray, List.set_cons_zero, List.set_cons_succ]
  refine late_take (i := 11) (some 47) rfl rfl (by kernel_rfl) (by kernel_rfl) (by kernel_rfl) (by kernel_rfl) (by kernel_rfl) (fun _ _ _ h => h) (by rfl) (v := ?v11u) ?hy11u hS ?rest11u
  case hy11u => intro w0 hSw; go_simp; try with_reducible rfl
  simp only [Act.put, List.setIfInBounds_toArray, List.set_cons_zero, List.set_cons_succ]
  refine late_take (i := 12) (some 48) rfl rfl (by kernel_rfl) (by kernel_rfl) (by kernel_rfl) (by kernel_rfl) (by kernel_rfl) (fun _ _ _ h => h) (by rfl) (v := ?v12u) ?hy12u hS ?rest12u
  case hy12u => intro w0 hSw; go_simp; try with_reducible rfl
  simp only [Act.put, List.setIfInBounds_toArray, List.set_cons_zero, List.set_cons_succ]
  refine late_take (i := 13) (some 49) rfl rfl (by kernel_rfl) (by kernel_rfl) (by kernel_rfl) (by kernel_rfl) (by kernel_rfl) (fun _ _ _ h => h) (by rfl) (v := .slice none 0 0) ?hy13u hS ?rest13u
  case hy13u => intro w0 hSw; go_simp; try with_reducible rfl; try omega
  simp only [Act.put, List.setIfInBounds_toArray, List.set_cons_zero, List.set_cons_succ]
  refine late_take (i := 4) (some 40) rfl rfl (by kernel_rfl) (by kernel_rfl) (by kernel_rfl) (by kernel_rfl) (by kernel_rfl) (fun _ _ _ h => h) (by rfl) (v := ?v4u) ?hy4u hS ?rest4u
  case hy4u => intro w0 hSw; go_simp; try with_reducible rfl
  simp only [Act.put, List.setIfInBounds_toArray, List.set_cons_zero, List.set_cons_succ]
  have HOuA := hid (OwnF.nil U1.drew U1.drew.heap.size)
  have HBuA := hid (Below.refl U1.drew.heap.size U1.drew)
  refine wpAnyD_one (i := 6) (by kernel_rfl) rfl (fun K hK => ?_)
  go_simp
  go_at_call 31
  refine (HDa.out _).mono ?_
  rintro e wd ⟨rfl, hwd⟩
  subst wd
  refine hK _ _ ⟨fun _ => trivial, ?_⟩
  clear hK K
  refine late_take (i := 7) (some 43) rfl rfl (by kernel_rfl) (by kernel_rfl) (by kernel_rfl) (by kernel_rfl) (by kernel_rfl) (fun _ _ _ h => h) (by rfl) (v := ?v7u) ?hy7u hS ?rest7u
  case hy7u => intro w0 hSw; go_simp; try with_reducible rfl
  simp only [Act.put, List.setIfInBounds_toArray, List.set_cons_zero, List.set_cons_succ]
  refine wpAnyD_one (i := 9) (by kernel_rfl) rfl (fun K hK => ?_)
  go_simp
  have hb5 := below_new U1.drew (.cells #[.string ⟨#[99, 111, 110, 116, 101, 110, 116, 45, 108, 101, 110, 103, 116, 104]⟩, .string TA, .string ⟨#[116, 114, 97, 110, 115, 102, 101, 114, 45, 101, 110, 99, 111, 100, 105, 110, 103]⟩, .string ⟨#[99, 104, 117, 110, 107, 101, 100]⟩] 25 (0, 0))
  have HBuB := hid hb5
  have HOuB := hid (HOuA.out.keep hb5)
  have HCu := hid (cells_new U1.drew [.string ⟨#[99, 111, 110, 116, 101, 110, 116, 45, 108, 101, 110, 103, 116, 104]⟩, .string TA, .string ⟨#[116, 114, 97, 110, 115, 102, 101, 114, 45, 101, 110, 99, 111, 100, 105, 110, 103]⟩, .string ⟨#[99, 104, 117, 110, 107, 101, 100]⟩] 25)
  refine hK _ _ ⟨fun _ => trivial, ?_⟩
  clear hK K hb5
  refine wpAnyD_one (i := 10) (by kernel_rfl) rfl (fun K hK => ?_)
  rw [if_pos (by rfl)]
  refine wp_append_own_at (.tmp 40) (.tmp 45) 22 rfl U1.drew.heap.size 25 i0 _ 2 32 Tryd.underlying22 hi0 hz0 hz1 hz2 rfl (by decide) (.slice none 0 0) 0 (fldC (([] : List (B × B)))) (by go_simp) (by have h9 := HOuB.out; unfold OwnF at h9; exact h9) ⟨U1.drew.heap.size, 0, none⟩ 2 2 [.string ⟨#[99, 111, 110, 116, 101, 110, 116, 45, 108, 101, 110, 103, 116, 104]⟩, .string TA, .string ⟨#[116, 114, 97, 110, 115, 102, 101, 114, 45, 101, 110, 99, 111, 100, 105, 110, 103]⟩, .string ⟨#[99, 104, 117, 110, 107, 101, 100]⟩] (by go_simp) rfl HCu.out (by simp [Value.oneCell']) (by unfold maxLen; omega) (by omega) HBuB.out.size ?_
  intro v' wb hown hgr _
  obtain ⟨quB, duB, rfl⟩ := own_slice hown
  have hpc : [Value.string ⟨#[99, 111, 110, 116, 101, 110, 116, 45, 108, 101, 110, 103, 116, 104]⟩, Value.string TA, Value.string ⟨#[116, 114, 97, 110, 115, 102, 101, 114, 45, 101, 110, 99, 111, 100, 105, 110, 103]⟩, Value.string ⟨#[99, 104, 117, 110, 107, 101, 100]⟩] = fldC [(lclB, told 10 a), (lteB, chB)] := by rw [← HTA.out]; rfl
  rw [hpc, ← fldC_app] at hown
  have HOuC := hid (show OwnF wb U1.drew.heap.size (.slice quB (0 + 2) duB) (([] : List (B × B)) ++ [(lclB, told 10 a), (lteB, chB)]) from by unfold OwnF; rw [List.length_append]; exact hown)
  have HBuC := hid (HBuB.out.trans (OwnF.below HOuB.out HBuB.out.size hgr))
  clear hown hgr hpc
  show K (Act.put _ (some 46) _) _
  refine hK _ _ ⟨fun _ => trivial, ?_⟩
  clear hK K
  simp only [Act.put, List.setIfInBounds_toArray, List.set_cons_zero, List.set_cons_succ]
  refine wpAnyD_one (i := 14) (by kernel_rfl) rfl (fun K hK => ?_)
  rw [if_pos (by rfl)]
  refine wp_append_own_noneF (.tmp 46) (.tmp 49) 22 rfl U1.drew.heap.size 25 i0 2 Tryd.underlying22 hi0 (.slice quB (0 + 2) duB) (0 + 2) (fldC (([] : List (B × B)) ++ [(lclB, told 10 a), (lteB, chB)])) (by go_simp) (by have h9 := HOuC.out; unfold OwnF at h9; rw [List.length_append] at h9; exact h9) (by go_simp) ?_
  have HOuD := hid (show OwnF wb U1.drew.heap.size (.slice quB (0 + 2) duB) (smugA [] 0 a) from HOuC.out)
  have HBuD := HBuC
  show K (Act.put _ (some 50) _) _
  refine hK _ _ ⟨fun _ => trivial, ?_⟩
  clear hK K
  simp only [Act.put, List.setIfInBounds_toArray, List.set_cons_zero, List.set_cons_succ]
  refine late_take (i := 15) (some 9) rfl rfl (by kernel_rfl) (by kernel_rfl) (by kernel_rfl) (by kernel_rfl) (by kernel_rfl) (fun _ _ _ h => h) (by rfl) (v := ?v15u) ?hy15u hS ?rest15u
  case hy15u => intro w0 hSw; go_simp; try with_reducible rfl
  simp only [Act.put, List.setIfInBounds_toArray, List.set_cons_zero, List.set_cons_succ]
  refine late_done (by kernel_rfl) ?_ _
  refine NoPanic.normal ?_
  have HB2 := hid (HVu.out.trans (HBuD.out.mono HVu.out.size))
  have HFA := hid (OwnF.fat HOuD.out)
  clear HVu HBuD HOuD HOuA HBuA HOuB HBuB HOuC HBuC HCu
  go_wp2
  have HVv := hid (show Below w.heap.size w wb.drew from HB2.out.drew)
  refine wp_region_noPanic ?_
  refine any_begin 18 (by kernel_rfl) (by kernel_rfl) ?_
  refine late_begin (fun _ => True) (fun _ => false) trivial (fun hS => ?_)
  refine late_take (i := 0) (some 51) rfl rfl (by kernel_rfl) (by kernel_rfl) (by kernel_rfl) (by kernel_rfl) (by kernel_rfl) (fun _ _ _ h => h) (by rfl) (v := ?v0v) ?hy0v hS ?rest0v
  case hy0v => intro w0 hSw; go_simp; try with_reducible rfl
  simp only [Act.put, List.setIfInBounds_toArray, List.set_cons_zero, List.set_cons_succ]
  refine late_take (i := 1) (some 52) rfl rfl (by kernel_rfl) (by kernel_rfl) (by kernel_rfl) (by kernel_rfl) (by kernel_rfl) (fun _ _ _ h => h) (by rfl) (v := ?v1v) ?hy1v hS ?rest1v
  case hy1v => intro w0 hSw; go_simp; try with_reducible rfl
  simp only [Act.put, List.setIfInBounds_toArray, List.set_cons_zero, List.set_cons_succ]
  refine late_take (i := 2) (some 53) rfl rfl (by kernel_rfl) (by kernel_rfl) (by kernel_rfl) (by kernel_rfl) (by kernel_rfl) (fun _ _ _ h => h) (by rfl) (v := ?v2v) ?hy2v hS ?rest2v
  case hy2v => intro w0 hSw; go_simp; try with_reducible rfl
  simp only [Act.put, List.setIfInBounds_toArray, List.set_cons_zero, List.set_cons_succ]
  refine late_take (i := 3) (some 54) rfl rfl (by kernel_rfl) (by kernel_rfl) (by kernel_rfl) (by kernel_rfl) (by kernel_rfl) (fun _ _ _ h => h) (by rfl) (v := .slice none 0 0) ?hy3v hS ?rest3v
  case hy3v => intro w0 hSw; go_simp; try with_reducible rfl
  simp only [Act.put, List.setIfInBounds_toArray, List.set_cons_zero, List.set_cons_succ]
  refine late_take (i := 5) (some 56) rfl rfl (by kernel_rfl) (by kernel_rfl) (by kernel_rfl) (by kernel_rfl) (by kernel_rfl) (fun _ _ _ h => h) (by rfl) (v := ?v5v) ?hy5v hS ?rest5v
  case hy5v => intro w0 hSw; go_simp; try with_reducible rfl
  simp only [Act.put, List.setIfInBounds_toArray, List.set_cons_zero, List.set_cons_succ]
  refine late_take (i := 8) (some 59) rfl rfl (by kernel_rfl) (by kernel_rfl) (by kernel_rfl) (by kernel_rfl) (by kernel_rfl) (fun _ _ _ h => h) (by rfl) (v := ?v8v) ?hy8v hS ?rest8v
  case hy8v => intro w0 hSw; go_simp; try with_reducible rfl
  simp only [Act.put, List.setIfInBounds_toArray, List.set_cons_zero, List.set_cons_succ]
  refine late_take (i := 13) (some 64) rfl rfl (by kernel_rfl) (by kernel_rfl) (by kernel_rfl) (by kernel_rfl) (by kernel_rfl) (fun _ _ _ h => h) (by rfl) (v := ?v13v) ?hy13v hS ?rest13v
  case hy13v => intro w0 hSw; go_simp; try with_reducible rfl
  simp only [Act.put, List.setIfInBounds_toArray, List.set_cons_zero, List.set_cons_succ]
  refine late_take (i := 14) (some 65) rfl rfl (by kernel_rfl) (by kernel_rfl) (by kernel_rfl) (by kernel_rfl) (by kernel_rfl) (fun _ _ _ h => h) (by rfl) (v := ?v14v) ?hy14v hS ?rest14v
  case hy14v => intro w0 hSw; go_simp; try with_reducible rfl
  simp only [Act.put, List.setIfInBounds_toArray, List.set_cons_zero, List.set_cons_succ]
  refine late_take (i := 15) (some 66) rfl rfl (by kernel_rfl) (by kernel_rfl) (by kernel_rfl) (by kernel_rfl) (by kernel_rfl) (fun _ _ _ h => h) (by rfl) (v := .slice none 0 0) ?hy15v hS ?rest15v
  case hy15v => intro w0 hSw; go_simp; try with_reducible rfl; try omega
  simp only [Act.put, List.setIfInBounds_toArray, List.set_cons_zero, List.set_cons_succ]
  refine late_take (i := 4) (some 55) rfl rfl (by kernel_rfl) (by kernel_rfl) (by kernel_rfl) (by kernel_rfl) (by kernel_rfl) (fun _ _ _ h => h) (by rfl) (v := ?v4v) ?hy4v hS ?rest4v
  case hy4v => intro w0 hSw; go_simp; try with_reducible rfl
  simp only [Act.put, List.setIfInBounds_toArray, List.set_cons_zero, List.set_cons_succ]
  have HOvA := hid (OwnF.nil wb.drew wb.drew.heap.size)
  have HBvA := hid (Below.refl wb.drew.heap.size wb.drew)
  refine wpAnyD_one (i := 6) (by kernel_rfl) rfl (fun K hK => ?_)
  go_simp
  go_at_call 31
  refine (HDa.out _).mono ?_
  rintro e wd ⟨rfl, hwd⟩
  subst wd
  refine hK _ _ ⟨fun _ => trivial, ?_⟩
  clear hK K
  refine late_take (i := 7) (some 58) rfl rfl (by kernel_rfl) (by kernel_rfl) (by kernel_rfl) (by kernel_rfl) (by kernel_rfl) (fun _ _ _ h => h) (by rfl) (v := ?v7v) ?hy7v hS ?rest7v
  case hy7v => intro w0 hSw; go_simp; try with_reducible rfl
  simp only [Act.put, List.setIfInBounds_toArray, List.set_cons_zero, List.set_cons_succ]
  refine wpAnyD_one (i := 9) (by kernel_rfl) rfl (fun K hK => ?_)
  go_simp
  go_at_call 31
  refine (HDb.out _).mono ?_
  rintro e wd ⟨rfl, hwd⟩
  subst wd
  refine hK _ _ ⟨fun _ => trivial, ?_⟩
  clear hK K
  refine late_take (i := 10) (some 61) rfl rfl (by kernel_rfl) (by kernel_rfl) (by kernel_rfl) (by kernel_rfl) (by kernel_rfl) (fun _ _ _ h => h) (by rfl) (v := ?v10v) ?hy10v hS ?rest10v
  case hy10v => intro w0 hSw; go_simp; try with_reducible rfl
  simp only [Act.put, List.setIfInBounds_toArray, List.set_cons_zero, List.set_cons_succ]
  refine wpAnyD_one (i := 11) (by kernel_rfl) rfl (fun K hK => ?_)
  go_simp
  have hb5 := below_new wb.drew (.cells #[.string ⟨#[67, 111, 110, 116, 101, 110, 116, 45, 76, 101, 110, 103, 116, 104]⟩, .string TA, .string ⟨#[67, 79, 78, 84, 69, 78, 84, 45, 76, 69, 78, 71, 84, 72]⟩, .string TB] 25 (0, 0))
  have HBvB := hid hb5
  have HOvB := hid (HOvA.out.keep hb5)
  have HCv := hid (cells_new wb.drew [.string ⟨#[67, 111, 110, 116, 101, 110, 116, 45, 76, 101, 110, 103, 116, 104]⟩, .string TA, .string ⟨#[67, 79, 78, 84, 69, 78, 84, 45, 76, 69, 78, 71, 84, 72]⟩, .string TB] 25)
  refine hK _ _ ⟨fun _ => trivial, ?_⟩
  clear hK K hb5
  refine wpAnyD_one (i := 12) (by kernel_rfl) rfl (fun K hK => ?_)
  rw [if_pos (by rfl)]
  refine wp_append_own_at (.tmp 55) (.tmp 62) 22 rfl wb.drew.heap.size 25 i0 _ 2 32 Tryd.underlying22 hi0 hz0 hz1 hz2 rfl (by decide) (.slice none 0 0) 0 (fldC (([] : List (B × B)))) (by go_simp) (by have h9 := HOvB.out; unfold OwnF at h9; exact h9) ⟨wb.drew.heap.size, 0, none⟩ 2 2 [.string ⟨#[67, 111, 110, 116, 101, 110, 116, 45, 76, 101, 110, 103, 116, 104]⟩, .string TA, .string ⟨#[67, 79, 78, 84, 69, 78, 84, 45, 76, 69, 78, 71, 84, 72]⟩, .string TB] (by go_simp) rfl HCv.out (by simp [Value.oneCell']) (by unfold maxLen; omega) (by omega) HBvB.out.size ?_
  intro v' wy hown hgr _
  obtain ⟨qvB, dvB, rfl⟩ := own_slice hown
  have hpc : [Value.string ⟨#[67, 111, 110, 116, 101, 110, 116, 45, 76, 101, 110, 103, 116, 104]⟩, Value.string TA, Value.string ⟨#[67, 79, 78, 84, 69, 78, 84, 45, 76, 69, 78, 71, 84, 72]⟩, Value.string TB] = fldC [(clB, told 10 a), (uclB, told 10 b)] := by rw [← HTA.out, ← HTB.out]; rfl
  rw [hpc, ← fldC_app] at hown
  have HOvC := hid (show OwnF wy wb.drew.heap.size (.slice qvB (0 + 2) dvB) (([] : List (B × B)) ++ [(clB, told 10 a), (uclB, told 10 b)]) from by unfold OwnF; rw [List.length_append]; exact hown)
  have HBvC := hid (HBvB.out.trans (OwnF.below HOvB.out HBvB.out.size hgr))
  clear hown hgr hpc
  show K (Act.put _ (some 63) _) _
  refine hK _ _ ⟨fun _ => trivial, ?_⟩
  clear hK K
  simp only [Act.put, List.setIfInBounds_toArray, List.set_cons_zero, List.set_cons_succ]
  refine wpAnyD_one (i := 16) (by kernel_rfl) rfl (fun K hK => ?_)
  rw [if_pos (by rfl)]
  refine wp_append_own_noneF (.tmp 63) (.tmp 66) 22 rfl wb.drew.heap.size 25 i0 2 Tryd.underlying22 hi0 (.slice qvB (0 + 2) dvB) (0 + 2) (fldC (([] : List (B × B)) ++ [(clB, told 10 a), (uclB, told 10 b)])) (by go_simp) (by have h9 := HOvC.out; unfold OwnF at h9; rw [List.length_append] at h9; exact h9) (by go_simp) ?_
  have HOvD := hid (show OwnF wy wb.drew.heap.size (.slice qvB (0 + 2) dvB) (smugB [] 0 a b) from HOvC.out)
  have HBvD := HBvC
  show K (Act.put _ (some 67) _) _
  refine hK _ _ ⟨fun _ => trivial, ?_⟩
  clear hK K
  simp only [Act.put, List.setIfInBounds_toArray, List.set_cons_zero, List.set_cons_succ]
  refine late_take (i := 17) (some 10) rfl rfl (by kernel_rfl) (by kernel_rfl) (by kernel_rfl) (by kernel_rfl) (by kernel_rfl) (fun _ _ _ h => h) (by rfl) (v := ?v17v) ?hy17v hS ?rest17v
  case hy17v => intro w0 hSw; go_simp; try with_reducible rfl
  simp only [Act.put, List.setIfInBounds_toArray, List.set_cons_zero, List.set_cons_succ]
  refine late_done (by kernel_rfl) ?_ _
  refine NoPanic.normal ?_
  have HB3 := hid (HVv.out.trans (HBvD.out.mono HVv.out.size))
  have HFB := hid (OwnF.fat HOvD.out)
  have HFA3 := hid (show FAt wy quB (smugA [] 0 a) from (show FAt wb.drew quB (smugA [] 0 a) from HFA.out).next HBvD.out)
  clear HVv HBvD HOvD HOvA HBvA HOvB HBvB HOvC HBvC HCv HFA HB2
  obtain ⟨VB, hVB⟩ : ∃ V, errOf EB = V := ⟨_, rfl⟩
  rw [hVB] at HQB
  by_cases hab : a = b
  · subst hab
    clear hVB
    go_wp2_with (first | (go_at_call 27; (with_reducible refine (HQA.out _ _ _ HB3.out HFA3.out).mono ?_); rintro e w4 ⟨rfl, hb⟩; have hb2 := below_new w4 (frmO KA NA); have HB4 := hid (below_out (below_out HB3.out hb) hb2); have HFB4 := hid ((HFB.out.next hb).next hb2); clear hb hb2 HQA) | (go_at_call 27; (with_reducible refine (HQB.out _ _ _ HB4.out HFB4.out).mono ?_); rintro e w5 ⟨rfl, hb⟩; have hb2 := below_new w5 (frmO KB NB); have HB5 := hid (below_out (below_out HB4.out hb) hb2); clear hb hb2 HQB) | (go_at_call 24; (with_reducible refine (HNm.out _ HB5.out).mono ?_); rintro e w6 ⟨rfl, hb⟩; have HB6 := hid (below_out HB5.out hb); clear hb HB5) | (go_at_call 26; (with_reducible refine (HSu.out _ HB6.out).mono ?_); rintro e w8 ⟨rfl, hb⟩; have HB8 := hid (below_out HB6.out hb); clear hb HSu))
    go_ret
    exact ⟨rfl, HB8.out⟩
  · have hEE := HEB.out hab
    subst hEE
    rw [show errOf 30 = .iface 83 (.int .i64 30) from rfl] at hVB
    subst hVB
    have hab1 : ((a : Int) == (b : Int)) = false := by simp; omega
    go_wp2_with (first | (go_at_call 27; (with_reducible refine (HQA.out _ _ _ HB3.out HFA3.out).mono ?_); rintro e w4 ⟨rfl, hb⟩; have hb2 := below_new w4 (frmO KA NA); have HB4 := hid (below_out (below_out HB3.out hb) hb2); have HFB4 := hid ((HFB.out.next hb).next hb2); clear hb hb2 HQA) | (go_at_call 27; (with_reducible refine (HQB.out _ _ _ HB4.out HFB4.out).mono ?_); rintro e w5 ⟨rfl, hb⟩; have hb2 := below_new w5 (frmO KB NB); have HB5 := hid (below_out (below_out HB4.out hb) hb2); clear hb hb2 HQB) | (go_at_call 24; (with_reducible refine (HNm.out _ HB5.out).mono ?_); rintro e w6 ⟨rfl, hb⟩; have HB6 := hid (below_out HB5.out hb); clear hb HB5) | (go_at_call 24; (with_reducible refine (HNm.out _ HB6.out).mono ?_); rintro e w7 ⟨rfl, hb⟩; have HB7 := hid (below_out HB6.out hb); clear hb HNm) | (go_at_call 26; (with_reducible refine (HSu.out _ HB7.out).mono ?_); rintro e w8 ⟨rfl, hb⟩; have HB8 := hid (below_out HB7.out hb); clear hb HSu))
    go_ret
    exact ⟨rfl, HB8.out⟩
theorem smug_walk (fs : List (B × B)) (p : Option Addr) (n c : Nat) (hn : fs.length = n) (hc : n ≤ c) (x0 x1 wh : Int) (w : World) (hF : FAt w p fs) (hnil : p = none → n = 0 ∧ c = 0) (hsz : szB fs) (hnn : n + 2 ≤ 1048576) (hmx : MxL w) (hE : EnvE w) :
    Calls Tryd.prog 7 #[.slice p n c, .agg #[.int .i64 x0, .int .i64 x1], .int .i64 wh] w fun e w' => e = .returned (.bool true) ∧ Below w.heap.size w w' := by
  cases p with
  | none =>
    obtain ⟨rfl, rfl⟩ := hnil rfl
    exact smug_none x0 x1 wh w hmx hE
  | some ad =>
    rcases Nat.eq_zero_or_pos n with h0 | hp
    · subst h0
      exact smug_zero ad c x0 x1 wh w hmx hE
    · obtain ⟨f, hf⟩ : ∃ f, fs[0]? = some f := ⟨fs[0]'(by omega), List.getElem?_eq_getElem (by omega)⟩
      obtain ⟨g, o, e, _⟩ := hF 0 f hf
      cases e
      exact smug_pos fs g o n c hn hc hp x0 x1 wh w hF hsz hnn hmx hE
end Go.Proofs.YthakldcfpndabaaDoor
