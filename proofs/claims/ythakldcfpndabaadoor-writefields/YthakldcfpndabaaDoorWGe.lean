/- The law of fields by name, written. -/
import Derived.Test.YthakldcfpndabaaDoorWGd
import Derived.Test.YthakldcfpndabaaDoorWWorks
namespace Go.Proofs.YthakldcfpndabaaDoor
open Go.RowKit

structure MemW (w W : World) (N V : ByteArray) (fs : List (B × B)) : Prop where
  low : Below w.heap.size w W
  box : W.heap[w.heap.size]? = some (.cells #[.string N, .string V] 24 (0, 0))
  row : W.heap[w.heap.size + 1]? = some (.cells (rowA fs 3).toArray 25 (0, 0))
theorem MemW.next {w W W' : World} {N V : ByteArray} {fs : List (B × B)} (h : MemW w W N V fs) (hb : Below W.heap.size W W') : MemW w W' N V fs :=
  ⟨h.low.trans (hb.mono h.low.size), (hb.block _ (lt_of_heap h.box)).trans h.box, (hb.block _ (lt_of_heap h.row)).trans h.row⟩
theorem MemW.fat {w W : World} {N V : ByteArray} {fs : List (B × B)} (h : MemW w W N V fs) : FAt W (some ⟨w.heap.size + 1, 0, none⟩) fs := by
  have := h.row
  unfold rowA at this
  exact arr_fat this
theorem set_heap {W : World} {g k : Nat} (o : Nat) (v : Value) (h : k ≠ g) : (W.setCell ⟨g, o, none⟩ v).heap[k]? = W.heap[k]? := by
  simp [World.setCell, Array.getElem?_modify, Ne.symm h]
theorem MemW.set {w W : World} {N V : ByteArray} {fs : List (B × B)} (h : MemW w W N V fs) {g : Nat} (hg : w.heap.size + 1 < g) (o : Nat) (v : Value) : MemW w (W.setCell ⟨g, o, none⟩ v) N V fs :=
  ⟨Below.setCell h.low (show w.heap.size ≤ g by omega) _, by rw [set_heap _ _ (by omega)]; exact h.box, by rw [set_heap _ _ (by omega)]; exact h.row⟩
/-- A row of so many cells of fields. -/
def Sz (W : World) (g k : Nat) : Prop := ∃ cur, W.heap[g]? = some (.cells cur 25 (0, 0)) ∧ cur.size = k
theorem Sz.next {W W' : World} {g k : Nat} (h : Sz W g k) (hb : Below W.heap.size W W') : Sz W' g k := by
  obtain ⟨cur, h1, h2⟩ := h
  exact ⟨cur, (hb.block _ (lt_of_heap h1)).trans h1, h2⟩
theorem Sz.other {W : World} {g k g' : Nat} (h : Sz W g k) (hg : g ≠ g') (o : Nat) (v : Value) : Sz (W.setCell ⟨g', o, none⟩ v) g k := by
  obtain ⟨cur, h1, h2⟩ := h
  exact ⟨cur, by rw [set_heap _ _ hg]; exact h1, h2⟩
theorem Sz.set {W : World} {g k : Nat} (h : Sz W g k) (o : Nat) (v : Value) : Sz (W.setCell ⟨g, o, none⟩ v) g k := by
  obtain ⟨cur, h1, h2⟩ := h
  refine ⟨cur.setIfInBounds o v, by simp [World.setCell, Array.getElem?_modify, h1], by rw [Array.size_setIfInBounds]; exact h2⟩
theorem Sz.cell {W : World} {g k : Nat} (h : Sz W g k) (o : Nat) (ho : o < k) : (∃ v, W.cell? ⟨g, o, none⟩ = some v) ∧ W.frozen? ⟨g, o, none⟩ = false := by
  obtain ⟨cur, h1, h2⟩ := h
  refine ⟨⟨cur[o]'(by omega), ?_⟩, by simp [World.frozen?, h1]⟩
  simp only [World.cell?, h1]
  rw [Array.getElem?_eq_getElem (by omega)]
  rfl
theorem BlkF.sz {W : World} {g : Nat} {fs : List (B × B)} {m : Nat} (h : BlkF W g fs) (hm : fs.length = m) : Sz W g (m * 2) := ⟨_, h, by simp [fldC_len, hm]⟩
/-- The memory of the law: what it was given, and the three rows that it writes over. -/
structure Mem3 (w W : World) (N V : ByteArray) (fs : List (B × B)) (gs ks ga ka gd kd : Nat) : Prop where
  m : MemW w W N V fs
  s : Sz W gs ks
  a : Sz W ga ka
  d : Sz W gd kd
theorem Mem3.next {w W W' : World} {N V : ByteArray} {fs : List (B × B)} {gs ks ga ka gd kd : Nat} (h : Mem3 w W N V fs gs ks ga ka gd kd) (hb : Below W.heap.size W W') : Mem3 w W' N V fs gs ks ga ka gd kd := ⟨h.m.next hb, h.s.next hb, h.a.next hb, h.d.next hb⟩
theorem Mem3.setS {w W : World} {N V : ByteArray} {fs : List (B × B)} {gs ks ga ka gd kd : Nat} (h : Mem3 w W N V fs gs ks ga ka gd kd) (h1 : w.heap.size + 1 < gs) (h2 : gs < ga) (h3 : ga < gd) (o : Nat) (v : Value) : Mem3 w (W.setCell ⟨gs, o, none⟩ v) N V fs gs ks ga ka gd kd :=
  ⟨h.m.set h1 o v, h.s.set o v, h.a.other (by omega) o v, h.d.other (by omega) o v⟩
theorem Mem3.setD {w W : World} {N V : ByteArray} {fs : List (B × B)} {gs ks ga ka gd kd : Nat} (h : Mem3 w W N V fs gs ks ga ka gd kd) (h1 : w.heap.size + 1 < gs) (h2 : gs < ga) (h3 : ga < gd) (o : Nat) (v : Value) : Mem3 w (W.setCell ⟨gd, o, none⟩ v) N V fs gs ks ga ka gd kd :=
  ⟨h.m.set (by omega) o v, h.s.other (by omega) o v, h.a.other (by omega) o v, h.d.set o v⟩
theorem Mem3.setA {w W : World} {N V : ByteArray} {fs : List (B × B)} {gs ks ga ka gd kd : Nat} (h : Mem3 w W N V fs gs ks ga ka gd kd) (h1 : w.heap.size + 1 < gs) (h2 : gs < ga) (h3 : ga < gd) (o : Nat) (v : Value) : Mem3 w (W.setCell ⟨ga, o, none⟩ v) N V fs gs ks ga ka gd kd :=
  ⟨h.m.set (by omega) o v, h.s.other (by omega) o v, h.a.set o v, h.d.other (by omega) o v⟩
theorem MemW.rd {w W : World} {N V : ByteArray} {fs : List (B × B)} (h : MemW w W N V fs) : W.cell? ⟨w.heap.size, 0, none⟩ = some (.string N) ∧ W.cell? ⟨w.heap.size, 1, none⟩ = some (.string V) := box2W h.box
theorem bnmB : str [98] = ⟨#[98]⟩ := rfl
set_option maxRecDepth 20000 in
set_option maxHeartbeats 32000000 in
theorem wfields_walk (fs : List (B × B)) (p : Option Addr) (n c : Nat) (hn : fs.length = n) (a b : B) (w : World) (hF : FAt w p fs) (hc0 : p = none → c = 0) (hsz : szW fs) (ha : a.length ≤ 140737488351232) (hb : b.length ≤ 140737488351232) (hnn : n + 3 ≤ 4398046511104) (hE : EnvP w) :
    Calls Tryd.prog 3 #[.slice p n c, .agg #[.string (str a), .string (str b)]] w fun e w' => e = .returned (.bool true) ∧ Below w.heap.size w w' := by
  obtain ⟨i0, hi0, hz0, hz1, hz2⟩ := info_parts infoF
  have has : (str a).size ≤ 140737488351232 := by rw [str_size]; exact ha
  have HPG := hid (show ∀ (W : World) (q : Option Addr) (d : Nat), FAt W q fs → _ from fun W q d h => pget fs q n d hn (str a) W h hsz has (by omega))
  have HDG := hid (show ∀ W : World, Below w.heap.size w W → _ from fun W hbb => dget fs p n c hn (str a) W (hF.next hbb) hsz has (by omega))
  have HPS := hid (show ∀ W : World, FAt W (some ⟨w.heap.size + 1, 0, none⟩) fs → _ from fun W h => pset fs (w.heap.size + 1) 0 n (n + 3) hn (by omega) a b W h hsz ha hb (by omega))
  have HPA := hid (show ∀ W : World, FAt W (some ⟨w.heap.size + 1, 0, none⟩) fs → _ from fun W h => padd fs (w.heap.size + 1) 0 n (n + 3) hn (by omega) a b W h hsz ha hb (by omega))
  have HPB := hid (show ∀ W : World, FAt W (some ⟨w.heap.size + 1, 0, none⟩) fs → _ from fun W h => padd fs (w.heap.size + 1) 0 n (n + 3) hn (by omega) [98] [98] W h hsz (by decide) (by decide) (by omega))
  have HPD := hid (show ∀ W : World, FAt W (some ⟨w.heap.size + 1, 0, none⟩) fs → _ from fun W h => pdel fs (w.heap.size + 1) 0 n (n + 3) hn a W h hsz ha (by omega))
  have HDS := hid (show ∀ W : World, Below w.heap.size w W → _ from fun W hbb => dset fs p n c hn a b W (hF.next hbb) hsz ha hc0 (by omega))
  have HDA := hid (show ∀ W : World, Below w.heap.size w W → _ from fun W hbb => dadd fs p n c hn a b W (hF.next hbb) hc0 (by omega))
  have HDB := hid (show ∀ W : World, Below w.heap.size w W → _ from fun W hbb => dadd fs p n c hn [98] [98] W (hF.next hbb) hc0 (by omega))
  have HDD := hid (show ∀ W : World, Below w.heap.size w W → _ from fun W hbb => ddel fs p n c hn a W (hF.next hbb) hsz ha (by omega))
  have HWk := hid (show ∀ W : World, Below w.heap.size w W → _ from fun W hbb => works10_any W (hE.next hbb))
  have hsl : (setB fs (str a) (a, b)).length ≤ n + 1 := by
    unfold setB
    split
    · have := setR_len (str a) (a, b) fs false
      omega
    · rw [List.length_append, hn]; exact Nat.le_refl _
  have hdl := del_le fs (str a)
  obtain ⟨XS, hXS⟩ : ∃ X, setB fs (str a) (a, b) = X := ⟨_, rfl⟩
  obtain ⟨XA, hXA⟩ : ∃ X, fs ++ [(a, b)] = X := ⟨_, rfl⟩
  obtain ⟨XB, hXB⟩ : ∃ X, fs ++ [(([98], [98]) : B × B)] = X := ⟨_, rfl⟩
  obtain ⟨XD, hXD⟩ : ∃ X, delB fs (str a) = X := ⟨_, rfl⟩
  have hal : XA.length = n + 1 := by rw [← hXA, List.length_append, hn]; rfl
  have hbl : XB.length = n + 1 := by rw [← hXB, List.length_append, hn]; rfl
  rw [hXS] at HPS HDS hsl
  rw [hXA] at HPA HDA
  rw [hXB] at HPB HDB
  rw [hXD] at HPD HDD hdl
  obtain ⟨ms, hms⟩ : ∃ m, XS.length = m := ⟨_, rfl⟩
  obtain ⟨md, hmd⟩ : ∃ m, XD.length = m := ⟨_, rfl⟩
  rw [hms] at HPS HDS hsl
  rw [hal] at HPA
  rw [hbl] at HPB
  rw [hmd] at HPD HDD hdl
  rw [hn] at hdl
  have HFS := hid (show ∀ (W : World) (q q' : Option Addr) (d d' : Nat), FAt W q XS → FAt W q' XS → _ from fun W q q' d d' h h' => fields10_any XS XS q q' ms ms d d' hms hms W h h' (by omega))
  have HFA := hid (show ∀ (W : World) (q q' : Option Addr) (d d' : Nat), FAt W q XA → FAt W q' XA → _ from fun W q q' d d' h h' => fields10_any XA XA q q' (n + 1) (n + 1) d d' hal hal W h h' (by omega))
  have HFB := hid (show ∀ (W : World) (q q' : Option Addr) (d d' : Nat), FAt W q XB → FAt W q' XB → _ from fun W q q' d d' h h' => fields10_any XB XB q q' (n + 1) (n + 1) d d' hbl hbl W h h' (by omega))
  have HFD := hid (show ∀ (W : World) (q q' : Option Addr) (d d' : Nat), FAt W q XD → FAt W q' XD → _ from fun W q q' d d' h h' => fields10_any XD XD q q' md md d d' hmd hmd W h h' (by omega))
  have HFM := hid (show ∀ (W : World) (q : Option Addr) (d : Nat), Below w.heap.size w W → FAt W q fs → _ from fun W q d hbb h => fields10_any fs fs q p n n d c hn hn W h (hF.next hbb) (by omega))
  rw [show decide (XS = XS) = true from decide_eq_true rfl] at HFS
  rw [show decide (XA = XA) = true from decide_eq_true rfl] at HFA
  rw [show decide (XB = XB) = true from decide_eq_true rfl] at HFB
  rw [show decide (XD = XD) = true from decide_eq_true rfl] at HFD
  rw [show decide (fs = fs) = true from decide_eq_true rfl] at HFM
  obtain ⟨⟨GV, GB⟩, hG⟩ : ∃ x, getB fs (str a) = x := ⟨_, rfl⟩
  rw [hG] at HPG HDG
  dsimp only at HPG HDG
  obtain ⟨N, hN⟩ : ∃ N, str a = N := ⟨_, rfl⟩
  obtain ⟨V, hV⟩ : ∃ V, str b = V := ⟨_, rfl⟩
  rw [hN] at HPG HDG HPS HPA HPD HDS HDA HDD
  rw [hV] at HPS HPA HDS HDA
  rw [bnmB] at HPB HDB
  rw [hN, hV]
  have HF := hid hF
  have HN := hid hn
  have HMs := hid hms
  have HMd := hid hmd
  have HMa := hid hal
  have hmk : (Instr.makeSlice 22 (.int .i64 (n : Int)) (.int .i64 ((n : Int) + 3))).run Tryd.prog (w.alloc (.cells #[.string N, .string V] 24 (0, 0))) = .ok (.slice (some ⟨w.heap.size + 1, 0, none⟩) n (n + 3)) ((w.alloc (.cells #[.string N, .string V] 24 (0, 0))).alloc (.cells (rowA [] (n + 3)).toArray 25 (0, 0))) := by
    have h := run_make (P := Tryd.prog) (w.alloc (.cells #[.string N, .string V] 24 (0, 0))) 22 25 i0 _ Tryd.underlying22 hi0 hz0 .i64 .i64 (n : Int) ((n : Int) + 3) (by omega) (by omega) (by rw [hz2]; omega) (by omega)
    rw [hz1, Int.toNat_natCast, show ((n : Int) + 3).toNat = n + 3 from by omega, show (w.alloc (.cells #[.string N, .string V] 24 (0, 0))).heap.size = w.heap.size + 1 from by simp] at h
    rw [h]
    congr 2
    exact congrArg (fun x => Obj.cells x 25 (0, 0)) (made_row (n + 3))
  have hM0 : MemW w ((w.alloc (.cells #[.string N, .string V] 24 (0, 0))).alloc (.cells (rowA [] (n + 3)).toArray 25 (0, 0))) N V [] ∨ True := .inr trivial
  have HB0 := hid (show Below w.heap.size w ((w.alloc (.cells #[.string N, .string V] 24 (0, 0))).alloc (.cells (rowA [] (n + 3)).toArray 25 (0, 0))) from (below_new w _).trans ((below_new _ _).mono (below_new w _).size))
  have HX0 := hid (show ((w.alloc (.cells #[.string N, .string V] 24 (0, 0))).alloc (.cells (rowA [] (n + 3)).toArray 25 (0, 0))).heap[w.heap.size]? = some (.cells #[.string N, .string V] 24 (0, 0)) from ((below_new (w.alloc _) _).block _ (lt_of_heap (heap_alloc_new w _))).trans (heap_alloc_new w _))
  have HR0 := hid (show ((w.alloc (.cells #[.string N, .string V] 24 (0, 0))).alloc (.cells (rowA [] (n + 3)).toArray 25 (0, 0))).heap[w.heap.size + 1]? = some (.cells (rowA [] (n + 3)).toArray 25 (0, 0)) from by
    have h := heap_alloc_new (w.alloc (.cells #[.string N, .string V] 24 (0, 0))) (.cells (rowA [] (n + 3)).toArray 25 (0, 0))
    rw [show (w.alloc (.cells #[.string N, .string V] 24 (0, 0))).heap.size = w.heap.size + 1 from by simp] at h
    exact h)
  generalize ((w.alloc (.cells #[.string N, .string V] 24 (0, 0))).alloc (.cells (rowA [] (n + 3)).toArray 25 (0, 0))) = W1 at hmk HB0 HX0 HR0
  clear hF hn hsz hE hN hV hXS hXA hXB hXD hms hmd hal hbl hG has hi0 hz0 hz1 hz2 hc0 ha hb hM0
  go_enter Tryd.func3, Tryd.ntmps3
  go_wp2
  clear hmk
  go_loopg [6] (n + 1) (fun gk s wr => ∃ i : Nat, s = .int .i64 (i : Int) ∧ i ≤ n ∧ gk = n - i + 1 ∧ wr.heap[w.heap.size + 1]? = some (.cells (rowA (fs.take i) (n + 3 - i)).toArray 25 (0, 0)) ∧ wr.heap[w.heap.size]? = some (.cells #[.string N, .string V] 24 (0, 0)) ∧ Below w.heap.size w wr)
  case atStart => exact ⟨0, rfl, by omega, rfl, HR0.out, HX0.out, HB0.out⟩
  case round =>
    obtain ⟨i, rfl, hin, rfl, hr, hx, hb⟩ := hrel
    rename World => wr
    have HB := hid hb
    have HX := hid hx
    have HR := hid hr
    clear hb hx hr
    by_cases hlt : i < n
    · obtain ⟨f, hf⟩ : ∃ f, fs[i]? = some f := ⟨fs[i]'(by rw [HN.out]; exact hlt), List.getElem?_eq_getElem (by rw [HN.out]; exact hlt)⟩
      obtain ⟨g, o, hp, c0, c1⟩ := (HF.out.next HB.out) i f hf
      subst hp
      have hltI : (i : Int) < (n : Int) := by omega
      have HY := hid (show fs.take (i + 1) = fs.take i ++ [f] from by rw [List.take_add_one, hf]; rfl)
      have HLi := hid (show (fs.take i).length * 2 = i * 2 from by rw [List.length_take, HN.out]; omega)
      have HR2 := hid (show wr.heap[w.heap.size + 1]? = some (.cells (rowA (fs.take i) (n + 3 - (i + 1) + 1)).toArray 25 (0, 0)) from by rw [show n + 3 - (i + 1) + 1 = n + 3 - i by omega]; exact HR.out)
      obtain ⟨y0, y1, q0, q1⟩ := cell_rowA HR2.out (i * 2) HLi.out
      clear hf
      go_wp2
      go_roundg (n - (i + 1) + 1)
      case measure => omega
      case rel =>
        refine ⟨i + 1, by go_num, by omega, rfl, ?_, ?_, ?_⟩
        · rw [put_two HR2.out, rowA_next _ _ _ _ HLi.out, HY.out]
        · rw [set_heap _ _ (by omega), set_heap _ _ (by omega)]; exact HX.out
        · exact Below.setCell (Below.setCell HB.out (show w.heap.size ≤ w.heap.size + 1 by omega) _) (show w.heap.size ≤ w.heap.size + 1 by omega) _
    · obtain rfl : i = n := by omega
      have hltI : ¬ (i : Int) < (i : Int) := by omega
      have HM0 := hid (show MemW w wr N V fs from ⟨HB.out, HX.out, by have h9 := HR.out; rw [List.take_of_length_le (by rw [HN.out]; exact Nat.le_refl _), show i + 3 - i = 3 by omega] at h9; exact h9⟩)
      obtain ⟨x0, x1⟩ := HM0.out.rd
      clear hlt HB HX HR HR0 HX0 HB0
      go_wp2_with (first | (go_at_call 8; (with_reducible refine (HPG.out _ (some ⟨w.heap.size + 1, 0, none⟩) (i + 3) HM0.out.fat).mono ?_); rintro e w1 ⟨rfl, hb⟩; have HM1 := hid (HM0.out.next hb); clear x0 x1; obtain ⟨x0, x1⟩ := HM1.out.rd; clear hb HPG) | (go_at_call 9; (with_reducible refine (HDG.out _ HM1.out.low).mono ?_); rintro e w2 ⟨rfl, hb⟩; have HM2 := hid (HM1.out.next hb); clear x0 x1; obtain ⟨x0, x1⟩ := HM2.out.rd; clear hb HDG) | (go_at_call 10; (with_reducible refine (HPS.out _ HM2.out.fat).mono ?_); rintro e w3 ⟨gs, m3, rfl, hl3, hg3, hk3, hb⟩; have HM3 := hid (HM2.out.next hb); obtain rfl := hl3; have HS3 := hid hk3; have HGs := hid (show w.heap.size + 1 < gs from Nat.lt_of_lt_of_le (lt_of_heap HM2.out.row) hg3); clear hk3 hg3; clear x0 x1; obtain ⟨x0, x1⟩ := HM3.out.rd; clear hb HPS) | (go_at_call 11; (with_reducible refine (HPA.out _ HM3.out.fat).mono ?_); rintro e w4 ⟨ga, m4, rfl, hl4, hg4, hk4, hb⟩; have HM4 := hid (HM3.out.next hb); obtain rfl := hl4; have HA4 := hid hk4; have HS4 := hid (HS3.out.next hb); have HGa := hid (show gs < ga from Nat.lt_of_lt_of_le (lt_of_heap HS3.out) hg4); clear hk4 hg4; clear x0 x1; obtain ⟨x0, x1⟩ := HM4.out.rd; clear hb HPA) | (go_at_call 12; (with_reducible refine (HPD.out _ HM4.out.fat).mono ?_); rintro e w5 ⟨gd, m5, rfl, hl5, hg5, hk5, hb⟩; have HM5 := hid (HM4.out.next hb); obtain rfl := hl5; have HD5 := hid hk5; have HS5 := hid (HS4.out.next hb); have HA5 := hid (HA4.out.next hb); have HGd := hid (show ga < gd from Nat.lt_of_lt_of_le (lt_of_heap HA4.out) hg5); clear hk5 hg5; clear x0 x1; obtain ⟨x0, x1⟩ := HM5.out.rd; clear hb HPD) | (go_at_call 14; (with_reducible refine (HDS.out _ HM5.out.low).mono ?_); rintro e w6 ⟨q6, d6, rfl, hf6, hb⟩; have HM6 := hid (HM5.out.next hb); have HT6 := hid hf6; clear hf6; have HS6 := hid (HS5.out.next hb); have HA6 := hid (HA5.out.next hb); have HD6 := hid (HD5.out.next hb); clear x0 x1; obtain ⟨x0, x1⟩ := HM6.out.rd; clear hb HDS) | (go_at_call 13; (with_reducible refine (HFS.out _ _ _ _ _ HS6.out.fat HT6.out).mono ?_); rintro e w7 ⟨rfl, hb⟩; have HM7 := hid (HM6.out.next hb); have HS7 := hid (HS6.out.next hb); have HA7 := hid (HA6.out.next hb); have HD7 := hid (HD6.out.next hb); clear x0 x1; obtain ⟨x0, x1⟩ := HM7.out.rd; clear hb HFS) | (go_at_call 15; (with_reducible refine (HDA.out _ HM7.out.low).mono ?_); rintro e w8 ⟨q8, d8, rfl, hf8, hb⟩; have HM8 := hid (HM7.out.next hb); have HT8 := hid hf8; clear hf8; have HS8 := hid (HS7.out.next hb); have HA8 := hid (HA7.out.next hb); have HD8 := hid (HD7.out.next hb); clear x0 x1; obtain ⟨x0, x1⟩ := HM8.out.rd; clear hb HDA) | (go_at_call 13; (with_reducible refine (HFA.out _ _ _ _ _ HA8.out.fat HT8.out).mono ?_); rintro e w9 ⟨rfl, hb⟩; have HM9 := hid (HM8.out.next hb); have HS9 := hid (HS8.out.next hb); have HA9 := hid (HA8.out.next hb); have HD9 := hid (HD8.out.next hb); clear x0 x1; obtain ⟨x0, x1⟩ := HM9.out.rd; clear hb HFA) | (go_at_call 16; (with_reducible refine (HDD.out _ HM9.out.low).mono ?_); rintro e w10 ⟨q10, d10, rfl, hf10, hb⟩; have HM10 := hid (HM9.out.next hb); have HT10 := hid hf10; clear hf10; have HS10 := hid (HS9.out.next hb); have HA10 := hid (HA9.out.next hb); have HD10 := hid (HD9.out.next hb); clear x0 x1; obtain ⟨x0, x1⟩ := HM10.out.rd; clear hb HDD) | (go_at_call 13; (with_reducible refine (HFD.out _ _ _ _ _ HD10.out.fat HT10.out).mono ?_); rintro e w11 ⟨rfl, hb⟩; have HM11 := hid (HM10.out.next hb); have HS11 := hid (HS10.out.next hb); have HA11 := hid (HA10.out.next hb); have HD11 := hid (HD10.out.next hb); clear x0 x1; obtain ⟨x0, x1⟩ := HM11.out.rd; clear hb HFD))
      have HZ0 := hid (show Mem3 w w11 N V fs gs (ms * 2) ga ((i + 1) * 2) gd (md * 2) from ⟨HM11.out, HS11.out.sz HMs.out, HA11.out.sz HMa.out, HD11.out.sz HMd.out⟩)
      clear x0 x1 HM0 HM1 HM2 HM3 HM4 HM5 HM6 HM7 HM8 HM9 HM10 HM11 HS3 HS4 HS5 HS6 HS7 HS8 HS9 HS10 HS11 HA4 HA5 HA6 HA7 HA8 HA9 HA10 HA11 HD5 HD6 HD7 HD8 HD9 HD10 HD11 HT6 HT8 HT10
      go_loopg [14] (ms + 1) (fun gk s wv => ∃ j : Nat, s = .int .i64 (j : Int) ∧ j ≤ ms ∧ gk = ms - j + 1 ∧ Mem3 w wv N V fs gs (ms * 2) ga ((i + 1) * 2) gd (md * 2))
      case atStart => exact ⟨0, rfl, by omega, rfl, HZ0.out⟩
      case round =>
        obtain ⟨j, rfl, hjn, rfl, hz⟩ := hrel
        rename World => wv
        have HZ := hid hz
        clear hz HZ0
        by_cases hlt : j < ms
        · have hltI : (j : Int) < (ms : Int) := by omega
          obtain ⟨⟨v0, y0⟩, z0⟩ := HZ.out.s.cell (j * 2) (by omega)
          have HY := hid (HZ.out.setS HGs.out HGa.out HGd.out (j * 2) (.string ⟨#[115]⟩))
          go_wp2
          go_roundg (ms - (j + 1) + 1)
          case measure => omega
          case rel => exact ⟨j + 1, by go_num, by omega, rfl, HY.out⟩
        · obtain rfl : j = ms := by omega
          have hltI : ¬ (j : Int) < (j : Int) := by omega
          clear hlt
          go_wp2
          go_loopg [15] (md + 1) (fun gk s wu => ∃ k : Nat, s = .int .i64 (k : Int) ∧ k ≤ md ∧ gk = md - k + 1 ∧ Mem3 w wu N V fs gs (j * 2) ga ((i + 1) * 2) gd (md * 2))
          case atStart => exact ⟨0, rfl, by omega, rfl, HZ.out⟩
          case round =>
            obtain ⟨k, rfl, hkn, rfl, hz⟩ := hrel
            rename World => wu
            have HU := hid hz
            clear hz
            by_cases hlt : k < md
            · have hltI2 : (k : Int) < (md : Int) := by omega
              obtain ⟨⟨v0, y0⟩, z0⟩ := HU.out.d.cell (k * 2) (by omega)
              have HY := hid (HU.out.setD HGs.out HGa.out HGd.out (k * 2) (.string ⟨#[100]⟩))
              go_wp2
              go_roundg (md - (k + 1) + 1)
              case measure => omega
              case rel => exact ⟨k + 1, by go_num, by omega, rfl, HY.out⟩
            · obtain rfl : k = md := by omega
              have hltI2 : ¬ (k : Int) < (k : Int) := by omega
              obtain ⟨⟨v0, y0⟩, z0⟩ := HU.out.a.cell 1 (by omega)
              have HY := hid (HU.out.setA HGs.out HGa.out HGd.out 1 (.string ⟨#[97]⟩))
              have hi0 : (0 : Int) < (i : Int) + 1 := by omega
              clear hlt
              generalize hWW : (wu.setCell ⟨ga, 1, none⟩ (.string ⟨#[97]⟩)) = WW at HY
              have HWW := hid hWW
              clear hWW
              go_wp2_with (first | (go_at_call 11; rw [HWW.out]; (with_reducible refine (HPB.out _ HY.out.m.fat).mono ?_); rintro e w12 ⟨gb, m12, rfl, hl12, hg12, hk12, hb⟩; obtain rfl := hl12; have HM12 := hid (HY.out.m.next hb); have HK12 := hid hk12; clear hb hg12 hk12 HPB) | (go_at_call 13; (with_reducible refine (HFM.out _ _ _ HM12.out.low HM12.out.fat).mono ?_); rintro e w13 ⟨rfl, hb⟩; have HM13 := hid (HM12.out.next hb); have HK13 := hid (HK12.out.next hb); clear hb HFM) | (go_at_call 15; (with_reducible refine (HDB.out _ HM13.out.low).mono ?_); rintro e w14 ⟨q14, d14, rfl, hf14, hb⟩; have HM14 := hid (HM13.out.next hb); have HK14 := hid (HK13.out.next hb); have HT14 := hid hf14; clear hb hf14 HDB) | (go_at_call 13; (with_reducible refine (HFB.out _ _ _ _ _ HK14.out.fat HT14.out).mono ?_); rintro e w15 ⟨rfl, hb⟩; have HM15 := hid (HM14.out.next hb); clear hb HFB) | (go_at_call 17; (with_reducible refine (HWk.out _ HM15.out.low).mono ?_); rintro e w16 ⟨rfl, hb⟩; have HM16 := hid (HM15.out.next hb); clear hb HWk))
              go_ret
              exact ⟨rfl, HM16.out.low⟩
end Go.Proofs.YthakldcfpndabaaDoor
