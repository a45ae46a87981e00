/- The law of heads written. -/
import Derived.Test.YtpcfcpeokkbfmaaDoorWRefQ
import Derived.Test.YtpcfcpeokkbfmaaDoorWRLocal
namespace Go.Proofs.YtpcfcpeokkbfmaaDoor
open Go.RowKit

def reqT (m t : B) (k : Int) (fs : List (B × B)) : B := if reqE m t k fs = 0 then headW (firstQ m t (verC k)) fs else []
def respT (s : Int) (r : B) (k : Int) (fs : List (B × B)) : B := if respE s r k fs = 0 then headW (firstP (verC k) (told 10 s.toNat) r) fs else []
/-- A slice whose text is l, now and later. -/
def Says (w : World) (v : Value) (l : B) : Prop := ∀ W : World, Below w.heap.size w W → (convert 28 9 v).run Tryd.prog W = .ok (.string (str l)) W
theorem Says.next {w w' : World} {v : Value} {l : B} (h : Says w v l) (hb : Below w.heap.size w w') : Says w' v l := fun W hW => h W (hb.trans (hW.mono hb.size))
theorem says_nil (w : World) : Says w (.slice none 0 0) [] := fun W _ => run_convert_bytes_nil (P := Tryd.prog) W 28 5 (by kernel_rfl) (by kernel_rfl) 0 0 9 (by kernel_rfl)
theorem says_own {w : World} {N n c : Nat} {q : Option Addr} {l : B} (h : Own w N (.slice q n c) l) : Says w (.slice q n c) l := fun _ hW => conv_own (h.keep hW)
theorem says_arg {w : World} {g c : Nat} {l : B} (h : ArgAt w (some ⟨g, 0, none⟩) l) : Says w (.slice (some ⟨g, 0, none⟩) l.length c) l := fun _ hW => conv_arg (h.next hW)
theorem FAt.news {w : World} {ad : Addr} {fs : List (B × B)} (h : FAt w (some ad) fs) : ∀ j u, (fldC fs)[j]? = some u → w.cell? (ad.add j) = some u := by
  intro j u hj
  have hlt : j < (fldC fs).length := (List.getElem?_eq_some_iff.1 hj).1
  rw [fldC_len] at hlt
  have hi : j / 2 < fs.length := by omega
  obtain ⟨g, o, e, c0, c1⟩ := h (j / 2) _ (List.getElem?_eq_getElem hi)
  obtain ⟨f0, f1⟩ := fldC_at fs (j / 2) _ (List.getElem?_eq_getElem hi)
  cases e
  have hadd : ∀ j, (⟨g, o, none⟩ : Addr).add j = ⟨g, o + j, none⟩ := fun j => by unfold Addr.add; split <;> simp_all
  rw [hadd]
  rcases Nat.mod_two_eq_zero_or_one j with hm | hm
  · have hj2 : j = 2 * (j / 2) := by omega
    rw [hj2] at hj
    rw [f0] at hj
    cases hj
    rw [show o + j = o + j / 2 * 2 by omega]
    exact c0
  · have hj2 : j = 2 * (j / 2) + 1 := by omega
    rw [hj2] at hj
    rw [f1] at hj
    cases hj
    rw [show o + j = o + j / 2 * 2 + 1 by omega]
    exact c1
set_option maxRecDepth 20000 in
set_option maxHeartbeats 8000000 in
theorem twin_any (fs : List (B × B)) (p : Option Addr) (n c : Nat) (hn : fs.length = n) (w : World) (hF : FAt w p fs) (hnn : n ≤ 1048576) : Calls Tryd.prog 8 #[.slice p n c] w fun e w' => ∃ q d, e = .returned (.slice q n d) ∧ OwnF w' w.heap.size (.slice q n d) fs ∧ Below w.heap.size w w' := by
  obtain ⟨i0, hi0, hz0, hz1, hz2⟩ := info_parts infoF
  cases p with
  | none =>
    have hfs : fs = [] := by
      cases fs with
      | nil => rfl
      | cons f l => obtain ⟨g, o, e, _⟩ := hF 0 f rfl; cases e
    subst hfs
    subst hn
    clear hF
    go_enter Tryd.func8, Tryd.ntmps8
    go_wp2
    go_ret
    exact ⟨none, 0, rfl, OwnF.nil _ _, by first | exact Below.refl _ _ | exact (Below.refl _ _).drew⟩
  | some ad =>
    have HNw := hid hF.news
    have HL := hid hn
    clear hF hn
    go_enter Tryd.func8, Tryd.ntmps8
    go_wp2_with (at_builtin; refine wpList_append_own_at w rfl (.tmp 4) (.tmp 5) 22 rfl w.heap.size 43 i0 _ 2 32 Tryd.underlying22 hi0 hz0 hz1 hz2 rfl (by decide) (.slice none 0 0) 0 [] (by go_simp) (OwnF.nil _ _) ad n c (fldC fs) (by go_simp) (by rw [fldC_len, HL.out]) HNw.out (fldC_one fs) (by unfold maxLen; omega) (by omega) (Nat.le_refl _) ?_; intro v' w1 hown hgr _ _; rw [Nat.zero_add, List.nil_append] at hown; obtain ⟨q, d, rfl⟩ := own_slice hown; have HO := hid (show OwnF w1 w.heap.size (.slice q n d) fs from by unfold OwnF; rw [HL.out]; exact hown); have HB := hid (below_grown hgr); clear hown hgr)
    go_ret
    exact ⟨q, d, rfl, HO.out, HB.out⟩
theorem wreq_gen (m t : B) (k : Int) (fs : List (B × B)) (p : Option Addr) (n c : Nat) (hn : fs.length = n) (w : World) (hE : EnvP w) (hF : FAt w p fs) (hsz : ∀ f ∈ fs, f.1.length ≤ 1048576 ∧ f.2.length ≤ 1048576) (hnn : n ≤ 1048576) (hm : m.length ≤ 1048576) (ht : t.length ≤ 1048576) : Calls Tryd.prog 9 #[.agg #[.string (str m), .string (str t), .int .i64 k, .slice p n c]] w fun e w' => ∃ q x d, e = .returned (.tuple #[.slice q x d, errOf (reqE m t k fs)]) ∧ Says w' (.slice q x d) (reqT m t k fs) ∧ Below w.heap.size w w' := by
  by_cases he : reqE m t k fs = 0
  · refine (wreq_may m t k fs p n c hn w hE hF (fun f hf => ⟨Nat.le_trans (hsz f hf).1 (by decide), Nat.le_trans (hsz f hf).2 (by decide)⟩) (Nat.le_trans hnn (by decide)) (Nat.le_trans hm (by decide)) (Nat.le_trans ht (by decide)) he).mono ?_
    rintro e w' ⟨q, d, rfl, ho, hb⟩
    exact ⟨q, _, d, by rw [he]; rfl, by unfold reqT; rw [if_pos he]; exact says_own ho, hb⟩
  · refine (wreq_not m t k fs p n c hn w hE hF (fun f hf => ⟨Nat.le_trans (hsz f hf).1 (by decide), Nat.le_trans (hsz f hf).2 (by decide)⟩) (Nat.le_trans hnn (by decide)) (Nat.le_trans hm (by decide)) (Nat.le_trans ht (by decide)) he).mono ?_
    rintro e w' ⟨rfl, hb⟩
    exact ⟨none, 0, 0, by rw [errOf_pos he], by unfold reqT; rw [if_neg he]; exact says_nil w', hb⟩
theorem rreq_gen (m t : B) (k : Int) (fs : List (B × B)) (p : Option Addr) (n c : Nat) (hn : fs.length = n) (w : World) (hF : FAt w p fs) (hsz : ∀ f ∈ fs, f.1.length ≤ 1048576 ∧ f.2.length ≤ 1048576) (hnn : n ≤ 1048576) (hm : m.length ≤ 1048576) (ht : t.length ≤ 1048576) : Calls Tryd.prog 10 #[.agg #[.string (str m), .string (str t), .int .i64 k, .slice p n c]] w fun e w' => ∃ q x d, e = .returned (.tuple #[.slice q x d, .int .i64 (reqE m t k fs : Int)]) ∧ Says w' (.slice q x d) (reqT m t k fs) ∧ Below w.heap.size w w' := by
  by_cases he : reqE m t k fs = 0
  · refine (rreq_may m t k fs p n c hn w hF hsz hnn hm ht he).mono ?_
    rintro e w' ⟨g, d, rfl, ha, hb⟩
    exact ⟨_, _, d, by rw [he]; rfl, by unfold reqT; rw [if_pos he]; exact says_arg ha, hb⟩
  · refine (rreq_not m t k fs p n c hn w hF hsz hnn hm ht he).mono ?_
    rintro e w' ⟨rfl, hb⟩
    exact ⟨none, 0, 0, rfl, by unfold reqT; rw [if_neg he]; exact says_nil w', hb⟩
theorem wresp_gen (s : Int) (r : B) (k : Int) (fs : List (B × B)) (p : Option Addr) (n c : Nat) (hn : fs.length = n) (w : World) (hE : EnvP w) (hF : FAt w p fs) (hsz : ∀ f ∈ fs, f.1.length ≤ 1048576 ∧ f.2.length ≤ 1048576) (hnn : n ≤ 1048576) (hr : r.length ≤ 1048576) : Calls Tryd.prog 11 #[.agg #[.int .i64 s, .string (str r), .int .i64 k, .slice p n c]] w fun e w' => ∃ q x d, e = .returned (.tuple #[.slice q x d, errOf (respE s r k fs)]) ∧ Says w' (.slice q x d) (respT s r k fs) ∧ Below w.heap.size w w' := by
  by_cases he : respE s r k fs = 0
  · refine (wresp_may s r k fs p n c hn w hE hF (fun f hf => ⟨Nat.le_trans (hsz f hf).1 (by decide), Nat.le_trans (hsz f hf).2 (by decide)⟩) (Nat.le_trans hnn (by decide)) (Nat.le_trans hr (by decide)) he).mono ?_
    rintro e w' ⟨q, d, rfl, ho, hb⟩
    exact ⟨q, _, d, by rw [he]; rfl, by unfold respT; rw [if_pos he]; exact says_own ho, hb⟩
  · refine (wresp_not s r k fs p n c hn w hE hF (fun f hf => ⟨Nat.le_trans (hsz f hf).1 (by decide), Nat.le_trans (hsz f hf).2 (by decide)⟩) (Nat.le_trans hnn (by decide)) (Nat.le_trans hr (by decide)) he).mono ?_
    rintro e w' ⟨rfl, hb⟩
    exact ⟨none, 0, 0, by rw [errOf_pos he], by unfold respT; rw [if_neg he]; exact says_nil w', hb⟩
theorem rresp_gen (s : Int) (r : B) (k : Int) (fs : List (B × B)) (p : Option Addr) (n c : Nat) (hn : fs.length = n) (w : World) (hF : FAt w p fs) (hsz : ∀ f ∈ fs, f.1.length ≤ 1048576 ∧ f.2.length ≤ 1048576) (hnn : n ≤ 1048576) (hr : r.length ≤ 1048576) : Calls Tryd.prog 12 #[.agg #[.int .i64 s, .string (str r), .int .i64 k, .slice p n c]] w fun e w' => ∃ q x d, e = .returned (.tuple #[.slice q x d, .int .i64 (respE s r k fs : Int)]) ∧ Says w' (.slice q x d) (respT s r k fs) ∧ Below w.heap.size w w' := by
  by_cases he : respE s r k fs = 0
  · refine (rresp_may s r k fs p n c hn w hF hsz hnn hr he).mono ?_
    rintro e w' ⟨g, d, rfl, ha, hb⟩
    exact ⟨_, _, d, by rw [he]; rfl, by unfold respT; rw [if_pos he]; exact says_arg ha, hb⟩
  · refine (rresp_not s r k fs p n c hn w hF hsz hnn hr he).mono ?_
    rintro e w' ⟨rfl, hb⟩
    exact ⟨none, 0, 0, rfl, by unfold respT; rw [if_neg he]; exact says_nil w', hb⟩
theorem wpAnyD_two {P : Program} {ops : Array Oper} {Q : Exit → Act → World → Prop} {md : Region.Mode} {S : World → Prop} {D : Nat → Bool} {i j : Nat} {oi oj : Oper} {fuel : Nat} {listed : Array Bool} {a : Act} {w : World} (hr : Region.ready md ops listed = [i, j]) (hoi : ops[i]? = some oi) (hoj : ops[j]? = some oj)
    (h1 : ∀ K' : Act → World → Prop, (∀ a w, ((D i = false → S w) ∧ wpAnyD P md ops Q S D fuel (listed.setIfInBounds i true) a w) → K' a w) → if Region.wanted oi (yielded ops a.tmps) = true then Oper.wp P oi a w K' Q else K' (a.put oi.dst undef) w)
    (h2 : ∀ K' : Act → World → Prop, (∀ a w, ((D j = false → S w) ∧ wpAnyD P md ops Q S D fuel (listed.setIfInBounds j true) a w) → K' a w) → if Region.wanted oj (yielded ops a.tmps) = true then Oper.wp P oj a w K' Q else K' (a.put oj.dst undef) w) :
    wpAnyD P md ops Q S D (fuel + 1) listed a w := by
  refine ⟨fun h0 => (by rw [hr] at h0; cases h0), fun k hk => ?_⟩
  rw [hr] at hk
  simp only [List.mem_cons, List.not_mem_nil, or_false] at hk
  rcases hk with rfl | rfl
  · exact wpOp_step hoi h1
  · exact wpOp_step hoj h2
theorem Two2.cells {w W : World} {a0 a1 a2 a3 c0 c1 c2 c3 : Value} (h : Two2 w W #[a0, a1, a2, a3] #[c0, c1, c2, c3]) : Cells4 W w.heap.size a0 a1 a2 a3 ∧ Cells4 W (w.heap.size + 1) c0 c1 c2 c3 := ⟨cells4 h.a, cells4 h.c⟩
/-- What was handed in, two boxes of the law's own, and what lies below. -/
structure Four (w W : World) (gx gy : Nat) (A C X Y : Array Value) : Prop where
  low : Below w.heap.size w W
  a : W.heap[w.heap.size]? = some (.cells A 24 (0, 0))
  c : W.heap[w.heap.size + 1]? = some (.cells C 26 (0, 0))
  x : W.heap[gx]? = some (.cells X 24 (0, 0))
  y : W.heap[gy]? = some (.cells Y 26 (0, 0))
  nx : w.heap.size + 1 < gx
  ny : w.heap.size + 1 < gy
theorem req_resp : (24 : Nat) ≠ 26 := by decide
theorem Four.ne {w W : World} {gx gy : Nat} {A C X Y : Array Value} (h : Four w W gx gy A C X Y) : gx ≠ gy := by
  intro e
  have h1 := h.x
  rw [e, h.y] at h1
  simp only [Option.some.injEq, Obj.cells.injEq] at h1
  exact req_resp h1.2.1.symm
theorem Four.cells {w W : World} {gx gy : Nat} {X Y : Array Value} {a0 a1 a2 a3 c0 c1 c2 c3 : Value} (h : Four w W gx gy #[a0, a1, a2, a3] #[c0, c1, c2, c3] X Y) : Cells4 W w.heap.size a0 a1 a2 a3 ∧ Cells4 W (w.heap.size + 1) c0 c1 c2 c3 := ⟨cells4 h.a, cells4 h.c⟩
theorem Four.next {w W W' : World} {gx gy : Nat} {A C X Y : Array Value} (h : Four w W gx gy A C X Y) (hb : Below W.heap.size W W') : Four w W' gx gy A C X Y :=
  ⟨h.low.trans (hb.mono h.low.size), (hb.block _ (lt_of_heap h.a)).trans h.a, (hb.block _ (lt_of_heap h.c)).trans h.c, (hb.block _ (lt_of_heap h.x)).trans h.x, (hb.block _ (lt_of_heap h.y)).trans h.y, h.nx, h.ny⟩
theorem Four.atx {w W W' : World} {gx gy : Nat} {A C X X' Y : Array Value} (h : Four w W gx gy A C X Y) (ho : Only (fun k => k = gx) W W') (hx : W'.heap[gx]? = some (.cells X' 24 (0, 0))) : Four w W' gx gy A C X' Y := by
  have h1 := h.nx
  have h2 := h.ne
  refine ⟨h.low.trans (ho.below (fun k hk => by have h9 : k = gx := hk; omega) h.low.size), (ho.block _ (lt_of_heap h.a) (fun e => by have h9 : w.heap.size = gx := e; omega)).trans h.a, (ho.block _ (lt_of_heap h.c) (fun e => by have h9 : w.heap.size + 1 = gx := e; omega)).trans h.c, hx, (ho.block _ (lt_of_heap h.y) (fun e => by have h9 : gy = gx := e; omega)).trans h.y, h.nx, h.ny⟩
theorem Four.aty {w W W' : World} {gx gy : Nat} {A C X Y Y' : Array Value} (h : Four w W gx gy A C X Y) (ho : Only (fun k => k = gy) W W') (hy : W'.heap[gy]? = some (.cells Y' 26 (0, 0))) : Four w W' gx gy A C X Y' := by
  have h1 := h.ny
  have h2 := h.ne
  refine ⟨h.low.trans (ho.below (fun k hk => by have h9 : k = gy := hk; omega) h.low.size), (ho.block _ (lt_of_heap h.a) (fun e => by have h9 : w.heap.size = gy := e; omega)).trans h.a, (ho.block _ (lt_of_heap h.c) (fun e => by have h9 : w.heap.size + 1 = gy := e; omega)).trans h.c, (ho.block _ (lt_of_heap h.x) (fun e => by have h9 : gx = gy := e; omega)).trans h.x, hy, h.nx, h.ny⟩
theorem set3 {w : World} {g : Nat} {T : TypeId} {fr : Nat × Nat} {x0 x1 x2 x3 : Value} (h : w.heap[g]? = some (.cells #[x0, x1, x2, x3] T fr)) (c3 : Value) : (w.setCell ⟨g, 3, none⟩ c3).heap[g]? = some (.cells #[x0, x1, x2, c3] T fr) := by
  simp [World.setCell, Array.getElem?_modify, h]
theorem only3 {w : World} {g : Nat} (c3 : Value) : Only (fun k => k = g) w (w.setCell ⟨g, 3, none⟩ c3) := Only.set (Only.refl (fun k => k = g) w) (show (fun k => k = g) g from rfl) c3
theorem req_ne2 : (24 : Nat) ≠ 43 := by decide
theorem resp_ne2 : (26 : Nat) ≠ 43 := by decide
set_option maxRecDepth 20000 in
set_option maxHeartbeats 16000000 in
theorem wheads_walk (m t : B) (k : Int) (fs : List (B × B)) (p : Option Addr) (n c : Nat) (hn : fs.length = n) (s : Int) (r : B) (k' : Int) (fs' : List (B × B)) (p' : Option Addr) (n' c' : Nat) (hn' : fs'.length = n') (w : World) (hE : EnvP w) (hF : FAt w p fs) (hsz : ∀ f ∈ fs, f.1.length ≤ 1048576 ∧ f.2.length ≤ 1048576) (hnn : n ≤ 1048576) (hm : m.length ≤ 1048576) (ht : t.length ≤ 1048576) (hF' : FAt w p' fs') (hsz' : ∀ f ∈ fs', f.1.length ≤ 1048576 ∧ f.2.length ≤ 1048576) (hnn' : n' ≤ 1048576) (hr : r.length ≤ 1048576) : Calls Tryd.prog 3 #[.agg #[.string (str m), .string (str t), .int .i64 k, .slice p n c], .agg #[.int .i64 s, .string (str r), .int .i64 k', .slice p' n' c']] w fun e w' => e = .returned (.bool true) ∧ Below w.heap.size w w' := by
  subst hn hn'
  obtain ⟨W0, hW0⟩ : ∃ W0, W0 = (w.alloc (.cells #[.string (str m), .string (str t), .int .i64 k, .slice p fs.length c] 24 (0, 0))).alloc (.cells #[.int .i64 s, .string (str r), .int .i64 k', .slice p' fs'.length c'] 26 (0, 0)) := ⟨_, rfl⟩
  have H0 := hid (show Two2 w W0 #[.string (str m), .string (str t), .int .i64 k, .slice p fs.length c] #[.int .i64 s, .string (str r), .int .i64 k', .slice p' fs'.length c'] from by obtain ⟨x1, x2, x3⟩ := two_at hW0; exact ⟨x3, x1, x2⟩)
  have HZ0 := hid (show W0.heap.size = w.heap.size + 1 + 1 from by rw [hW0]; simp)
  have HTq := hid (show ∀ W : World, Below w.heap.size w W → _ from fun W hb => twin_any fs p fs.length c rfl W (hF.next hb) hnn)
  have HTp := hid (show ∀ W : World, Below w.heap.size w W → _ from fun W hb => twin_any fs' p' fs'.length c' rfl W (hF'.next hb) hnn')
  have HQ1 := hid (show ∀ (W : World) (q : Option Addr) (d : Nat), Below w.heap.size w W → FAt W q fs → _ from fun W q d hb h => wreq_gen m t k fs q fs.length d rfl W (hE.next hb) h hsz hnn hm ht)
  have HQ2 := hid (show ∀ W : World, Below w.heap.size w W → _ from fun W hb => rreq_gen m t k fs p fs.length c rfl W (hF.next hb) hsz hnn hm ht)
  have HP1 := hid (show ∀ (W : World) (q : Option Addr) (d : Nat), Below w.heap.size w W → FAt W q fs' → _ from fun W q d hb h => wresp_gen s r k' fs' q fs'.length d rfl W (hE.next hb) h hsz' hnn' hr)
  have HP2 := hid (show ∀ W : World, Below w.heap.size w W → _ from fun W hb => rresp_gen s r k' fs' p' fs'.length c' rfl W (hF'.next hb) hsz' hnn' hr)
  have HFq := hid (show ∀ (W : World) (q : Option Addr) (d : Nat), Below w.heap.size w W → FAt W q fs → _ from fun W q d hb h => fields10_any fs fs q p fs.length fs.length d c rfl rfl W h (hF.next hb) (by omega))
  have HFp := hid (show ∀ (W : World) (q : Option Addr) (d : Nat), Below w.heap.size w W → FAt W q fs' → _ from fun W q d hb h => fields10_any fs' fs' q p' fs'.length fs'.length d c' rfl rfl W h (hF'.next hb) (by omega))
  rw [decide_eq_true rfl] at HFq HFp
  have HN1 := hid (show ∀ W : World, _ from fun W => num10_any (reqE m t k fs) W)
  have HN2 := hid (show ∀ W : World, _ from fun W => num10_any (respE s r k' fs') W)
  have HWk := hid (show ∀ W : World, Below w.heap.size w W → _ from fun W hb => works10_any W (hE.next hb))
  obtain ⟨E1, hE1⟩ : ∃ E1, reqE m t k fs = E1 := ⟨_, rfl⟩
  obtain ⟨E2, hE2⟩ : ∃ E2, respE s r k' fs' = E2 := ⟨_, rfl⟩
  rw [hE1] at HQ1 HQ2 HN1
  rw [hE2] at HP1 HP2 HN2
  obtain ⟨V1, hV1⟩ : ∃ V1, errOf E1 = V1 := ⟨_, rfl⟩
  obtain ⟨V2, hV2⟩ : ∃ V2, errOf E2 = V2 := ⟨_, rfl⟩
  rw [hV1] at HQ1 HN1
  rw [hV2] at HP1 HN2
  obtain ⟨X1, hX1⟩ : ∃ X1, reqT m t k fs = X1 := ⟨_, rfl⟩
  obtain ⟨X2, hX2⟩ : ∃ X2, respT s r k' fs' = X2 := ⟨_, rfl⟩
  rw [hX1] at HQ1 HQ2
  rw [hX2] at HP1 HP2
  obtain ⟨Z1, hZ1⟩ : ∃ Z1, str X1 = Z1 := ⟨_, rfl⟩
  obtain ⟨Z2, hZ2⟩ : ∃ Z2, str X2 = Z2 := ⟨_, rfl⟩
  have HZ1 := hid hZ1
  have HZ2 := hid hZ2
  obtain ⟨M, hM⟩ : ∃ M, str m = M := ⟨_, rfl⟩
  obtain ⟨T, hT⟩ : ∃ T, str t = T := ⟨_, rfl⟩
  obtain ⟨Rr, hR⟩ : ∃ Rr, str r = Rr := ⟨_, rfl⟩
  obtain ⟨n, hn⟩ : ∃ n, fs.length = n := ⟨_, rfl⟩
  obtain ⟨n', hn'⟩ : ∃ n', fs'.length = n' := ⟨_, rfl⟩
  rw [hM, hT, hR, hn, hn'] at hW0 H0
  rw [hM, hT, hn] at HQ1 HQ2
  rw [hn] at HTq HFq
  rw [hn'] at HTp HFp
  rw [hR, hn'] at HP1 HP2
  rw [hM, hT, hR, hn, hn']
  have HW0 := hid hW0
  clear hE hF hsz hF' hsz' hM hT hR hn hn' hW0 hE1 hE2 hV1 hV2 hX1 hX2 hZ1 hZ2 hnn hnn' hm ht hr
  go_enter Tryd.func3, Tryd.ntmps3
  go_wp2
  rw [← HW0.out]
  obtain ⟨W1, hW1⟩ : ∃ W1, W1 = W0.drew := ⟨_, rfl⟩
  have H1 := hid (show Two2 w W1 #[.string M, .string T, .int .i64 k, .slice p n c] #[.int .i64 s, .string Rr, .int .i64 k', .slice p' n' c'] ∧ W1.heap.size = w.heap.size + 1 + 1 from by rw [hW1]; exact ⟨⟨H0.out.low.drew, H0.out.a, H0.out.c⟩, HZ0.out⟩)
  have hSa := cells4 H1.out.1.a
  have hSc := cells4 H1.out.1.c
  refine wp_region_noPanic ?_
  refine any_begin 6 (by kernel_rfl) (by kernel_rfl) ?_
  rw [← hW1]
  clear hW1
  refine late_begin (fun U => Cells4 U w.heap.size (.string M) (.string T) (.int .i64 k) (.slice p n c) ∧ Cells4 U (w.heap.size + 1) (.int .i64 s) (.string Rr) (.int .i64 k') (.slice p' n' c')) (fun _ => false) ⟨hSa, hSc⟩ (fun hS => ?_)
  refine late_take (i := 0) (some 15) rfl rfl (by kernel_rfl) (by kernel_rfl) (by kernel_rfl) (by kernel_rfl) (by kernel_rfl) (fun _ _ _ h => h) (by rfl) (v := ?v0r1) ?hy0r1 hS ?rest0r1
  case hy0r1 => intro w0 hSw; obtain ⟨⟨a0, a1, a2, a3, _⟩, ⟨b0, b1, b2, b3, _⟩⟩ := hSw; go_simp; try with_reducible rfl
  simp only [Act.put, List.setIfInBounds_toArray, List.set_cons_zero, List.set_cons_succ]
  refine late_take (i := 1) (some 16) rfl rfl (by kernel_rfl) (by kernel_rfl) (by kernel_rfl) (by kernel_rfl) (by kernel_rfl) (fun _ _ _ h => h) (by rfl) (v := ?v1r1) ?hy1r1 hS ?rest1r1
  case hy1r1 => intro w0 hSw; obtain ⟨⟨a0, a1, a2, a3, _⟩, ⟨b0, b1, b2, b3, _⟩⟩ := hSw; go_simp; try with_reducible rfl
  simp only [Act.put, List.setIfInBounds_toArray, List.set_cons_zero, List.set_cons_succ]
  refine wpAnyD_two (i := 2) (j := 3) (by kernel_rfl) rfl rfl (fun K hK => ?_) (fun K hK => ?_)
  · skip
    go_simp
    refine hK _ _ ⟨fun _ => (H1.out.1.next (below_new W1 (.cells reqZ 24 (0, 0)))).cells, ?_⟩
    clear hK K
    refine wpAnyD_one (i := 3) (by kernel_rfl) rfl (fun K hK => ?_)
    go_simp
    refine hK _ _ ⟨fun _ => ((H1.out.1.next (below_new W1 (.cells reqZ 24 (0, 0)))).next (below_new (W1.alloc (.cells reqZ 24 (0, 0))) (.cells respZ 26 (0, 0)))).cells, ?_⟩
    clear hK K
    obtain ⟨U, hU⟩ : ∃ U, U = (W1.alloc (.cells reqZ 24 (0, 0))).alloc (.cells respZ 26 (0, 0)) := ⟨_, rfl⟩
    obtain ⟨gx, hgx⟩ : ∃ gx, gx = W1.heap.size := ⟨_, rfl⟩
    obtain ⟨gy, hgy⟩ : ∃ gy, gy = W1.heap.size + 1 := ⟨_, rfl⟩
    have H2 := hid (show Four w U gx gy #[.string M, .string T, .int .i64 k, .slice p n c] #[.int .i64 s, .string Rr, .int .i64 k', .slice p' n' c'] reqZ respZ from by
      obtain ⟨q1, q2, q3⟩ := two_at hU
      have h9 := H1.out.2
      exact ⟨H1.out.1.low.trans (q3.mono H1.out.1.low.size), (q3.block _ (lt_of_heap H1.out.1.a)).trans H1.out.1.a, (q3.block _ (lt_of_heap H1.out.1.c)).trans H1.out.1.c, by rw [hgx]; exact q1, by rw [hgy]; exact q2, by omega, by omega⟩)
    unfold reqZ respZ at hU
    rw [← hU]
    first | (rw [← hgx, ← hgy]) | (rw [← hgy, ← hgx])
    clear hU hgx hgy hSa hSc hS
    have hz2 := H2.out
    unfold reqZ respZ at hz2
    obtain ⟨x0, x1, x2, x3, xz⟩ := cells4 hz2.x
    have xz0 := xz 0; have xz1 := xz 1; have xz2 := xz 2; have xz3 := xz 3
    clear hz2 xz
    refine wpAnyD_one (i := 4) (by kernel_rfl) rfl (fun K hK => ?_)
    go_simp
    have h3 : Four w ((((U.setCell ⟨gx, 0, none⟩ (.string M)).setCell ⟨gx, 1, none⟩ (.string T)).setCell ⟨gx, 2, none⟩ (.int .i64 k)).setCell ⟨gx, 3, none⟩ (.slice p n c)) gx gy #[.string M, .string T, .int .i64 k, .slice p n c] #[.int .i64 s, .string Rr, .int .i64 k', .slice p' n' c'] #[.string M, .string T, .int .i64 k, .slice p n c] respZ := H2.out.atx (only4 (F := fun k => k = gx) rfl _ _ _ _) (fourC H2.out.x _ _ _ _)
    refine hK _ _ ⟨fun _ => h3.cells, ?_⟩
    clear hK K h3
    obtain ⟨U3, hU3⟩ : ∃ U3, U3 = (((U.setCell ⟨gx, 0, none⟩ (.string M)).setCell ⟨gx, 1, none⟩ (.string T)).setCell ⟨gx, 2, none⟩ (.int .i64 k)).setCell ⟨gx, 3, none⟩ (.slice p n c) := ⟨_, rfl⟩
    have H3 := hid (show Four w U3 gx gy #[.string M, .string T, .int .i64 k, .slice p n c] #[.int .i64 s, .string Rr, .int .i64 k', .slice p' n' c'] #[.string M, .string T, .int .i64 k, .slice p n c] respZ from by rw [hU3]; exact H2.out.atx (only4 (F := fun k => k = gx) rfl _ _ _ _) (fourC H2.out.x _ _ _ _))
    rw [← hU3]
    clear hU3 x0 x1 x2 x3 xz0 xz1 xz2 xz3 H2
    have hz3 := H3.out
    unfold respZ at hz3
    obtain ⟨y0, y1, y2, y3, yz⟩ := cells4 hz3.y
    have yz0 := yz 0; have yz1 := yz 1; have yz2 := yz 2; have yz3 := yz 3
    clear hz3 yz
    refine wpAnyD_one (i := 5) (by kernel_rfl) rfl (fun K hK => ?_)
    go_simp
    have h4 : Four w ((((U3.setCell ⟨gy, 0, none⟩ (.int .i64 s)).setCell ⟨gy, 1, none⟩ (.string Rr)).setCell ⟨gy, 2, none⟩ (.int .i64 k')).setCell ⟨gy, 3, none⟩ (.slice p' n' c')) gx gy #[.string M, .string T, .int .i64 k, .slice p n c] #[.int .i64 s, .string Rr, .int .i64 k', .slice p' n' c'] #[.string M, .string T, .int .i64 k, .slice p n c] #[.int .i64 s, .string Rr, .int .i64 k', .slice p' n' c'] := H3.out.aty (only4 (F := fun k => k = gy) rfl _ _ _ _) (fourC H3.out.y _ _ _ _)
    refine hK _ _ ⟨fun _ => h4.cells, ?_⟩
    clear hK K h4
    obtain ⟨U4, hU4⟩ : ∃ U4, U4 = (((U3.setCell ⟨gy, 0, none⟩ (.int .i64 s)).setCell ⟨gy, 1, none⟩ (.string Rr)).setCell ⟨gy, 2, none⟩ (.int .i64 k')).setCell ⟨gy, 3, none⟩ (.slice p' n' c') := ⟨_, rfl⟩
    have H4 := hid (show Four w U4 gx gy #[.string M, .string T, .int .i64 k, .slice p n c] #[.int .i64 s, .string Rr, .int .i64 k', .slice p' n' c'] #[.string M, .string T, .int .i64 k, .slice p n c] #[.int .i64 s, .string Rr, .int .i64 k', .slice p' n' c'] from by rw [hU4]; exact H3.out.aty (only4 (F := fun k => k = gy) rfl _ _ _ _) (fourC H3.out.y _ _ _ _))
    rw [← hU4]
    clear hU4 y0 y1 y2 y3 yz0 yz1 yz2 yz3 H3
    refine late_done (by kernel_rfl) ?_ _
    refine NoPanic.normal ?_
    go_wp2
    obtain ⟨U5, hU5⟩ : ∃ U5, U5 = U4.drew := ⟨_, rfl⟩
    have H5 := hid (show Four w U5 gx gy #[.string M, .string T, .int .i64 k, .slice p n c] #[.int .i64 s, .string Rr, .int .i64 k', .slice p' n' c'] #[.string M, .string T, .int .i64 k, .slice p n c] #[.int .i64 s, .string Rr, .int .i64 k', .slice p' n' c'] from by rw [hU5]; exact ⟨H4.out.low.drew, H4.out.a, H4.out.c, H4.out.x, H4.out.y, H4.out.nx, H4.out.ny⟩)
    have hTa := cells4 H5.out.a
    have hTc := cells4 H5.out.c
    refine wp_region_noPanic ?_
    refine any_begin 10 (by kernel_rfl) (by kernel_rfl) ?_
    rw [← hU5]
    clear hU5 H4
    refine late_begin (fun U => Cells4 U w.heap.size (.string M) (.string T) (.int .i64 k) (.slice p n c) ∧ Cells4 U (w.heap.size + 1) (.int .i64 s) (.string Rr) (.int .i64 k') (.slice p' n' c')) (fun _ => false) ⟨hTa, hTc⟩ (fun hS => ?_)
    refine late_take (i := 0) (some 17) rfl rfl (by kernel_rfl) (by kernel_rfl) (by kernel_rfl) (by kernel_rfl) (by kernel_rfl) (fun _ _ _ h => h) (by rfl) (v := ?v0r2A) ?hy0r2A hS ?rest0r2A
    case hy0r2A => intro w0 hSw; obtain ⟨⟨a0, a1, a2, a3, _⟩, ⟨b0, b1, b2, b3, _⟩⟩ := hSw; go_simp; try with_reducible rfl
    simp only [Act.put, List.setIfInBounds_toArray, List.set_cons_zero, List.set_cons_succ]
    refine late_take (i := 1) (some 18) rfl rfl (by kernel_rfl) (by kernel_rfl) (by kernel_rfl) (by kernel_rfl) (by kernel_rfl) (fun _ _ _ h => h) (by rfl) (v := ?v1r2A) ?hy1r2A hS ?rest1r2A
    case hy1r2A => intro w0 hSw; obtain ⟨⟨a0, a1, a2, a3, _⟩, ⟨b0, b1, b2, b3, _⟩⟩ := hSw; go_simp; try with_reducible rfl
    simp only [Act.put, List.setIfInBounds_toArray, List.set_cons_zero, List.set_cons_succ]
    refine late_take (i := 3) (some 20) rfl rfl (by kernel_rfl) (by kernel_rfl) (by kernel_rfl) (by kernel_rfl) (by kernel_rfl) (fun _ _ _ h => h) (by rfl) (v := ?v3r2A) ?hy3r2A hS ?rest3r2A
    case hy3r2A => intro w0 hSw; obtain ⟨⟨a0, a1, a2, a3, _⟩, ⟨b0, b1, b2, b3, _⟩⟩ := hSw; go_simp; try with_reducible rfl
    simp only [Act.put, List.setIfInBounds_toArray, List.set_cons_zero, List.set_cons_succ]
    refine late_take (i := 4) (some 21) rfl rfl (by kernel_rfl) (by kernel_rfl) (by kernel_rfl) (by kernel_rfl) (by kernel_rfl) (fun _ _ _ h => h) (by rfl) (v := ?v4r2A) ?hy4r2A hS ?rest4r2A
    case hy4r2A => intro w0 hSw; obtain ⟨⟨a0, a1, a2, a3, _⟩, ⟨b0, b1, b2, b3, _⟩⟩ := hSw; go_simp; try with_reducible rfl
    simp only [Act.put, List.setIfInBounds_toArray, List.set_cons_zero, List.set_cons_succ]
    refine wpAnyD_one (i := 2) (by kernel_rfl) rfl (fun K hK => ?_)
    go_simp
    go_at_call 8
    refine (HTq.out _ H5.out.low).mono ?_
    rintro e w6 ⟨q6, d6, rfl, hf6, hb⟩
    have H6 := hid (H5.out.next hb)
    have HF6 := hid hf6
    have hS6 := H6.out.cells
    refine hK _ _ ⟨fun _ => hS6, ?_⟩
    clear hK K hb hf6 hS hTa hTc
    refine late_take (i := 6) (some 23) rfl rfl (by kernel_rfl) (by kernel_rfl) (by kernel_rfl) (by kernel_rfl) (by kernel_rfl) (fun _ _ _ h => h) (by rfl) (v := ?v6r2A) ?hy6r2A hS6 ?rest6r2A
    case hy6r2A => intro w0 hSw; obtain ⟨⟨a0, a1, a2, a3, _⟩, ⟨b0, b1, b2, b3, _⟩⟩ := hSw; go_simp; try with_reducible rfl
    simp only [Act.put, List.setIfInBounds_toArray, List.set_cons_zero, List.set_cons_succ]
    refine wpAnyD_one (i := 5) (by kernel_rfl) rfl (fun K hK => ?_)
    go_simp
    go_at_call 8
    refine (HTp.out _ H6.out.low).mono ?_
    rintro e w7 ⟨q7, d7, rfl, hf7, hb⟩
    have H7 := hid (H6.out.next hb)
    have HF7 := hid (And.intro (HF6.out.keep hb) hf7)
    obtain ⟨x0, x1, x2, x3, xz⟩ := cells4 H7.out.x
    have xz3 := xz 3
    refine hK _ _ ⟨fun _ => H7.out.cells, ?_⟩
    clear hK K hb hf7 xz hS6
    refine wpAnyD_one (i := 7) (by kernel_rfl) rfl (fun K hK => ?_)
    go_simp
    have h8 : Four w (w7.setCell ⟨gx, 3, none⟩ (.slice q6 n d6)) gx gy #[.string M, .string T, .int .i64 k, .slice p n c] #[.int .i64 s, .string Rr, .int .i64 k', .slice p' n' c'] #[.string M, .string T, .int .i64 k, .slice q6 n d6] #[.int .i64 s, .string Rr, .int .i64 k', .slice p' n' c'] := H7.out.atx (only3 _) (set3 H7.out.x _)
    refine hK _ _ ⟨fun _ => h8.cells, ?_⟩
    clear hK K h8
    obtain ⟨U8, hU8⟩ : ∃ U8, U8 = w7.setCell ⟨gx, 3, none⟩ (.slice q6 n d6) := ⟨_, rfl⟩
    have H8 := hid (show Four w U8 gx gy #[.string M, .string T, .int .i64 k, .slice p n c] #[.int .i64 s, .string Rr, .int .i64 k', .slice p' n' c'] #[.string M, .string T, .int .i64 k, .slice q6 n d6] #[.int .i64 s, .string Rr, .int .i64 k', .slice p' n' c'] from by rw [hU8]; exact H7.out.atx (only3 _) (set3 H7.out.x _))
    have HF8 := hid (show OwnF U8 U5.heap.size (.slice q6 n d6) fs ∧ OwnF U8 w6.heap.size (.slice q7 n' d7) fs' from by rw [hU8]; exact ⟨ownF_set1 HF7.out.1 H7.out.x req_ne2 _, ownF_set1 HF7.out.2 H7.out.x req_ne2 _⟩)
    rw [← hU8]
    clear hU8 x0 x1 x2 x3 xz3
    obtain ⟨y0, y1, y2, y3, yz⟩ := cells4 H8.out.y
    have yz3 := yz 3
    clear yz
    have hS8 := H8.out.cells
    refine late_take (i := 8) (some 24) rfl rfl (by kernel_rfl) (by kernel_rfl) (by kernel_rfl) (by kernel_rfl) (by kernel_rfl) (fun _ _ _ h => h) (by rfl) (v := ?v8r2A) ?hy8r2A hS8 ?rest8r2A
    case hy8r2A => intro w0 hSw; obtain ⟨⟨a0, a1, a2, a3, _⟩, ⟨b0, b1, b2, b3, _⟩⟩ := hSw; go_simp; try with_reducible rfl
    simp only [Act.put, List.setIfInBounds_toArray, List.set_cons_zero, List.set_cons_succ]
    refine wpAnyD_one (i := 9) (by kernel_rfl) rfl (fun K hK => ?_)
    go_simp
    have h9 : Four w (U8.setCell ⟨gy, 3, none⟩ (.slice q7 n' d7)) gx gy #[.string M, .string T, .int .i64 k, .slice p n c] #[.int .i64 s, .string Rr, .int .i64 k', .slice p' n' c'] #[.string M, .string T, .int .i64 k, .slice q6 n d6] #[.int .i64 s, .string Rr, .int .i64 k', .slice q7 n' d7] := H8.out.aty (only3 _) (set3 H8.out.y _)
    refine hK _ _ ⟨fun _ => h9.cells, ?_⟩
    clear hK K h9 hS8
    obtain ⟨U9, hU9⟩ : ∃ U9, U9 = U8.setCell ⟨gy, 3, none⟩ (.slice q7 n' d7) := ⟨_, rfl⟩
    have H9 := hid (show Four w U9 gx gy #[.string M, .string T, .int .i64 k, .slice p n c] #[.int .i64 s, .string Rr, .int .i64 k', .slice p' n' c'] #[.string M, .string T, .int .i64 k, .slice q6 n d6] #[.int .i64 s, .string Rr, .int .i64 k', .slice q7 n' d7] from by rw [hU9]; exact H8.out.aty (only3 _) (set3 H8.out.y _))
    have HF9 := hid (show FAt U9 q6 fs ∧ FAt U9 q7 fs' from by rw [hU9]; exact ⟨(ownF_set1 HF8.out.1 H8.out.y resp_ne2 _).fat, (ownF_set1 HF8.out.2 H8.out.y resp_ne2 _).fat⟩)
    rw [← hU9]
    clear hU9 y0 y1 y2 y3 yz3
    obtain ⟨x0, x1, x2, x3, _⟩ := cells4 H9.out.x
    have HC1 := hid (HQ1.out _ q6 d6 H9.out.low HF9.out.1)
    refine late_done (by kernel_rfl) ?_ _
    refine NoPanic.normal ?_
    go_wp2_with (first | (go_at_call 9; (with_reducible refine HC1.out.mono ?_); rintro e w11 ⟨a1, a2, a3, rfl, hs, hb⟩; have H11 := hid (H9.out.next hb); have HF11 := hid (And.intro (HF9.out.1.next hb) (HF9.out.2.next hb)); have HS11 := hid hs; clear x0 x1 x2 x3; obtain ⟨x0, x1, x2, x3, _⟩ := cells4 H11.out.a; have HC2 := hid (HQ2.out _ H11.out.low); clear hs hb HC1) | (go_at_call 10; (with_reducible refine HC2.out.mono ?_); rintro e w12 ⟨b1, b2, b3, rfl, hs, hb⟩; have H12 := hid (H11.out.next hb); have HF12 := hid (And.intro (HF11.out.1.next hb) (HF11.out.2.next hb)); have HS12 := hid (And.intro (HS11.out.next hb) hs); clear x0 x1 x2 x3; obtain ⟨x0, x1, x2, x3, _⟩ := cells4 H12.out.y; have HC3 := hid (HP1.out _ q7 d7 H12.out.low HF12.out.2); clear hs hb HC2) | (go_at_call 11; (with_reducible refine HC3.out.mono ?_); rintro e w13 ⟨f1, f2, f3, rfl, hs, hb⟩; have H13 := hid (H12.out.next hb); have HF13 := hid (And.intro (HF12.out.1.next hb) (HF12.out.2.next hb)); have HS13 := hid (And.intro (HS12.out.1.next hb) (And.intro (HS12.out.2.next hb) hs)); clear x0 x1 x2 x3; obtain ⟨x0, x1, x2, x3, _⟩ := cells4 H13.out.c; have HC4 := hid (HP2.out _ H13.out.low); clear hs hb HC3) | (go_at_call 12; (with_reducible refine HC4.out.mono ?_); rintro e w14 ⟨h1, h2, h3, rfl, hs, hb⟩; have H14 := hid (H13.out.next hb); have HF14 := hid (And.intro (HF13.out.1.next hb) (HF13.out.2.next hb)); have hcv1 := (HS13.out.1.next hb) w14 (Below.refl _ _); have hcv2 := (HS13.out.2.1.next hb) w14 (Below.refl _ _); have hcv3 := (HS13.out.2.2.next hb) w14 (Below.refl _ _); have hcv4 := hs w14 (Below.refl _ _); rw [HZ1.out] at hcv1 hcv2; rw [HZ2.out] at hcv3 hcv4; clear x0 x1 x2 x3; obtain ⟨x0, x1, x2, x3, _⟩ := cells4 H14.out.x; obtain ⟨y0, y1, y2, y3, _⟩ := cells4 H14.out.a; have HC5 := hid (HFq.out _ q6 d6 H14.out.low HF14.out.1); clear hs hb HC4) | (go_at_call 13; (with_reducible refine (HN1.out _).mono ?_); rintro e w15 ⟨rfl, hw15⟩; subst w15; clear HN1) | (go_at_call 13; (with_reducible refine (HN2.out _).mono ?_); rintro e w15 ⟨rfl, hw15⟩; subst w15; clear HN2) | (go_at_call 14; (with_reducible refine HC5.out.mono ?_); rintro e w16 ⟨rfl, hb⟩; have H16 := hid (H14.out.next hb); clear hcv1 hcv2 hcv3 hcv4 x0 x1 x2 x3 y0 y1 y2 y3; obtain ⟨x0, x1, x2, x3, _⟩ := cells4 H16.out.y; obtain ⟨y0, y1, y2, y3, _⟩ := cells4 H16.out.c; have HC6 := hid (HFp.out _ q7 d7 H16.out.low (HF14.out.2.next hb)); clear hb HC5) | (go_at_call 14; (with_reducible refine HC6.out.mono ?_); rintro e w17 ⟨rfl, hb⟩; have H17 := hid (H16.out.next hb); clear hb HC6) | (go_at_call 15; (with_reducible refine (HWk.out _ H17.out.low).mono ?_); rintro e w18 ⟨rfl, hb⟩; have H18 := hid (H17.out.next hb); clear hb))
    go_ret
    exact ⟨rfl, H18.out.low⟩
  · skip
    go_simp
    refine hK _ _ ⟨fun _ => (H1.out.1.next (below_new W1 (.cells respZ 26 (0, 0)))).cells, ?_⟩
    clear hK K
    refine wpAnyD_one (i := 2) (by kernel_rfl) rfl (fun K hK => ?_)
    go_simp
    refine hK _ _ ⟨fun _ => ((H1.out.1.next (below_new W1 (.cells respZ 26 (0, 0)))).next (below_new (W1.alloc (.cells respZ 26 (0, 0))) (.cells reqZ 24 (0, 0)))).cells, ?_⟩
    clear hK K
    obtain ⟨U, hU⟩ : ∃ U, U = (W1.alloc (.cells respZ 26 (0, 0))).alloc (.cells reqZ 24 (0, 0)) := ⟨_, rfl⟩
    obtain ⟨gx, hgx⟩ : ∃ gx, gx = W1.heap.size + 1 := ⟨_, rfl⟩
    obtain ⟨gy, hgy⟩ : ∃ gy, gy = W1.heap.size := ⟨_, rfl⟩
    have H2 := hid (show Four w U gx gy #[.string M, .string T, .int .i64 k, .slice p n c] #[.int .i64 s, .string Rr, .int .i64 k', .slice p' n' c'] reqZ respZ from by
      obtain ⟨q1, q2, q3⟩ := two_at hU
      have h9 := H1.out.2
      exact ⟨H1.out.1.low.trans (q3.mono H1.out.1.low.size), (q3.block _ (lt_of_heap H1.out.1.a)).trans H1.out.1.a, (q3.block _ (lt_of_heap H1.out.1.c)).trans H1.out.1.c, by rw [hgx]; exact q2, by rw [hgy]; exact q1, by omega, by omega⟩)
    unfold reqZ respZ at hU
    rw [← hU]
    first | (rw [← hgx, ← hgy]) | (rw [← hgy, ← hgx])
    clear hU hgx hgy hSa hSc hS
    have hz2 := H2.out
    unfold reqZ respZ at hz2
    obtain ⟨x0, x1, x2, x3, xz⟩ := cells4 hz2.x
    have xz0 := xz 0; have xz1 := xz 1; have xz2 := xz 2; have xz3 := xz 3
    clear hz2 xz
    refine wpAnyD_one (i := 4) (by kernel_rfl) rfl (fun K hK => ?_)
    go_simp
    have h3 : Four w ((((U.setCell ⟨gx, 0, none⟩ (.string M)).setCell ⟨gx, 1, none⟩ (.string T)).setCell ⟨gx, 2, none⟩ (.int .i64 k)).setCell ⟨gx, 3, none⟩ (.slice p n c)) gx gy #[.string M, .string T, .int .i64 k, .slice p n c] #[.int .i64 s, .string Rr, .int .i64 k', .slice p' n' c'] #[.string M, .string T, .int .i64 k, .slice p n c] respZ := H2.out.atx (only4 (F := fun k => k = gx) rfl _ _ _ _) (fourC H2.out.x _ _ _ _)
    refine hK _ _ ⟨fun _ => h3.cells, ?_⟩
    clear hK K h3
    obtain ⟨U3, hU3⟩ : ∃ U3, U3 = (((U.setCell ⟨gx, 0, none⟩ (.string M)).setCell ⟨gx, 1, none⟩ (.string T)).setCell ⟨gx, 2, none⟩ (.int .i64 k)).setCell ⟨gx, 3, none⟩ (.slice p n c) := ⟨_, rfl⟩
    have H3 := hid (show Four w U3 gx gy #[.string M, .string T, .int .i64 k, .slice p n c] #[.int .i64 s, .string Rr, .int .i64 k', .slice p' n' c'] #[.string M, .string T, .int .i64 k, .slice p n c] respZ from by rw [hU3]; exact H2.out.atx (only4 (F := fun k => k = gx) rfl _ _ _ _) (fourC H2.out.x _ _ _ _))
    rw [← hU3]
    clear hU3 x0 x1 x2 x3 xz0 xz1 xz2 xz3 H2
    have hz3 := H3.out
    unfold respZ at hz3
    obtain ⟨y0, y1, y2, y3, yz⟩ := cells4 hz3.y
    have yz0 := yz 0; have yz1 := yz 1; have yz2 := yz 2; have yz3 := yz 3
    clear hz3 yz
    refine wpAnyD_one (i := 5) (by kernel_rfl) rfl (fun K hK => ?_)
    go_simp
    have h4 : Four w ((((U3.setCell ⟨gy, 0, none⟩ (.int .i64 s)).setCell ⟨gy, 1, none⟩ (.string Rr)).setCell ⟨gy, 2, none⟩ (.int .i64 k')).setCell ⟨gy, 3, none⟩ (.slice p' n' c')) gx gy #[.string M, .string T, .int .i64 k, .slice p n c] #[.int .i64 s, .string Rr, .int .i64 k', .slice p' n' c'] #[.string M, .string T, .int .i64 k, .slice p n c] #[.int .i64 s, .string Rr, .int .i64 k', .slice p' n' c'] := H3.out.aty (only4 (F := fun k => k = gy) rfl _ _ _ _) (fourC H3.out.y _ _ _ _)
    refine hK _ _ ⟨fun _ => h4.cells, ?_⟩
    clear hK K h4
    obtain ⟨U4, hU4⟩ : ∃ U4, U4 = (((U3.setCell ⟨gy, 0, none⟩ (.int .i64 s)).setCell ⟨gy, 1, none⟩ (.string Rr)).setCell ⟨gy, 2, none⟩ (.int .i64 k')).setCell ⟨gy, 3, none⟩ (.slice p' n' c') := ⟨_, rfl⟩
    have H4 := hid (show Four w U4 gx gy #[.string M, .string T, .int .i64 k, .slice p n c] #[.int .i64 s, .string Rr, .int .i64 k', .slice p' n' c'] #[.string M, .string T, .int .i64 k, .slice p n c] #[.int .i64 s, .string Rr, .int .i64 k', .slice p' n' c'] from by rw [hU4]; exact H3.out.aty (only4 (F := fun k => k = gy) rfl _ _ _ _) (fourC H3.out.y _ _ _ _))
    rw [← hU4]
    clear hU4 y0 y1 y2 y3 yz0 yz1 yz2 yz3 H3
    refine late_done (by kernel_rfl) ?_ _
    refine NoPanic.normal ?_
    go_wp2
    obtain ⟨U5, hU5⟩ : ∃ U5, U5 = U4.drew := ⟨_, rfl⟩
    have H5 := hid (show Four w U5 gx gy #[.string M, .string T, .int .i64 k, .slice p n c] #[.int .i64 s, .string Rr, .int .i64 k', .slice p' n' c'] #[.string M, .string T, .int .i64 k, .slice p n c] #[.int .i64 s, .string Rr, .int .i64 k', .slice p' n' c'] from by rw [hU5]; exact ⟨H4.out.low.drew, H4.out.a, H4.out.c, H4.out.x, H4.out.y, H4.out.nx, H4.out.ny⟩)
    have hTa := cells4 H5.out.a
    have hTc := cells4 H5.out.c
    refine wp_region_noPanic ?_
    refine any_begin 10 (by kernel_rfl) (by kernel_rfl) ?_
    rw [← hU5]
    clear hU5 H4
    refine late_begin (fun U => Cells4 U w.heap.size (.string M) (.string T) (.int .i64 k) (.slice p n c) ∧ Cells4 U (w.heap.size + 1) (.int .i64 s) (.string Rr) (.int .i64 k') (.slice p' n' c')) (fun _ => false) ⟨hTa, hTc⟩ (fun hS => ?_)
    refine late_take (i := 0) (some 17) rfl rfl (by kernel_rfl) (by kernel_rfl) (by kernel_rfl) (by kernel_rfl) (by kernel_rfl) (fun _ _ _ h => h) (by rfl) (v := ?v0r2B) ?hy0r2B hS ?rest0r2B
    case hy0r2B => intro w0 hSw; obtain ⟨⟨a0, a1, a2, a3, _⟩, ⟨b0, b1, b2, b3, _⟩⟩ := hSw; go_simp; try with_reducible rfl
    simp only [Act.put, List.setIfInBounds_toArray, List.set_cons_zero, List.set_cons_succ]
    refine late_take (i := 1) (some 18) rfl rfl (by kernel_rfl) (by kernel_rfl) (by kernel_rfl) (by kernel_rfl) (by kernel_rfl) (fun _ _ _ h => h) (by rfl) (v := ?v1r2B) ?hy1r2B hS ?rest1r2B
    case hy1r2B => intro w0 hSw; obtain ⟨⟨a0, a1, a2, a3, _⟩, ⟨b0, b1, b2, b3, _⟩⟩ := hSw; go_simp; try with_reducible rfl
    simp only [Act.put, List.setIfInBounds_toArray, List.set_cons_zero, List.set_cons_succ]
    refine late_take (i := 3) (some 20) rfl rfl (by kernel_rfl) (by kernel_rfl) (by kernel_rfl) (by kernel_rfl) (by kernel_rfl) (fun _ _ _ h => h) (by rfl) (v := ?v3r2B) ?hy3r2B hS ?rest3r2B
    case hy3r2B => intro w0 hSw; obtain ⟨⟨a0, a1, a2, a3, _⟩, ⟨b0, b1, b2, b3, _⟩⟩ := hSw; go_simp; try with_reducible rfl
    simp only [Act.put, List.setIfInBounds_toArray, List.set_cons_zero, List.set_cons_succ]
    refine late_take (i := 4) (some 21) rfl rfl (by kernel_rfl) (by kernel_rfl) (by kernel_rfl) (by kernel_rfl) (by kernel_rfl) (fun _ _ _ h => h) (by rfl) (v := ?v4r2B) ?hy4r2B hS ?rest4r2B
    case hy4r2B => intro w0 hSw; obtain ⟨⟨a0, a1, a2, a3, _⟩, ⟨b0, b1, b2, b3, _⟩⟩ := hSw; go_simp; try with_reducible rfl
    simp only [Act.put, List.setIfInBounds_toArray, List.set_cons_zero, List.set_cons_succ]
    refine wpAnyD_one (i := 2) (by kernel_rfl) rfl (fun K hK => ?_)
    go_simp
    go_at_call 8
    refine (HTq.out _ H5.out.low).mono ?_
    rintro e w6 ⟨q6, d6, rfl, hf6, hb⟩
    have H6 := hid (H5.out.next hb)
    have HF6 := hid hf6
    have hS6 := H6.out.cells
    refine hK _ _ ⟨fun _ => hS6, ?_⟩
    clear hK K hb hf6 hS hTa hTc
    refine late_take (i := 6) (some 23) rfl rfl (by kernel_rfl) (by kernel_rfl) (by kernel_rfl) (by kernel_rfl) (by kernel_rfl) (fun _ _ _ h => h) (by rfl) (v := ?v6r2B) ?hy6r2B hS6 ?rest6r2B
    case hy6r2B => intro w0 hSw; obtain ⟨⟨a0, a1, a2, a3, _⟩, ⟨b0, b1, b2, b3, _⟩⟩ := hSw; go_simp; try with_reducible rfl
    simp only [Act.put, List.setIfInBounds_toArray, List.set_cons_zero, List.set_cons_succ]
    refine wpAnyD_one (i := 5) (by kernel_rfl) rfl (fun K hK => ?_)
    go_simp
    go_at_call 8
    refine (HTp.out _ H6.out.low).mono ?_
    rintro e w7 ⟨q7, d7, rfl, hf7, hb⟩
    have H7 := hid (H6.out.next hb)
    have HF7 := hid (And.intro (HF6.out.keep hb) hf7)
    obtain ⟨x0, x1, x2, x3, xz⟩ := cells4 H7.out.x
    have xz3 := xz 3
    refine hK _ _ ⟨fun _ => H7.out.cells, ?_⟩
    clear hK K hb hf7 xz hS6
    refine wpAnyD_one (i := 7) (by kernel_rfl) rfl (fun K hK => ?_)
    go_simp
    have h8 : Four w (w7.setCell ⟨gx, 3, none⟩ (.slice q6 n d6)) gx gy #[.string M, .string T, .int .i64 k, .slice p n c] #[.int .i64 s, .string Rr, .int .i64 k', .slice p' n' c'] #[.string M, .string T, .int .i64 k, .slice q6 n d6] #[.int .i64 s, .string Rr, .int .i64 k', .slice p' n' c'] := H7.out.atx (only3 _) (set3 H7.out.x _)
    refine hK _ _ ⟨fun _ => h8.cells, ?_⟩
    clear hK K h8
    obtain ⟨U8, hU8⟩ : ∃ U8, U8 = w7.setCell ⟨gx, 3, none⟩ (.slice q6 n d6) := ⟨_, rfl⟩
    have H8 := hid (show Four w U8 gx gy #[.string M, .string T, .int .i64 k, .slice p n c] #[.int .i64 s, .string Rr, .int .i64 k', .slice p' n' c'] #[.string M, .string T, .int .i64 k, .slice q6 n d6] #[.int .i64 s, .string Rr, .int .i64 k', .slice p' n' c'] from by rw [hU8]; exact H7.out.atx (only3 _) (set3 H7.out.x _))
    have HF8 := hid (show OwnF U8 U5.heap.size (.slice q6 n d6) fs ∧ OwnF U8 w6.heap.size (.slice q7 n' d7) fs' from by rw [hU8]; exact ⟨ownF_set1 HF7.out.1 H7.out.x req_ne2 _, ownF_set1 HF7.out.2 H7.out.x req_ne2 _⟩)
    rw [← hU8]
    clear hU8 x0 x1 x2 x3 xz3
    obtain ⟨y0, y1, y2, y3, yz⟩ := cells4 H8.out.y
    have yz3 := yz 3
    clear yz
    have hS8 := H8.out.cells
    refine late_take (i := 8) (some 24) rfl rfl (by kernel_rfl) (by kernel_rfl) (by kernel_rfl) (by kernel_rfl) (by kernel_rfl) (fun _ _ _ h => h) (by rfl) (v := ?v8r2B) ?hy8r2B hS8 ?rest8r2B
    case hy8r2B => intro w0 hSw; obtain ⟨⟨a0, a1, a2, a3, _⟩, ⟨b0, b1, b2, b3, _⟩⟩ := hSw; go_simp; try with_reducible rfl
    simp only [Act.put, List.setIfInBounds_toArray, List.set_cons_zero, List.set_cons_succ]
    refine wpAnyD_one (i := 9) (by kernel_rfl) rfl (fun K hK => ?_)
    go_simp
    have h9 : Four w (U8.setCell ⟨gy, 3, none⟩ (.slice q7 n' d7)) gx gy #[.string M, .string T, .int .i64 k, .slice p n c] #[.int .i64 s, .string Rr, .int .i64 k', .slice p' n' c'] #[.string M, .string T, .int .i64 k, .slice q6 n d6] #[.int .i64 s, .string Rr, .int .i64 k', .slice q7 n' d7] := H8.out.aty (only3 _) (set3 H8.out.y _)
    refine hK _ _ ⟨fun _ => h9.cells, ?_⟩
    clear hK K h9 hS8
    obtain ⟨U9, hU9⟩ : ∃ U9, U9 = U8.setCell ⟨gy, 3, none⟩ (.slice q7 n' d7) := ⟨_, rfl⟩
    have H9 := hid (show Four w U9 gx gy #[.string M, .string T, .int .i64 k, .slice p n c] #[.int .i64 s, .string Rr, .int .i64 k', .slice p' n' c'] #[.string M, .string T, .int .i64 k, .slice q6 n d6] #[.int .i64 s, .string Rr, .int .i64 k', .slice q7 n' d7] from by rw [hU9]; exact H8.out.aty (only3 _) (set3 H8.out.y _))
    have HF9 := hid (show FAt U9 q6 fs ∧ FAt U9 q7 fs' from by rw [hU9]; exact ⟨(ownF_set1 HF8.out.1 H8.out.y resp_ne2 _).fat, (ownF_set1 HF8.out.2 H8.out.y resp_ne2 _).fat⟩)
    rw [← hU9]
    clear hU9 y0 y1 y2 y3 yz3
    obtain ⟨x0, x1, x2, x3, _⟩ := cells4 H9.out.x
    have HC1 := hid (HQ1.out _ q6 d6 H9.out.low HF9.out.1)
    refine late_done (by kernel_rfl) ?_ _
    refine NoPanic.normal ?_
    go_wp2_with (first | (go_at_call 9; (with_reducible refine HC1.out.mono ?_); rintro e w11 ⟨a1, a2, a3, rfl, hs, hb⟩; have H11 := hid (H9.out.next hb); have HF11 := hid (And.intro (HF9.out.1.next hb) (HF9.out.2.next hb)); have HS11 := hid hs; clear x0 x1 x2 x3; obtain ⟨x0, x1, x2, x3, _⟩ := cells4 H11.out.a; have HC2 := hid (HQ2.out _ H11.out.low); clear hs hb HC1) | (go_at_call 10; (with_reducible refine HC2.out.mono ?_); rintro e w12 ⟨b1, b2, b3, rfl, hs, hb⟩; have H12 := hid (H11.out.next hb); have HF12 := hid (And.intro (HF11.out.1.next hb) (HF11.out.2.next hb)); have HS12 := hid (And.intro (HS11.out.next hb) hs); clear x0 x1 x2 x3; obtain ⟨x0, x1, x2, x3, _⟩ := cells4 H12.out.y; have HC3 := hid (HP1.out _ q7 d7 H12.out.low HF12.out.2); clear hs hb HC2) | (go_at_call 11; (with_reducible refine HC3.out.mono ?_); rintro e w13 ⟨f1, f2, f3, rfl, hs, hb⟩; have H13 := hid (H12.out.next hb); have HF13 := hid (And.intro (HF12.out.1.next hb) (HF12.out.2.next hb)); have HS13 := hid (And.intro (HS12.out.1.next hb) (And.intro (HS12.out.2.next hb) hs)); clear x0 x1 x2 x3; obtain ⟨x0, x1, x2, x3, _⟩ := cells4 H13.out.c; have HC4 := hid (HP2.out _ H13.out.low); clear hs hb HC3) | (go_at_call 12; (with_reducible refine HC4.out.mono ?_); rintro e w14 ⟨h1, h2, h3, rfl, hs, hb⟩; have H14 := hid (H13.out.next hb); have HF14 := hid (And.intro (HF13.out.1.next hb) (HF13.out.2.next hb)); have hcv1 := (HS13.out.1.next hb) w14 (Below.refl _ _); have hcv2 := (HS13.out.2.1.next hb) w14 (Below.refl _ _); have hcv3 := (HS13.out.2.2.next hb) w14 (Below.refl _ _); have hcv4 := hs w14 (Below.refl _ _); rw [HZ1.out] at hcv1 hcv2; rw [HZ2.out] at hcv3 hcv4; clear x0 x1 x2 x3; obtain ⟨x0, x1, x2, x3, _⟩ := cells4 H14.out.x; obtain ⟨y0, y1, y2, y3, _⟩ := cells4 H14.out.a; have HC5 := hid (HFq.out _ q6 d6 H14.out.low HF14.out.1); clear hs hb HC4) | (go_at_call 13; (with_reducible refine (HN1.out _).mono ?_); rintro e w15 ⟨rfl, hw15⟩; subst w15; clear HN1) | (go_at_call 13; (with_reducible refine (HN2.out _).mono ?_); rintro e w15 ⟨rfl, hw15⟩; subst w15; clear HN2) | (go_at_call 14; (with_reducible refine HC5.out.mono ?_); rintro e w16 ⟨rfl, hb⟩; have H16 := hid (H14.out.next hb); clear hcv1 hcv2 hcv3 hcv4 x0 x1 x2 x3 y0 y1 y2 y3; obtain ⟨x0, x1, x2, x3, _⟩ := cells4 H16.out.y; obtain ⟨y0, y1, y2, y3, _⟩ := cells4 H16.out.c; have HC6 := hid (HFp.out _ q7 d7 H16.out.low (HF14.out.2.next hb)); clear hb HC5) | (go_at_call 14; (with_reducible refine HC6.out.mono ?_); rintro e w17 ⟨rfl, hb⟩; have H17 := hid (H16.out.next hb); clear hb HC6) | (go_at_call 15; (with_reducible refine (HWk.out _ H17.out.low).mono ?_); rintro e w18 ⟨rfl, hb⟩; have H18 := hid (H17.out.next hb); clear hb))
    go_ret
    exact ⟨rfl, H18.out.low⟩
end Go.Proofs.YtpcfcpeokkbfmaaDoor
