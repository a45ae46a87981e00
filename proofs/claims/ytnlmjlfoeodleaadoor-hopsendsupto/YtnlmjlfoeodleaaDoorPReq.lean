/- The program's reader: a new one; the head that was read, its fields copied. -/
import Derived.Test.YtnlmjlfoeodleaaDoorPFeed
namespace Go.Proofs.YtnlmjlfoeodleaaDoor
open Go.RowKit

theorem OwnF.news {w : World} {b n c : Nat} {ad : Addr} {fs : List (B × B)} (h : OwnF w b (.slice (some ad) n c) fs) : ∀ j u, (fldC fs)[j]? = some u → w.cell? (ad.add j) = some u := by
  rcases h.2 with ⟨h1, _⟩ | ⟨g, cap, cur, h1, h2, h3, h4, _, h6, h7⟩
  · cases h1
  · simp only [Value.slice.injEq, Option.some.injEq] at h1
    obtain ⟨rfl, _, _⟩ := h1
    intro j u hj
    rw [add_off]
    have hlt : j < (fldC fs).length := (List.getElem?_eq_some_iff.1 hj).1
    rw [fldC_len] at hlt
    rw [← h7, List.getElem?_take, if_pos hlt] at hj
    simp only [World.cell?, h3]
    simpa using hj
theorem fldC_one (fs : List (B × B)) : ∀ u ∈ fldC fs, u.oneCell' = true := by
  intro u hu
  unfold fldC at hu
  rw [List.mem_flatMap] at hu
  obtain ⟨f, _, hu⟩ := hu
  simp at hu
  rcases hu with rfl | rfl <;> rfl
theorem OwnF.lower {w : World} {b b' : Nat} {v : Value} {acc : List (B × B)} (h : OwnF w b v acc) (hb : b' ≤ b) : OwnF w b' v acc := by
  refine ⟨h.1, ?_⟩
  rcases h.2 with h1 | ⟨g, cap, cur, h1, h2, h3⟩
  · exact .inl h1
  · exact .inr ⟨g, cap, cur, h1, Nat.le_trans hb h2, h3⟩
theorem fourC {w : World} {g : Nat} {T : TypeId} {fr : Nat × Nat} {x0 x1 x2 x3 : Value} (h : w.heap[g]? = some (.cells #[x0, x1, x2, x3] T fr)) (c0 c1 c2 c3 : Value) :
    ((((w.setCell ⟨g, 0, none⟩ c0).setCell ⟨g, 1, none⟩ c1).setCell ⟨g, 2, none⟩ c2).setCell ⟨g, 3, none⟩ c3).heap[g]? = some (.cells #[c0, c1, c2, c3] T fr) := by
  simp [World.setCell, Array.getElem?_modify, h]
theorem below_four {w w1 : World} {g : Nat} (h : Below g w w1) (c0 c1 c2 c3 : Value) : Below g w ((((w1.setCell ⟨g, 0, none⟩ c0).setCell ⟨g, 1, none⟩ c1).setCell ⟨g, 2, none⟩ c2).setCell ⟨g, 3, none⟩ c3) := by
  iterate 4 refine Below.setCell ?_ (show g ≤ g from Nat.le_refl g) _
  exact h
structure Cells4 (w : World) (g : Nat) (c0 c1 c2 c3 : Value) : Prop where
  a0 : w.cell? ⟨g, 0, none⟩ = some c0
  a1 : w.cell? ⟨g, 1, none⟩ = some c1
  a2 : w.cell? ⟨g, 2, none⟩ = some c2
  a3 : w.cell? ⟨g, 3, none⟩ = some c3
  z : ∀ j, w.frozen? ⟨g, j, none⟩ = false
theorem cells4 {w : World} {g : Nat} {c0 c1 c2 c3 : Value} {T : TypeId} (h : w.heap[g]? = some (.cells #[c0, c1, c2, c3] T (0, 0))) : Cells4 w g c0 c1 c2 c3 := by
  refine ⟨?_, ?_, ?_, ?_, fun j => by simp [World.frozen?, h]⟩ <;> simp [World.cell?, h]
theorem only4 {F : Nat → Prop} {w : World} {g : Nat} (hg : F g) (c0 c1 c2 c3 : Value) : Only F w ((((w.setCell ⟨g, 0, none⟩ c0).setCell ⟨g, 1, none⟩ c1).setCell ⟨g, 2, none⟩ c2).setCell ⟨g, 3, none⟩ c3) := by
  iterate 4 refine Only.set ?_ hg _
  exact Only.refl _ _
theorem ownF_set4 {w : World} {g N : Nat} {v : Value} {fs : List (B × B)} {cs : Array Value} {T : TypeId} {fr : Nat × Nat} (h : OwnF w N v fs) (hg : w.heap[g]? = some (.cells cs T fr)) (ht : T ≠ 41) (c0 c1 c2 c3 : Value) : OwnF ((((w.setCell ⟨g, 0, none⟩ c0).setCell ⟨g, 1, none⟩ c1).setCell ⟨g, 2, none⟩ c2).setCell ⟨g, 3, none⟩ c3) N v fs := by
  refine ownF_only h (only4 (F := fun k => k = g) rfl c0 c1 c2 c3) (fun k e hk => ?_)
  subst hk
  exact ht (ownF_type h e hg)
theorem req_size : (Tryd.prog.info? 35).map (·.size) = some 4 := by kernel_rfl
theorem req_ne : (35 : Nat) ≠ 41 := by decide
theorem results_req {fn : Func} {p u : Tmp} (h : fn.results = #[.cell p 35, .tmp u]) (tmps : Array Value) (w : World) (g : Nat) (t : TypeId) (cs : Array Value) (fr : Nat × Nat)
    (hp : tmps.getD p undef = .pointer (some ⟨g, 0, none⟩)) (hg : w.heap[g]? = some (.cells cs t fr)) (hs : cs.size = 4) : (results fn tmps).run Tryd.prog w = .ok (.tuple #[.agg cs, tmps.getD u undef]) w := by
  have hl := run_loadVar_row (P := Tryd.prog) w g t 35 cs fr _ hg Tryd.underlying35 rfl (by rw [req_size, hs])
  rw [results_cell_tmp h, hp]
  simp [asAddr, Result.andThen, hl]
theorem results_req3 {fn : Func} {p u v : Tmp} (h : fn.results = #[.cell p 35, .tmp u, .tmp v]) (tmps : Array Value) (w : World) (g : Nat) (t : TypeId) (cs : Array Value) (fr : Nat × Nat)
    (hp : tmps.getD p undef = .pointer (some ⟨g, 0, none⟩)) (hg : w.heap[g]? = some (.cells cs t fr)) (hs : cs.size = 4) : (results fn tmps).run Tryd.prog w = .ok (.tuple #[.agg cs, tmps.getD u undef, tmps.getD v undef]) w := by
  have hl := run_loadVar_row (P := Tryd.prog) w g t 35 cs fr _ hg Tryd.underlying35 rfl (by rw [req_size, hs])
  have hp' : tmps[p]?.getD undef = .pointer (some ⟨g, 0, none⟩) := by simpa using hp
  simp [results, h, hp', asAddr, Result.andThen, hl]
def reqC (s : PS) (v : Value) : Array Value := #[.string (str s.method), .string (str s.target), .int .i64 s.minor, v]
def reqZ : Array Value := #[.string ⟨#[]⟩, .string ⟨#[]⟩, .int .i64 0, .slice none 0 0]
structure Rd_req (U : World) (g : Nat) (c1 c2 c3 c4 : Value) : Prop where
  a1 : U.cell? ⟨g, 8, none⟩ = some c1
  a2 : U.cell? ⟨g, 9, none⟩ = some c2
  a3 : U.cell? ⟨g, 11, none⟩ = some c3
  a4 : U.cell? ⟨g, 13, none⟩ = some c4
theorem Rd_req.below {U V : World} {g : Nat} {c1 c2 c3 c4 : Value} (h : Rd_req U g c1 c2 c3 c4) (hb : Below U.heap.size U V) : Rd_req V g c1 c2 c3 c4 := ⟨cell_keep hb h.a1, cell_keep hb h.a2, cell_keep hb h.a3, cell_keep hb h.a4⟩
theorem Rd_req.only {F : Nat → Prop} {U V : World} {g : Nat} {c1 c2 c3 c4 : Value} (h : Rd_req U g c1 c2 c3 c4) (ho : Only F U V) (hg : ¬ F g) : Rd_req V g c1 c2 c3 c4 := ⟨cell_only ho hg h.a1, cell_only ho hg h.a2, cell_only ho hg h.a3, cell_only ho hg h.a4⟩
def respC (s : PS) (v : Value) : Array Value := #[.int .i64 s.status, .string (str s.reason), .int .i64 s.minor, v]
def respZ : Array Value := #[.int .i64 0, .string ⟨#[]⟩, .int .i64 0, .slice none 0 0]
structure Rd_resp (U : World) (g : Nat) (c1 c2 c3 c4 : Value) : Prop where
  a1 : U.cell? ⟨g, 12, none⟩ = some c1
  a2 : U.cell? ⟨g, 10, none⟩ = some c2
  a3 : U.cell? ⟨g, 11, none⟩ = some c3
  a4 : U.cell? ⟨g, 13, none⟩ = some c4
theorem Rd_resp.below {U V : World} {g : Nat} {c1 c2 c3 c4 : Value} (h : Rd_resp U g c1 c2 c3 c4) (hb : Below U.heap.size U V) : Rd_resp V g c1 c2 c3 c4 := ⟨cell_keep hb h.a1, cell_keep hb h.a2, cell_keep hb h.a3, cell_keep hb h.a4⟩
theorem Rd_resp.only {F : Nat → Prop} {U V : World} {g : Nat} {c1 c2 c3 c4 : Value} (h : Rd_resp U g c1 c2 c3 c4) (ho : Only F U V) (hg : ¬ F g) : Rd_resp V g c1 c2 c3 c4 := ⟨cell_only ho hg h.a1, cell_only ho hg h.a2, cell_only ho hg h.a3, cell_only ho hg h.a4⟩
end Go.Proofs.YtnlmjlfoeodleaaDoor
