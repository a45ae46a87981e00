/- Len and Clone of package sha over a message, a sum stored whole, and small lemmas beside. -/
import Derived.Test.YtojcaoieodogdaaDoorAppend
import Derived.Test.YtojcaoieodogdaaDoorOrder
namespace Go.Proofs.YtojcaoieodogdaaDoor
open Go.RowKit

theorem hclone_any {w : World} {h : Nat} {m : List Int} (H : HoldsH w h m) : Calls Tryd.prog 49 #[.pointer (some ⟨h, 0, none⟩)] w fun e w' => ∃ g, e = .returned (.pointer (some ⟨g, 0, none⟩)) ∧ w.heap.size ≤ g ∧ HoldsH w' g m ∧ Below w.heap.size w w' := by
  obtain ⟨st, rest, h1, h2⟩ := H
  refine (clone_any h1).mono ?_
  rintro e w' ⟨g, rfl, h3, h4, h5⟩
  exact ⟨g, rfl, h3, ⟨st, rest, h4, h2⟩, h5⟩
theorem hlen_any {w : World} {h : Nat} {m : List Int} (H : HoldsH w h m) (n : Nat) (hn : m.length = n) : Calls Tryd.prog 14 #[.pointer (some ⟨h, 0, none⟩)] w fun e w' => e = .returned (.int .i64 n) ∧ w' = w := by
  obtain ⟨st, rest, h1, h2⟩ := H
  subst hn
  exact len_any h1
theorem st1_store {w W W' : World} {h : Nat} {m : List Int} {S : List Int} {z : Array Value} {L : List (Value × List Int)} (H : St1 w W h m L) (hst : Stored W.heap.size (bsv S) 24 (W.alloc (.cells z 24)) W') : St1 w W' h m L ∧ RowAt W' W.heap.size (bsv S) 24 ∧ W.heap.size ≠ h := by
  have hb : Below W.heap.size W W' := hst.below (below_new W _) (Nat.le_refl _)
  exact ⟨H.next hb, hst.row, Nat.ne_of_gt H.hash.lt⟩
theorem load24 {w : World} {f : Nat} {l : List Int} (h : RowAt w f (bsv l) 24) (hl : l.length = 32) : (Instr.loadAt 24 (.pointer (some ⟨f, 0, none⟩))).run Tryd.prog w = .ok (.agg (bsv l)) w := by
  refine load_part 24 32 5 (l.map (Value.int .u8)) und24 (by rw [size24, List.length_map, hl]) (fun j v hj => ?_)
  rw [Nat.zero_add, h.cell j]
  simpa [bsv] using hj
theorem mine_nil (w : World) : Mine w w none 0 [] := ⟨Below.refl _ _, Nat.le_refl _, Nat.zero_le _, fun _ => ⟨rfl, rfl⟩, fun a ha => by simp at ha⟩
theorem ArgAt.len {w : World} {qo : Option Addr} {N k : Nat} {A B : List Int} (h : ArgAt w (.slice qo ([] ++ A).length k) B) (hN : A.length = N) : ArgAt w (.slice qo N k) B := by
  rw [List.nil_append, hN] at h
  exact h
theorem st1_new {w w1 : World} {h : Nat} (hK : KAt w) (hh : w.heap.size ≤ h) (H : HashAt w1 h first8 (List.replicate 64 0) 0) (hb : Below w.heap.size w w1) {L : List (Value × List Int)} (hL : ∀ q ∈ L, ArgAt w q.1 q.2) : St1 w w1 h [] L :=
  ⟨hb, hK.below hb, hh, ⟨_, _, H, hashed_none⟩, fun q hq => ⟨(hL q hq).below hb, (hL q hq).off hh⟩⟩
end Go.Proofs.YtojcaoieodogdaaDoor
