/- The law of what is written and read. -/
import Derived.Test.YtpcfcpeokkbfmaaDoorHAnsw
import Derived.Test.YtpcfcpeokkbfmaaDoorPSure
import Derived.Test.YtpcfcpeokkbfmaaDoorLFns
namespace Go.Proofs.YtpcfcpeokkbfmaaDoor
open Go.RowKit

def mayQ (m t : B) (k : Int) (fs : List (B × B)) : Bool := okQ m t k fs && decide ((headW (firstQ m t (verC k)) fs).length ≤ 65536)
def mayP (n : Nat) (r : B) (k : Int) (fs : List (B × B)) : Bool := okP (n : Int) r k fs && decide ((headW (firstP (verC k) (told 10 n) r) fs).length ≤ 65536)
theorem verC_num {k : Int} (h : k = 0 ∨ k = 1) : byteNum (verC k) = k := by rcases h with rfl | rfl <;> rfl
/-- What was written is read, as a call. -/
theorem parseQ_back (m t : B) (k : Int) (fs : List (B × B)) (q : Option Addr) (d : Nat) (w : World) (hA : ArgAt w q (headW (firstQ m t (verC k)) fs)) (hmay : mayQ m t k fs = true) : Calls Tryd.prog 28 #[.slice q (headW (firstQ m t (verC k)) fs).length d, .int .i64 65536] w fun e w' => ∃ p c, e = .returned (.tuple #[.agg #[.string (str m), .string (str t), .int .i64 k, .slice p fs.length c], .int .i64 ((headW (firstQ m t (verC k)) fs).length : Int), .nilIface]) ∧ FAt w' p fs ∧ Below w.heap.size w w' := by
  unfold mayQ at hmay
  rw [Bool.and_eq_true] at hmay
  have hl : (headW (firstQ m t (verC k)) fs).length ≤ 65536 := of_decide_eq_true hmay.2
  obtain ⟨s, e1, e2, e3, e4, e5, e6, e7, e8, e9⟩ := read_request (most := 65536) hmay.1 (by omega)
  refine (parse_req_ok (headW (firstQ m t (verC k)) fs) q _ d 65536 w rfl hA (by omega) (by omega) (by rw [e1]; unfold allE; rw [e3, e2]; rfl)).mono ?_
  rintro e w' ⟨v, rfl, ho, hb⟩
  rw [e1] at ho ⊢
  obtain ⟨p, n, c, rfl⟩ := own_slice3 ho
  have hn := sliceF_len ho
  rw [e9] at hn ho
  refine ⟨p, c, ?_, ho.fat, hb⟩
  unfold reqC
  rw [e5, e6, e7, e8, verC_num (okQ_parts hmay.1).2.2.2.1, hn]
  rfl
theorem parseP_back (n : Nat) (r : B) (k : Int) (fs : List (B × B)) (q : Option Addr) (d : Nat) (w : World) (hA : ArgAt w q (headW (firstP (verC k) (told 10 n) r) fs)) (hmay : mayP n r k fs = true) : Calls Tryd.prog 29 #[.slice q (headW (firstP (verC k) (told 10 n) r) fs).length d, .int .i64 65536] w fun e w' => ∃ p c, e = .returned (.tuple #[.agg #[.int .i64 (n : Int), .string (str r), .int .i64 k, .slice p fs.length c], .int .i64 ((headW (firstP (verC k) (told 10 n) r) fs).length : Int), .nilIface]) ∧ FAt w' p fs ∧ Below w.heap.size w w' := by
  unfold mayP at hmay
  rw [Bool.and_eq_true] at hmay
  have hl : (headW (firstP (verC k) (told 10 n) r) fs).length ≤ 65536 := of_decide_eq_true hmay.2
  obtain ⟨s, e1, e2, e3, e5, e6, e7, e8, e9⟩ := read_response (most := 65536) hmay.1 (by omega)
  refine (parse_resp_ok (headW (firstP (verC k) (told 10 n) r) fs) q _ d 65536 w rfl hA (by omega) (by omega) (by rw [e1]; unfold allE; rw [e3, e2]; rfl)).mono ?_
  rintro e w' ⟨v, rfl, ho, hb⟩
  rw [e1] at ho ⊢
  obtain ⟨p, n2, c, rfl⟩ := own_slice3 ho
  have hn := sliceF_len ho
  rw [e9] at hn ho
  refine ⟨p, c, ?_, ho.fat, hb⟩
  unfold respC
  rw [e5, e6, e7, e8, verC_num (okP_parts hmay.1).2.2.1, hn]
  rfl
/-- Two blocks of one's own, and what lies below. -/
structure Two2 (w W : World) (A C : Array Value) : Prop where
  low : Below w.heap.size w W
  a : W.heap[w.heap.size]? = some (.cells A 24 (0, 0))
  c : W.heap[w.heap.size + 1]? = some (.cells C 26 (0, 0))
theorem Two2.next {w W W' : World} {A C : Array Value} (h : Two2 w W A C) (hb : Below W.heap.size W W') : Two2 w W' A C := ⟨h.low.trans (hb.mono h.low.size), (hb.block _ (lt_of_heap h.a)).trans h.a, (hb.block _ (lt_of_heap h.c)).trans h.c⟩
end Go.Proofs.YtpcfcpeokkbfmaaDoor
