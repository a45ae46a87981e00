/- A response that goes on, by the program. -/
import Derived.Test.YtnlmjlfoeodleaaGreatDoorOQRsp1
import Derived.Test.YtnlmjlfoeodleaaGreatDoorOQRsp2
import Derived.Test.YtnlmjlfoeodleaaGreatDoorOQRspE1
import Derived.Test.YtnlmjlfoeodleaaGreatDoorOQRspE2
import Derived.Test.YtnlmjlfoeodleaaGreatDoorOQRspE3
import Derived.Test.YtnlmjlfoeodleaaGreatDoorOQRspE4
import Derived.Test.YtnlmjlfoeodleaaGreatDoorOQLaw
namespace Go.Proofs.YtnlmjlfoeodleaaGreatDoor
open Go.RowKit

theorem presp (st : Int) (r : B) (k : Int) (fs : List (B × B)) (p : Option Addr) (n c : Nat) (hn : fs.length = n) (K L mi : Int) (lst : Bool) (w : World) (hF : FAt w p fs) (hsz : szN fs) (hnn : n ≤ 1000) (hr : r.length ≤ 1048576) (hL0 : -9223372036854775808 ≤ L) (hL1 : L ≤ 9223372036854775807) (hE : EnvP w) (hmx : ∃ m : Int, w.cell? ⟨2, 0, none⟩ = some (.int .i64 m)) :
    Calls Tryz.prog 25 #[.agg #[.int .i64 st, .string (str r), .int .i64 k, .slice p n c], .agg #[.int .i64 K, .int .i64 L], .int .i64 mi, .bool lst] w fun e w' => PAns st r mi (onP st K L lst fs k) w e w' := by
  cases hB : bareS st with
  | true =>
    cases lst with
    | true => exact presp_bl st r k fs p n c hn K L mi w hF hsz hnn hr hL0 hL1 hE hmx hB
    | false => exact presp_b st r k fs p n c hn K L mi w hF hsz hnn hr hL0 hL1 hE hmx hB
  | false =>
    by_cases hK : K = 0
    · subst hK
      cases hO : ownF1 (stripF fs) with
      | some f =>
        cases lst with
        | true => exact presp_ol st r k fs p n c hn L mi w hF hsz hnn hr hL0 hL1 hE hmx hB f hO
        | false => exact presp_o st r k fs p n c hn L mi w hF hsz hnn hr hL0 hL1 hE hmx hB f hO
      | none =>
        cases lst with
        | true => exact presp_nl st r k fs p n c hn L mi w hF hsz hnn hr hL0 hL1 hE hmx hB hO
        | false => exact presp_n st r k fs p n c hn L mi w hF hsz hnn hr hL0 hL1 hE hmx hB hO
    · cases lst with
      | true => exact presp_dl st r k fs p n c hn K L mi w hF hsz hnn hr hL0 hL1 hE hmx hB hK
      | false => exact presp_d st r k fs p n c hn K L mi w hF hsz hnn hr hL0 hL1 hE hmx hB hK
end Go.Proofs.YtnlmjlfoeodleaaGreatDoor
/- A response that goes on, by the document. -/
namespace Go.Proofs.YtnlmjlfoeodleaaGreatDoor
open Go.RowKit

theorem dresp (st : Int) (r : B) (k : Int) (fs : List (B × B)) (p : Option Addr) (n c : Nat) (hn : fs.length = n) (K L mi : Int) (lst : Bool) (w : World) (hF : FAt w p fs) (hsz : szN fs) (hnn : n ≤ 1000) (hr : r.length ≤ 1048576) (hL0 : -9223372036854775808 ≤ L) (hL1 : L ≤ 9223372036854775807) :
    Calls Tryz.prog 26 #[.agg #[.int .i64 st, .string (str r), .int .i64 k, .slice p n c], .agg #[.int .i64 K, .int .i64 L], .int .i64 mi, .bool lst] w fun e w' => DPAns st r mi (onP st K L lst fs k) w e w' := by
  by_cases hf : st = 204
  · cases lst with
    | true => exact dresp_bfy st r k fs p n c hn K L mi w hF hsz hnn hr hL0 hL1 hf
    | false => exact dresp_bf st r k fs p n c hn K L mi w hF hsz hnn hr hL0 hL1 hf
  · by_cases h1 : 100 ≤ st
    · by_cases h2 : st ≤ 199
      · cases lst with
        | true => exact dresp_bry st r k fs p n c hn K L mi w hF hsz hnn hr hL0 hL1 h1 h2
        | false => exact dresp_br st r k fs p n c hn K L mi w hF hsz hnn hr hL0 hL1 h1 h2
      · by_cases hK : K = 0
        · subst hK
          cases hO : ownF1 (stripF fs) with
          | some f =>
            cases lst with
            | true => exact dresp_ohy st r k fs p n c hn L mi w hF hsz hnn hr hL0 hL1 h1 h2 hf f hO
            | false => exact dresp_oh st r k fs p n c hn L mi w hF hsz hnn hr hL0 hL1 h1 h2 hf f hO
          | none =>
            cases lst with
            | true => exact dresp_nhy st r k fs p n c hn L mi w hF hsz hnn hr hL0 hL1 h1 h2 hf hO
            | false => exact dresp_nh st r k fs p n c hn L mi w hF hsz hnn hr hL0 hL1 h1 h2 hf hO
        · cases lst with
          | true => exact dresp_dhy st r k fs p n c hn K L mi w hF hsz hnn hr hL0 hL1 h1 h2 hf hK
          | false => exact dresp_dh st r k fs p n c hn K L mi w hF hsz hnn hr hL0 hL1 h1 h2 hf hK
    · by_cases hK : K = 0
      · subst hK
        cases hO : ownF1 (stripF fs) with
        | some f =>
          cases lst with
          | true => exact dresp_oly st r k fs p n c hn L mi w hF hsz hnn hr hL0 hL1 h1 f hO
          | false => exact dresp_ol st r k fs p n c hn L mi w hF hsz hnn hr hL0 hL1 h1 f hO
        | none =>
          cases lst with
          | true => exact dresp_nly st r k fs p n c hn L mi w hF hsz hnn hr hL0 hL1 h1 hO
          | false => exact dresp_nl st r k fs p n c hn L mi w hF hsz hnn hr hL0 hL1 h1 hO
      · cases lst with
        | true => exact dresp_dly st r k fs p n c hn K L mi w hF hsz hnn hr hL0 hL1 h1 hK
        | false => exact dresp_dl st r k fs p n c hn K L mi w hF hsz hnn hr hL0 hL1 h1 hK
end Go.Proofs.YtnlmjlfoeodleaaGreatDoor
/- The law of responses that go on. -/
namespace Go.Proofs.YtnlmjlfoeodleaaGreatDoor
open Go.RowKit

/-- What the law carries along: what was handed in, and its copy with fields of its own. -/
structure LRs (w W : World) (A Y X : Array Value) (q : Option Addr) (n d : Nat) (fs : List (B × B)) : Prop where
  low : Below w.heap.size w W
  bx : W.heap[w.heap.size]? = some (.cells A 62 (0, 0))
  wb : W.heap[w.heap.size + 1]? = some (.cells Y 64 (0, 0))
  xb : W.heap[w.heap.size + 2]? = some (.cells X 62 (0, 0))
  own : OwnF W (w.heap.size + 3) (.slice q n d) fs
theorem LRs.next {w W W' : World} {A Y X : Array Value} {q : Option Addr} {n d : Nat} {fs : List (B × B)} (h : LRs w W A Y X q n d fs) (hb : Below W.heap.size W W') : LRs w W' A Y X q n d fs := ⟨below_out h.low hb, (hb.block _ (lt_of_heap h.bx)).trans h.bx, (hb.block _ (lt_of_heap h.wb)).trans h.wb, (hb.block _ (lt_of_heap h.xb)).trans h.xb, h.own.keep hb⟩
theorem three_new (w : World) (A Y X : Array Value) (T1 T2 T3 : TypeId) : Below w.heap.size w (((w.alloc (.cells A T1 (0, 0))).alloc (.cells Y T2 (0, 0))).alloc (.cells X T3 (0, 0))) ∧ (((w.alloc (.cells A T1 (0, 0))).alloc (.cells Y T2 (0, 0))).alloc (.cells X T3 (0, 0))).heap.size = w.heap.size + 3 ∧ (((w.alloc (.cells A T1 (0, 0))).alloc (.cells Y T2 (0, 0))).alloc (.cells X T3 (0, 0))).heap[w.heap.size]? = some (.cells A T1 (0, 0)) ∧ (((w.alloc (.cells A T1 (0, 0))).alloc (.cells Y T2 (0, 0))).alloc (.cells X T3 (0, 0))).heap[w.heap.size + 1]? = some (.cells Y T2 (0, 0)) ∧ (((w.alloc (.cells A T1 (0, 0))).alloc (.cells Y T2 (0, 0))).alloc (.cells X T3 (0, 0))).heap[w.heap.size + 2]? = some (.cells X T3 (0, 0)) := by
  have h1 := below_new w (.cells A T1 (0, 0))
  have h2 := below_new (w.alloc (.cells A T1 (0, 0))) (.cells Y T2 (0, 0))
  have h3 := below_new ((w.alloc (.cells A T1 (0, 0))).alloc (.cells Y T2 (0, 0))) (.cells X T3 (0, 0))
  have z1 : (w.alloc (.cells A T1 (0, 0))).heap.size = w.heap.size + 1 := by simp
  have z2 : ((w.alloc (.cells A T1 (0, 0))).alloc (.cells Y T2 (0, 0))).heap.size = w.heap.size + 2 := by simp
  have e2 := heap_alloc_new (w.alloc (.cells A T1 (0, 0))) (.cells Y T2 (0, 0))
  rw [z1] at e2
  have e3 := heap_alloc_new ((w.alloc (.cells A T1 (0, 0))).alloc (.cells Y T2 (0, 0))) (.cells X T3 (0, 0))
  rw [z2] at e3
  refine ⟨below_out (below_out h1 h2) h3, by simp, ?_, (h3.block _ (by omega)).trans e2, e3⟩
  rw [h3.block _ (by omega), h2.block _ (by omega)]
  exact heap_alloc_new w _
theorem LRs.start {w W0 w1 : World} {Y : Array Value} {x0 x1 x2 x3 : Value} {q : Option Addr} {n d : Nat} {fs : List (B × B)} (h0 : Below w.heap.size w W0) (hz : W0.heap.size = w.heap.size + 3) (ha : W0.heap[w.heap.size]? = some (.cells #[x0, x1, x2, x3] 62 (0, 0))) (hy : W0.heap[w.heap.size + 1]? = some (.cells Y 64 (0, 0))) (hx : W0.heap[w.heap.size + 2]? = some (.cells #[x0, x1, x2, x3] 62 (0, 0))) (hb : Below W0.heap.size W0 w1) (ho : OwnF w1 W0.heap.size (.slice q n d) fs) : w1.heap[w.heap.size + 2]? = some (.cells #[x0, x1, x2, x3] 62 (0, 0)) ∧ LRs w (w1.setCell ⟨w.heap.size + 2, 3, none⟩ (.slice q n d)) #[x0, x1, x2, x3] Y #[x0, x1, x2, .slice q n d] q n d fs := by
  have e2 := (hb.block _ (by omega)).trans hx
  refine ⟨e2, Below.setCell (below_out h0 hb) (by show w.heap.size ≤ w.heap.size + 2; omega) _, ?_, ?_, one3 e2 _, ?_⟩
  · rw [oth3 _ (by omega)]
    exact (hb.block _ (by omega)).trans ha
  · rw [oth3 _ (by omega)]
    exact (hb.block _ (by omega)).trans hy
  · rw [hz] at ho
    refine ⟨ho.1, ?_⟩
    rcases ho.2 with h' | ⟨g, cap, cur, a1, a2, a3, a4⟩
    · exact .inl h'
    · exact .inr ⟨g, cap, cur, a1, a2, by rw [oth3 _ (by omega)]; exact a3, a4⟩
set_option maxRecDepth 20000 in
set_option maxHeartbeats 4000000 in
theorem hresps_few (st : Int) (R : ByteArray) (k K L mi : Int) (lst : Bool) (p : Option Addr) (n c : Nat) (w : World) (hE : EnvP w) (hmx : ∃ m : Int, w.cell? ⟨2, 0, none⟩ = some (.int .i64 m)) (hnn : 500 < n) :
    Calls Tryz.prog 5 #[.agg #[.int .i64 st, .string R, .int .i64 k, .slice p n c], .agg #[.int .i64 K, .int .i64 L, .int .i64 mi, .bool lst]] w fun e w' => e = .returned (.bool true) ∧ Below w.heap.size w w' := by
  have hb0 := below_out (below_new w (.cells #[.int .i64 st, .string R, .int .i64 k, .slice p n c] 62 (0, 0))) (below_new (w.alloc (.cells #[.int .i64 st, .string R, .int .i64 k, .slice p n c] 62 (0, 0))) (.cells #[.int .i64 K, .int .i64 L, .int .i64 mi, .bool lst] 64 (0, 0)))
  have HB0 := hid hb0
  have HWk := hid (works14 _ (hE.next hb0) (hmx.elim fun m h => ⟨m, cell_keep hb0 h⟩))
  have h5 : (n : Int) > 500 := by omega
  obtain ⟨y0, y1, y2, y3, _⟩ := cells4O (((below_new (w.alloc (.cells #[.int .i64 st, .string R, .int .i64 k, .slice p n c] 62 (0, 0))) (.cells #[.int .i64 K, .int .i64 L, .int .i64 mi, .bool lst] 64 (0, 0))).block _ (by simp)).trans (heap_alloc_new w (.cells #[.int .i64 st, .string R, .int .i64 k, .slice p n c] 62 (0, 0))))
  clear hb0 hE hmx
  go_enter Tryz.func5, Tryz.ntmps5
  go_wp2_with (go_at_call 19; (with_reducible refine HWk.out.mono ?_); rintro e w1 ⟨rfl, hb⟩; have HB1 := hid (below_out HB0.out hb); clear hb HWk)
  go_ret
  exact ⟨rfl, HB1.out⟩
set_option maxRecDepth 20000 in
set_option maxHeartbeats 32000000 in
theorem hresps (st : Int) (r : B) (k K L mi : Int) (lst : Bool) (fs : List (B × B)) (p : Option Addr) (n c : Nat) (hn : fs.length = n) (w : World) (hF : FAt w p fs) (hsz : szN fs) (hr : r.length ≤ 1048576) (hL0 : -9223372036854775808 ≤ L) (hL1 : L ≤ 9223372036854775807) (hE : EnvP w) (hmx : ∃ m : Int, w.cell? ⟨2, 0, none⟩ = some (.int .i64 m)) (hnn : n ≤ 500) :
    Calls Tryz.prog 5 #[.agg #[.int .i64 st, .string (str r), .int .i64 k, .slice p n c], .agg #[.int .i64 K, .int .i64 L, .int .i64 mi, .bool lst]] w fun e w' => e = .returned (.bool true) ∧ Below w.heap.size w w' := by
  have HMx := hid (fun (W : World) (hb : Below w.heap.size w W) => show ∃ m : Int, W.cell? ⟨2, 0, none⟩ = some (.int .i64 m) from hmx.elim fun m h => ⟨m, cell_keep hb h⟩)
  have HTw := hid (show ∀ W : World, Below w.heap.size w W → _ from fun W hb => twin14 fs p n c hn W (hF.next hb) (by omega))
  have HRq1 := hid (fun (W : World) (q : Option Addr) (d : Nat) (hb : Below w.heap.size w W) (h : FAt W q fs) => presp st r k fs q n d hn K L mi lst W h hsz (by omega) hr hL0 hL1 (hE.next hb) (HMx.out W hb))
  have HRd1 := hid (fun (W : World) (hb : Below w.heap.size w W) => dresp st r k fs p n c hn K L mi lst W (hF.next hb) hsz (by omega) hr hL0 hL1)
  have HSm := hid (fun (W : World) (X : List (B × B)) (p p' : Option Addr) (s c c' : Nat) (hs : X.length = s) (h : FAt W p X) (h' : FAt W p' X) (hz : s ≤ 1000) => fields14 X p p' s c c' hs W h h' (Nat.le_trans hz (by decide)))
  have HWk := hid (fun (W : World) (hb : Below w.heap.size w W) => works14 W (hE.next hb) (HMx.out W hb))
  have HF0 := hid hF
  have HNn := hid hn
  have hlF : (onP st K L lst fs k).length ≤ 1000 := Nat.le_trans (onP_len st K L lst fs k) (by omega)
  unfold PAns at HRq1
  unfold DPAns at HRd1
  obtain ⟨F, hFF⟩ : ∃ F, onP st K L lst fs k = F := ⟨_, rfl⟩
  rw [hFF] at HRq1 HRd1 hlF
  obtain ⟨s, hs⟩ : ∃ s, F.length = s := ⟨_, rfl⟩
  have HLs := hid hs
  rw [hs] at HRq1 HRd1 hlF
  obtain ⟨E, hEE⟩ : ∃ E, greatE s (respE st r mi F) = E := ⟨_, rfl⟩
  rw [hEE] at HRq1 HRd1
  obtain ⟨R, hR⟩ : ∃ R, str r = R := ⟨_, rfl⟩
  rw [hR] at HRq1 HRd1
  rw [hR]
  obtain ⟨q0, q1, q2, q3, q4⟩ := three_new w #[.int .i64 st, .string R, .int .i64 k, .slice p n c] #[.int .i64 K, .int .i64 L, .int .i64 mi, .bool lst] #[.int .i64 st, .string R, .int .i64 k, .slice p n c] 62 64 62
  have HQ0 := hid q0
  have HSta := hid (fun (w1 : World) (q : Option Addr) (d : Nat) (hb : Below (((w.alloc (.cells #[.int .i64 st, .string R, .int .i64 k, .slice p n c] 62 (0, 0))).alloc (.cells #[.int .i64 K, .int .i64 L, .int .i64 mi, .bool lst] 64 (0, 0))).alloc (.cells #[.int .i64 st, .string R, .int .i64 k, .slice p n c] 62 (0, 0))).heap.size (((w.alloc (.cells #[.int .i64 st, .string R, .int .i64 k, .slice p n c] 62 (0, 0))).alloc (.cells #[.int .i64 K, .int .i64 L, .int .i64 mi, .bool lst] 64 (0, 0))).alloc (.cells #[.int .i64 st, .string R, .int .i64 k, .slice p n c] 62 (0, 0))) w1) (ho : OwnF w1 (((w.alloc (.cells #[.int .i64 st, .string R, .int .i64 k, .slice p n c] 62 (0, 0))).alloc (.cells #[.int .i64 K, .int .i64 L, .int .i64 mi, .bool lst] 64 (0, 0))).alloc (.cells #[.int .i64 st, .string R, .int .i64 k, .slice p n c] 62 (0, 0))).heap.size (.slice q n d) fs) => LRs.start q0 q1 q2 q3 q4 hb ho)
  have HY0 := hid (cells4O (((below_new (w.alloc (.cells #[.int .i64 st, .string R, .int .i64 k, .slice p n c] 62 (0, 0))) (.cells #[.int .i64 K, .int .i64 L, .int .i64 mi, .bool lst] 64 (0, 0))).block _ (by simp)).trans (heap_alloc_new w (.cells #[.int .i64 st, .string R, .int .i64 k, .slice p n c] 62 (0, 0)))))
  have HY1 := hid (cells4O q2)
  have h5 : ¬ (n : Int) > 500 := by omega
  clear hF hsz hn hmx hE hr hL0 hL1 hFF hs hEE hR HMx q0 q1 q2 q3 q4
  by_cases hE0 : E = 0
  · subst hE0
    have HRq := hid (fun (W : World) (q : Option Addr) (d : Nat) (hb : Below w.heap.size w W) (h : FAt W q fs) => (HRq1.out W q d hb h).mono (R' := fun e w' => ∃ g, e = .returned (.tuple #[.agg #[.int .i64 st, .string R, .int .i64 mi, .slice (some ⟨g, 0, none⟩) s s], .nilIface]) ∧ FAt w' (some ⟨g, 0, none⟩) F ∧ Below W.heap.size W w') (by
      rintro e w' (⟨h1, _⟩ | ⟨_, g, h2, _, h3, h4⟩)
      · exact absurd rfl h1
      · exact ⟨g, h2, h3.fat, h4⟩))
    have HRd := hid (fun (W : World) (hb : Below w.heap.size w W) => (HRd1.out W hb).mono (R' := fun e w' => ∃ q d, e = .returned (.tuple #[.agg #[.int .i64 st, .string R, .int .i64 mi, .slice q s d], .int .i64 0]) ∧ FAt w' q F ∧ Below W.heap.size W w') (by
      rintro e w' (⟨h1, _⟩ | ⟨_, q, d, h2, h3, h4⟩)
      · exact absurd rfl h1
      · exact ⟨q, d, h2, h3, h4⟩))
    have HNu := hid (show ∀ W : World, Calls Tryz.prog 24 #[.nilIface] W fun e w' => e = .returned (.int .i64 0) ∧ w' = W from fun W => lnum 0 W)
    clear HRq1 HRd1
    go_enter Tryz.func5, Tryz.ntmps5
    obtain ⟨y0, y1, y2, y3, _⟩ := HY0.out
    obtain ⟨v0, v1, v2, v3, _⟩ := HY1.out
    go_wp2_with (first | (go_at_call 20; (with_reducible refine (HTw.out _ HQ0.out).mono ?_); rintro e w1 ⟨qx, dx, rfl, ho, hb⟩; obtain ⟨he, hq⟩ := HSta.out w1 qx dx hb ho; have HQ1 := hid hq; obtain ⟨z0, z1, z2, z3, zz⟩ := cells4O he; have zz3 := zz 3; obtain ⟨c0, c1, c2, c3, _⟩ := cells4O HQ1.out.xb; obtain ⟨b0, b1, b2, b3, _⟩ := cells4O HQ1.out.wb; clear hb ho HTw he hq zz y0 y1 y2 y3 v0 v1 v2 v3 HSta) | (go_at_call 25; (with_reducible refine (HRq.out _ _ _ HQ1.out.low HQ1.out.own.fat).mono ?_); rintro e w2 ⟨g, rfl, hf, hb⟩; have HQ2 := hid ((HQ1.out.next hb).next (below_new w2 (.cells #[.int .i64 st, .string R, .int .i64 mi, .slice (some ⟨g, 0, none⟩) s s] 62 (0, 0)))); have HA2 := hid (hf.next (below_new w2 (.cells #[.int .i64 st, .string R, .int .i64 mi, .slice (some ⟨g, 0, none⟩) s s] 62 (0, 0)))); have HX2 := hid (heap_alloc_new w2 (.cells #[.int .i64 st, .string R, .int .i64 mi, .slice (some ⟨g, 0, none⟩) s s] 62 (0, 0))); clear hb hf HRq z0 z1 z2 z3 zz3 c0 c1 c2 c3 b0 b1 b2 b3; obtain ⟨x0, x1, x2, x3, _⟩ := cells4O HQ2.out.bx; obtain ⟨b0, b1, b2, b3, _⟩ := cells4O HQ2.out.wb) | (go_at_call 26; (with_reducible refine (HRd.out _ HQ2.out.low).mono ?_); rintro e w3 ⟨qb, db, rfl, hf, hb⟩; have hn3 := below_new w3 (.cells #[.int .i64 st, .string R, .int .i64 mi, .slice qb s db] 62 (0, 0)); have HQ3 := hid ((HQ2.out.next hb).next hn3); have HA3 := hid ((HA2.out.next hb).next hn3); have HB3 := hid (hf.next hn3); have hx3 := (hn3.block _ (lt_of_heap ((hb.block _ (lt_of_heap HX2.out)).trans HX2.out))).trans ((hb.block _ (lt_of_heap HX2.out)).trans HX2.out); have HX3 := hid hx3; have HY3 := hid (heap_alloc_new w3 (.cells #[.int .i64 st, .string R, .int .i64 mi, .slice qb s db] 62 (0, 0))); obtain ⟨a0, a1, a2, a3, _⟩ := cells4O hx3; obtain ⟨e0, e1, e2, e3, _⟩ := cells4O HY3.out; obtain ⟨f0, f1, f2, f3, _⟩ := cells4O HQ3.out.bx; obtain ⟨g0, g1, g2, g3, _⟩ := cells4O HQ3.out.xb; clear hb hf HRd hx3 hn3 x0 x1 x2 x3 b0 b1 b2 b3 HQ2 HA2) | (go_at_call 23; (with_reducible refine (HSm.out _ F _ _ _ _ _ HLs.out HA3.out HB3.out hlF).mono ?_); rintro e w4 ⟨rfl, hb⟩; have HQ4 := hid (HQ3.out.next hb); obtain ⟨f0, f1, f2, f3, _⟩ := cells4O HQ4.out.bx; obtain ⟨g0, g1, g2, g3, _⟩ := cells4O HQ4.out.xb; clear hb HQ3 HA3 HB3) | (go_at_call 24; (with_reducible refine (HNu.out _).mono ?_); rintro e w5 ⟨rfl, hw5⟩; subst w5; clear HNu) | (go_at_call 23; (with_reducible refine (HSm.out _ fs _ _ _ _ _ HNn.out HQ4.out.own.fat (HF0.out.next HQ4.out.low) (by omega)).mono ?_); rintro e w6 ⟨rfl, hb⟩; have HB6 := hid (below_out HQ4.out.low hb); clear hb HSm HQ4) | (go_at_call 19; (with_reducible refine (HWk.out _ HB6.out).mono ?_); rintro e w7 ⟨rfl, hb⟩; have HB7 := hid (below_out HB6.out hb); clear hb HWk))
    go_ret
    exact ⟨rfl, HB7.out⟩
  · have HRq := hid (fun (W : World) (q : Option Addr) (d : Nat) (hb : Below w.heap.size w W) (h : FAt W q fs) => (HRq1.out W q d hb h).mono (R' := fun e w' => e = .returned (.tuple #[.agg #[.int .i64 0, .string ⟨#[]⟩, .int .i64 0, .slice none 0 0], .iface 72 (.int .i64 (E : Int))]) ∧ Below W.heap.size W w') (by
      rintro e w' (⟨_, h2⟩ | ⟨h1, _⟩)
      · exact h2
      · exact absurd h1 hE0))
    have HRd := hid (fun (W : World) (hb : Below w.heap.size w W) => (HRd1.out W hb).mono (R' := fun e w' => e = .returned (.tuple #[.agg #[.int .i64 0, .string ⟨#[]⟩, .int .i64 0, .slice none 0 0], .int .i64 (E : Int)]) ∧ Below W.heap.size W w') (by
      rintro e w' (⟨_, h2⟩ | ⟨h1, _⟩)
      · exact h2
      · exact absurd h1 hE0))
    have HNu := hid (show ∀ W : World, Calls Tryz.prog 24 #[.iface 72 (.int .i64 (E : Int))] W fun e w' => e = .returned (.int .i64 (E : Int)) ∧ w' = W from fun W => by
      have h := lnum E W
      rw [errOf_pos hE0] at h
      exact h)
    have HF00 := hid (fun W : World => show FAt W none [] from fun j f h => by simp at h)
    clear HRq1 HRd1 hE0
    go_enter Tryz.func5, Tryz.ntmps5
    obtain ⟨y0, y1, y2, y3, _⟩ := HY0.out
    obtain ⟨v0, v1, v2, v3, _⟩ := HY1.out
    go_wp2_with (first | (go_at_call 20; (with_reducible refine (HTw.out _ HQ0.out).mono ?_); rintro e w1 ⟨qx, dx, rfl, ho, hb⟩; obtain ⟨he, hq⟩ := HSta.out w1 qx dx hb ho; have HQ1 := hid hq; obtain ⟨z0, z1, z2, z3, zz⟩ := cells4O he; have zz3 := zz 3; obtain ⟨c0, c1, c2, c3, _⟩ := cells4O HQ1.out.xb; obtain ⟨b0, b1, b2, b3, _⟩ := cells4O HQ1.out.wb; clear hb ho HTw he hq zz y0 y1 y2 y3 v0 v1 v2 v3 HSta) | (go_at_call 25; (with_reducible refine (HRq.out _ _ _ HQ1.out.low HQ1.out.own.fat).mono ?_); rintro e w2 ⟨rfl, hb⟩; have HQ2 := hid ((HQ1.out.next hb).next (below_new w2 (.cells #[.int .i64 0, .string ⟨#[]⟩, .int .i64 0, .slice none 0 0] 62 (0, 0)))); have HX2 := hid (heap_alloc_new w2 (.cells #[.int .i64 0, .string ⟨#[]⟩, .int .i64 0, .slice none 0 0] 62 (0, 0))); clear hb HRq z0 z1 z2 z3 zz3 c0 c1 c2 c3 b0 b1 b2 b3; obtain ⟨x0, x1, x2, x3, _⟩ := cells4O HQ2.out.bx; obtain ⟨b0, b1, b2, b3, _⟩ := cells4O HQ2.out.wb) | (go_at_call 26; (with_reducible refine (HRd.out _ HQ2.out.low).mono ?_); rintro e w3 ⟨rfl, hb⟩; have hn3 := below_new w3 (.cells #[.int .i64 0, .string ⟨#[]⟩, .int .i64 0, .slice none 0 0] 62 (0, 0)); have HQ3 := hid ((HQ2.out.next hb).next hn3); have hx3 := (hn3.block _ (lt_of_heap ((hb.block _ (lt_of_heap HX2.out)).trans HX2.out))).trans ((hb.block _ (lt_of_heap HX2.out)).trans HX2.out); have HX3 := hid hx3; have HY3 := hid (heap_alloc_new w3 (.cells #[.int .i64 0, .string ⟨#[]⟩, .int .i64 0, .slice none 0 0] 62 (0, 0))); obtain ⟨a0, a1, a2, a3, _⟩ := cells4O hx3; obtain ⟨e0, e1, e2, e3, _⟩ := cells4O HY3.out; obtain ⟨f0, f1, f2, f3, _⟩ := cells4O HQ3.out.bx; obtain ⟨g0, g1, g2, g3, _⟩ := cells4O HQ3.out.xb; clear hb HRd hx3 hn3 x0 x1 x2 x3 b0 b1 b2 b3 HQ2) | (go_at_call 23; (with_reducible refine (HSm.out _ [] none none 0 0 0 rfl (HF00.out _) (HF00.out _) (Nat.zero_le _)).mono ?_); rintro e w4 ⟨rfl, hb⟩; have HQ4 := hid (HQ3.out.next hb); obtain ⟨f0, f1, f2, f3, _⟩ := cells4O HQ4.out.bx; obtain ⟨g0, g1, g2, g3, _⟩ := cells4O HQ4.out.xb; clear hb HQ3) | (go_at_call 24; (with_reducible refine (HNu.out _).mono ?_); rintro e w5 ⟨rfl, hw5⟩; subst w5; clear HNu) | (go_at_call 23; (with_reducible refine (HSm.out _ fs _ _ _ _ _ HNn.out HQ4.out.own.fat (HF0.out.next HQ4.out.low) (by omega)).mono ?_); rintro e w6 ⟨rfl, hb⟩; have HB6 := hid (below_out HQ4.out.low hb); clear hb HSm HQ4) | (go_at_call 19; (with_reducible refine (HWk.out _ HB6.out).mono ?_); rintro e w7 ⟨rfl, hb⟩; have HB7 := hid (below_out HB6.out hb); clear hb HWk))
    go_ret
    exact ⟨rfl, HB7.out⟩
end Go.Proofs.YtnlmjlfoeodleaaGreatDoor
