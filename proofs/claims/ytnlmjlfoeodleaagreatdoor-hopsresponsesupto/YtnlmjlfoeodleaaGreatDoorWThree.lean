/- The document's three digits. -/
import Derived.Test.YtnlmjlfoeodleaaGreatDoorWWorks
namespace Go.Proofs.YtnlmjlfoeodleaaGreatDoor
open Go.RowKit

theorem told_abc : ∀ n : Fin 900, told 10 (n.1 + 100) = [UInt8.ofNat (48 + (n.1 + 100) / 100), UInt8.ofNat (48 + (n.1 + 100) / 10 % 10), UInt8.ofNat (48 + (n.1 + 100) % 10)] := by decide +kernel
theorem told_digits {n : Nat} (h1 : 100 ≤ n) (h2 : n ≤ 999) : told 10 n = [UInt8.ofNat (48 + n / 100), UInt8.ofNat (48 + n / 10 % 10), UInt8.ofNat (48 + n % 10)] := by
  have := told_abc ⟨n - 100, by omega⟩
  rwa [show n - 100 + 100 = n from by omega] at this
theorem dig_ext : ∀ a : Nat, a < 10 → (⟨#[48, 49, 50, 51, 52, 53, 54, 55, 56, 57]⟩ : ByteArray).extract a (a + 1) = str [UInt8.ofNat (48 + a)] := by
  intro a h
  have : a = 0 ∨ a = 1 ∨ a = 2 ∨ a = 3 ∨ a = 4 ∨ a = 5 ∨ a = 6 ∨ a = 7 ∨ a = 8 ∨ a = 9 := by omega
  rcases this with rfl | rfl | rfl | rfl | rfl | rfl | rfl | rfl | rfl | rfl <;> rfl
theorem wrap_id {x : Int} (h0 : -9223372036854775808 ≤ x) (h1 : x ≤ 9223372036854775807) : IntKind.i64.wrap x = x := by rw [IntKind.wrap_i64]; omega
set_option maxRecDepth 20000 in
set_option maxHeartbeats 8000000 in
theorem three_any (n : Nat) (h1 : 100 ≤ n) (h2 : n ≤ 999) (w : World) : Calls Tryz.prog 104 #[.int .i64 (n : Int)] w fun e w' => e = .returned (.string (str (told 10 n))) ∧ Below w.heap.size w w' := by
  obtain ⟨a, ha⟩ : ∃ a, n / 100 = a := ⟨_, rfl⟩
  obtain ⟨q, hq⟩ : ∃ q, n / 10 = q := ⟨_, rfl⟩
  obtain ⟨b, hb⟩ : ∃ b, q % 10 = b := ⟨_, rfl⟩
  obtain ⟨c, hc⟩ : ∃ c, n % 10 = c := ⟨_, rfl⟩
  have HV := hid (show told 10 n = [UInt8.ofNat (48 + a), UInt8.ofNat (48 + b), UInt8.ofNat (48 + c)] from by rw [told_digits h1 h2, ha, hq, hb, hc])
  have ha9 : a < 10 := by omega
  have hb9 : b < 10 := by omega
  have hc9 : c < 10 := by omega
  have HA := hid (show Value.int .i64 (IntKind.i64.wrap ((n : Int) / 100)) = .int .i64 (a : Int) from by rw [wrap_id (by omega) (by omega)]; congr 1; omega)
  have HQ := hid (show Value.int .i64 (IntKind.i64.wrap ((n : Int) / 10)) = .int .i64 (q : Int) from by rw [wrap_id (by omega) (by omega)]; congr 1; omega)
  have HB := hid (show Value.int .i64 ((q : Int).tmod 10) = .int .i64 (b : Int) from by rw [Int.tmod_eq_emod_of_nonneg (by omega)]; congr 1; omega)
  have HC := hid (show Value.int .i64 ((n : Int).tmod 10) = .int .i64 (c : Int) from by rw [Int.tmod_eq_emod_of_nonneg (by omega)]; congr 1; omega)
  have HEa := hid (dig_ext a ha9)
  have HEb := hid (dig_ext b hb9)
  have HEc := hid (dig_ext c hc9)
  have hwa : IntKind.i64.wrap ((a : Int) + 1) = ((a + 1 : Nat) : Int) := by rw [wrap_id (by omega) (by omega)]; omega
  have hwb : IntKind.i64.wrap ((b : Int) + 1) = ((b + 1 : Nat) : Int) := by rw [wrap_id (by omega) (by omega)]; omega
  have hwc : IntKind.i64.wrap ((c : Int) + 1) = ((c + 1 : Nat) : Int) := by rw [wrap_id (by omega) (by omega)]; omega
  have HCat := hid (show (str [UInt8.ofNat (48 + a)] ++ str [UInt8.ofNat (48 + b)]) ++ str [UInt8.ofNat (48 + c)] = str (told 10 n) from by rw [str_app, str_app, HV.out]; rfl)
  obtain ⟨Xa, hXa⟩ : ∃ X, str [UInt8.ofNat (48 + a)] = X := ⟨_, rfl⟩
  obtain ⟨Xb, hXb⟩ : ∃ X, str [UInt8.ofNat (48 + b)] = X := ⟨_, rfl⟩
  obtain ⟨Xc, hXc⟩ : ∃ X, str [UInt8.ofNat (48 + c)] = X := ⟨_, rfl⟩
  have hsa : Xa.size = 1 := by rw [← hXa]; rfl
  have hsb : Xb.size = 1 := by rw [← hXb]; rfl
  have hsc : Xc.size = 1 := by rw [← hXc]; rfl
  have hcat1 : (Xa ++ Xb).size = 2 := by rw [ByteArray.size_append, hsa, hsb]
  rw [hXa, hXb, hXc] at HCat
  rw [hXa] at HEa
  rw [hXb] at HEb
  rw [hXc] at HEc
  rw [← HCat.out]
  clear ha hq hb hc h1 h2 hXa hXb hXc HV
  go_enter Tryz.func104, Tryz.ntmps104
  go_wp2
  refine wp_region_noPanic ?_
  refine any_begin 23 (by kernel_rfl) (by kernel_rfl) ?_
  refine any_take (i := 0) (some 3) rfl rfl (by kernel_rfl) (by kernel_rfl) (by kernel_rfl) (fun _ _ _ h => h) (by rfl) (v := ?v0a) ?hy0a ?rest0a
  case hy0a => intro w0; go_simp; try with_reducible rfl
  simp only [Act.put, List.setIfInBounds_toArray, List.set_cons_zero, List.set_cons_succ]
  refine any_take (i := 1) (some 4) rfl rfl (by kernel_rfl) (by kernel_rfl) (by kernel_rfl) (fun _ _ _ h => h) (by rfl) (v := ?v1a) ?hy1a ?rest1a
  case hy1a => intro w0; go_simp; exact HA.out
  simp only [Act.put, List.setIfInBounds_toArray, List.set_cons_zero, List.set_cons_succ]
  refine any_take (i := 2) (some 5) rfl rfl (by kernel_rfl) (by kernel_rfl) (by kernel_rfl) (fun _ _ _ h => h) (by rfl) (v := ?v2a) ?hy2a ?rest2a
  case hy2a => intro w0; go_simp; try with_reducible rfl
  simp only [Act.put, List.setIfInBounds_toArray, List.set_cons_zero, List.set_cons_succ]
  refine any_take (i := 3) (some 6) rfl rfl (by kernel_rfl) (by kernel_rfl) (by kernel_rfl) (fun _ _ _ h => h) (by rfl) (v := ?v3a) ?hy3a ?rest3a
  case hy3a => intro w0; go_simp; exact HA.out
  simp only [Act.put, List.setIfInBounds_toArray, List.set_cons_zero, List.set_cons_succ]
  refine any_take (i := 4) (some 7) rfl rfl (by kernel_rfl) (by kernel_rfl) (by kernel_rfl) (fun _ _ _ h => h) (by rfl) (v := ?v4a) ?hy4a ?rest4a
  case hy4a => intro w0; go_simp; try with_reducible rfl
  simp only [Act.put, List.setIfInBounds_toArray, List.set_cons_zero, List.set_cons_succ]
  refine any_take (i := 5) (some 8) rfl rfl (by kernel_rfl) (by kernel_rfl) (by kernel_rfl) (fun _ _ _ h => h) (by rfl) (v := .string Xa) ?hy5a ?rest5a
  case hy5a => intro w0; go_simp; (try rw [if_pos (by omega)]); (try rw [if_pos (by omega)]); (try simp only [Int.toNat_natCast]); (try rw [HEa.out])
  simp only [Act.put, List.setIfInBounds_toArray, List.set_cons_zero, List.set_cons_succ]
  refine any_take (i := 6) (some 9) rfl rfl (by kernel_rfl) (by kernel_rfl) (by kernel_rfl) (fun _ _ _ h => h) (by rfl) (v := ?v6a) ?hy6a ?rest6a
  case hy6a => intro w0; go_simp; try with_reducible rfl
  simp only [Act.put, List.setIfInBounds_toArray, List.set_cons_zero, List.set_cons_succ]
  refine any_take (i := 7) (some 10) rfl rfl (by kernel_rfl) (by kernel_rfl) (by kernel_rfl) (fun _ _ _ h => h) (by rfl) (v := ?v7a) ?hy7a ?rest7a
  case hy7a => intro w0; go_simp; exact HQ.out
  simp only [Act.put, List.setIfInBounds_toArray, List.set_cons_zero, List.set_cons_succ]
  refine any_take (i := 8) (some 11) rfl rfl (by kernel_rfl) (by kernel_rfl) (by kernel_rfl) (fun _ _ _ h => h) (by rfl) (v := ?v8a) ?hy8a ?rest8a
  case hy8a => intro w0; go_simp; exact HB.out
  simp only [Act.put, List.setIfInBounds_toArray, List.set_cons_zero, List.set_cons_succ]
  refine any_take (i := 9) (some 12) rfl rfl (by kernel_rfl) (by kernel_rfl) (by kernel_rfl) (fun _ _ _ h => h) (by rfl) (v := ?v9a) ?hy9a ?rest9a
  case hy9a => intro w0; go_simp; try with_reducible rfl
  simp only [Act.put, List.setIfInBounds_toArray, List.set_cons_zero, List.set_cons_succ]
  refine any_take (i := 10) (some 13) rfl rfl (by kernel_rfl) (by kernel_rfl) (by kernel_rfl) (fun _ _ _ h => h) (by rfl) (v := ?v10a) ?hy10a ?rest10a
  case hy10a => intro w0; go_simp; exact HQ.out
  simp only [Act.put, List.setIfInBounds_toArray, List.set_cons_zero, List.set_cons_succ]
  refine any_take (i := 11) (some 14) rfl rfl (by kernel_rfl) (by kernel_rfl) (by kernel_rfl) (fun _ _ _ h => h) (by rfl) (v := ?v11a) ?hy11a ?rest11a
  case hy11a => intro w0; go_simp; exact HB.out
  simp only [Act.put, List.setIfInBounds_toArray, List.set_cons_zero, List.set_cons_succ]
  refine any_take (i := 12) (some 15) rfl rfl (by kernel_rfl) (by kernel_rfl) (by kernel_rfl) (fun _ _ _ h => h) (by rfl) (v := ?v12a) ?hy12a ?rest12a
  case hy12a => intro w0; go_simp; try with_reducible rfl
  simp only [Act.put, List.setIfInBounds_toArray, List.set_cons_zero, List.set_cons_succ]
  refine any_take (i := 13) (some 16) rfl rfl (by kernel_rfl) (by kernel_rfl) (by kernel_rfl) (fun _ _ _ h => h) (by rfl) (v := .string Xb) ?hy13a ?rest13a
  case hy13a => intro w0; go_simp; (try rw [if_pos (by omega)]); (try rw [if_pos (by omega)]); (try simp only [Int.toNat_natCast]); (try rw [HEb.out])
  simp only [Act.put, List.setIfInBounds_toArray, List.set_cons_zero, List.set_cons_succ]
  refine any_take (i := 14) (some 17) rfl rfl (by kernel_rfl) (by kernel_rfl) (by kernel_rfl) (fun _ _ _ h => h) (by rfl) (v := ?v14a) ?hy14a ?rest14a
  case hy14a => intro w0; go_simp; try with_reducible rfl
  simp only [Act.put, List.setIfInBounds_toArray, List.set_cons_zero, List.set_cons_succ]
  refine any_take (i := 15) (some 18) rfl rfl (by kernel_rfl) (by kernel_rfl) (by kernel_rfl) (fun _ _ _ h => h) (by rfl) (v := ?v15a) ?hy15a ?rest15a
  case hy15a => intro w0; go_simp; try with_reducible rfl
  simp only [Act.put, List.setIfInBounds_toArray, List.set_cons_zero, List.set_cons_succ]
  refine any_take (i := 16) (some 19) rfl rfl (by kernel_rfl) (by kernel_rfl) (by kernel_rfl) (fun _ _ _ h => h) (by rfl) (v := ?v16a) ?hy16a ?rest16a
  case hy16a => intro w0; go_simp; exact HC.out
  simp only [Act.put, List.setIfInBounds_toArray, List.set_cons_zero, List.set_cons_succ]
  refine any_take (i := 17) (some 20) rfl rfl (by kernel_rfl) (by kernel_rfl) (by kernel_rfl) (fun _ _ _ h => h) (by rfl) (v := ?v17a) ?hy17a ?rest17a
  case hy17a => intro w0; go_simp; try with_reducible rfl
  simp only [Act.put, List.setIfInBounds_toArray, List.set_cons_zero, List.set_cons_succ]
  refine any_take (i := 18) (some 21) rfl rfl (by kernel_rfl) (by kernel_rfl) (by kernel_rfl) (fun _ _ _ h => h) (by rfl) (v := ?v18a) ?hy18a ?rest18a
  case hy18a => intro w0; go_simp; exact HC.out
  simp only [Act.put, List.setIfInBounds_toArray, List.set_cons_zero, List.set_cons_succ]
  refine any_take (i := 19) (some 22) rfl rfl (by kernel_rfl) (by kernel_rfl) (by kernel_rfl) (fun _ _ _ h => h) (by rfl) (v := ?v19a) ?hy19a ?rest19a
  case hy19a => intro w0; go_simp; try with_reducible rfl
  simp only [Act.put, List.setIfInBounds_toArray, List.set_cons_zero, List.set_cons_succ]
  refine any_take (i := 20) (some 23) rfl rfl (by kernel_rfl) (by kernel_rfl) (by kernel_rfl) (fun _ _ _ h => h) (by rfl) (v := .string Xc) ?hy20a ?rest20a
  case hy20a => intro w0; go_simp; (try rw [if_pos (by omega)]); (try rw [if_pos (by omega)]); (try simp only [Int.toNat_natCast]); (try rw [HEc.out])
  simp only [Act.put, List.setIfInBounds_toArray, List.set_cons_zero, List.set_cons_succ]
  refine any_take (i := 21) (some 24) rfl rfl (by kernel_rfl) (by kernel_rfl) (by kernel_rfl) (fun _ _ _ h => h) (by rfl) (v := ?v21a) ?hy21a ?rest21a
  case hy21a => intro w0; go_simp; try with_reducible rfl
  simp only [Act.put, List.setIfInBounds_toArray, List.set_cons_zero, List.set_cons_succ]
  refine any_take (i := 22) (some 2) rfl rfl (by kernel_rfl) (by kernel_rfl) (by kernel_rfl) (fun _ _ _ h => h) (by rfl) (v := ?v22a) ?hy22a ?rest22a
  case hy22a => intro w0; go_simp; try with_reducible rfl
  simp only [Act.put, List.setIfInBounds_toArray, List.set_cons_zero, List.set_cons_succ]
  refine any_done (by kernel_rfl) ?_ _
  refine NoPanic.normal ?_
  go_wp2
  go_ret
  exact ⟨rfl, (Below.refl _ _).drew⟩
end Go.Proofs.YtnlmjlfoeodleaaGreatDoor
