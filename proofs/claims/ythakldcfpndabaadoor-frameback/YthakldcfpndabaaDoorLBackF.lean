/- The law of what is framed so. -/
import Derived.Test.YthakldcfpndabaaDoorLFlds
import Derived.Test.YthakldcfpndabaaDoorFBackP
namespace Go.Proofs.YthakldcfpndabaaDoor
open Go.RowKit

theorem toldL_len (b : Nat) : ∀ (f x : Nat) (l : List UInt8), (toldL b f x l).length ≤ l.length + f
  | 0, x, l => by simp [toldL]
  | f + 1, x, l => by
    rw [toldL]
    split
    · simp
    · have := toldL_len b f (x / b) (digC (x % b) :: l)
      simp at this
      omega
theorem told_len (n : Nat) : (told 10 n).length ≤ 64 := by have := toldL_len 10 64 n []; simpa [told] using this
theorem fld_szB {fs : List (B × B)} (K N : Int) (h : szB fs) : szB (fldF fs K N).1 := by
  unfold fldF
  split
  · intro f hf
    rcases List.mem_append.1 hf with h1 | h1
    · exact h f (List.mem_filter.1 h1).1
    · unfold addF at h1
      have ht := told_len N.toNat
      split at h1
      · simp at h1; subst h1; exact ⟨by show clB.length ≤ 1048576; decide, by show (told 10 N.toNat).length ≤ 1048576; omega⟩
      · split at h1
        · simp at h1; subst h1; exact ⟨by decide, by decide⟩
        · simp at h1
  · intro f hf; simp at hf
structure RdK (U : World) (g : Nat) (K N : Int) : Prop where
  a0 : U.cell? ⟨g, 0, none⟩ = some (.int .i64 K)
  a1 : U.cell? ⟨g, 1, none⟩ = some (.int .i64 N)
theorem RdK.next {U V : World} {g : Nat} {K N : Int} (h : RdK U g K N) (hb : Below U.heap.size U V) : RdK V g K N := ⟨cell_keep hb h.a0, cell_keep hb h.a1⟩
theorem MemF.rd {w W : World} {K N : Int} (h : MemF w W K N) : RdK W w.heap.size K N := ⟨(cells2 h.blk).a0, (cells2 h.blk).a1⟩
theorem MemF.drew {w W : World} {K N : Int} (h : MemF w W K N) : MemF w W.drew K N := ⟨h.low.drew, h.blk⟩
def getB : ByteArray := ⟨#[71, 69, 84]⟩
theorem rsp_get (X : List (B × B)) : rspF getB 200 1 X = frmF 1 X 3 := by
  unfold rspF
  rw [if_neg (by decide +kernel)]
set_option maxRecDepth 20000 in
set_option maxHeartbeats 8000000 in
theorem fback_some (fs : List (B × B)) (ad : Addr) (n c : Nat) (hn : fs.length = n) (K N : Int) (w : World) (hF : FAt w (some ad) fs) (hsz : szB fs) (hnn : n + 1 ≤ 1048576) (hmx : MxL w) (hP : EnvP w) :
    Calls Tryd.prog 6 #[.slice (some ad) n c, .agg #[.int .i64 K, .int .i64 N]] w fun e w' => e = .returned (.bool true) ∧ Below w.heap.size w w' := by
  have HF1 := hid (show ∀ (W : World) (p : Option Addr) (c : Nat), Below w.heap.size w W → FAt W p fs → _ from fun W p c hb h => pfields fs p n c hn K N W h hsz (by omega) (hP.next hb))
  have HSu := hid (show ∀ W : World, Below w.heap.size w W → _ from fun W hb => sure11_any W (hmx.next hb))
  have hxl := fld_len fs K N
  have hxs := fld_szB K N hsz
  obtain ⟨⟨X, E3⟩, hX⟩ : ∃ x, fldF fs K N = x := ⟨_, rfl⟩
  rw [hX] at HF1 hxl hxs
  dsimp only at HF1 hxl hxs
  obtain ⟨xl, hxe⟩ : ∃ xl, X.length = xl := ⟨_, rfl⟩
  rw [hxe, hn] at hxl
  have HXl := hid hxe
  have hxb : xl ≤ 1048576 := by omega
  have HXc := hid hX
  have HRq := hid (show ∀ (W : World) (p : Option Addr) (d : Nat), Below w.heap.size w W → FAt W p X → _ from fun W p d hb h => prequest ⟨#[]⟩ ⟨#[]⟩ 1 X p xl d HXl.out W h hxs hxb (hmx.next hb))
  have HRs := hid (show ∀ (W : World) (p : Option Addr) (d : Nat), Below w.heap.size w W → FAt W p X → _ from fun W p d hb h => presponse getB 200 ⟨#[]⟩ 1 X p xl d HXl.out W h hxs hxb (hmx.next hb))
  rw [rsp_get] at HRs
  unfold getB at HRs
  have HM0 := hid (MemF.new w K N)
  obtain ⟨i0, hi0, hz0, hz1, hz2⟩ := info_parts infoF
  have HNw := hid (hF.next (HM0.out.drew).low).newsF
  have HL := hid hn
  clear hX hxe hxl hF hn hsz hmx hP hxs
  cases hok : okFr K N with
  | false =>
    obtain ⟨rfl, rfl⟩ : X = [] ∧ E3 = 1 := by
      have h9 := HXc.out
      unfold fldF at h9
      rw [if_neg (by rw [hok]; decide)] at h9
      cases h9; exact ⟨rfl, rfl⟩
    obtain rfl : xl = 0 := HXl.out.symm
    rw [show errOf 1 = .iface 83 (.int .i64 1) from rfl] at HF1
    clear hok HRq HRs
    go_enter Tryd.func6, Tryd.ntmps6
    go_wp2
    have hS0 : RdK (w.alloc (frmO K N)).drew w.heap.size K N := HM0.out.drew.rd
    refine wp_region_noPanic ?_
    refine any_begin 10 (by kernel_rfl) (by kernel_rfl) ?_
    refine late_begin (fun U => RdK U w.heap.size K N) (fun _ => false) hS0 (fun hS => ?_)
    refine late_take (i := 0) (some 13) rfl rfl (by kernel_rfl) (by kernel_rfl) (by kernel_rfl) (by kernel_rfl) (by kernel_rfl) (fun _ _ _ h => h) (by rfl) (v := ?v0sf) ?hy0sf hS ?rest0sf
    case hy0sf => intro w0 hSw; obtain ⟨a0, a1⟩ := hSw; go_simp; try with_reducible rfl
    simp only [Act.put, List.setIfInBounds_toArray, List.set_cons_zero, List.set_cons_succ]
    refine late_take (i := 1) (some 14) rfl rfl (by kernel_rfl) (by kernel_rfl) (by kernel_rfl) (by kernel_rfl) (by kernel_rfl) (fun _ _ _ h => h) (by rfl) (v := ?v1sf) ?hy1sf hS ?rest1sf
    case hy1sf => intro w0 hSw; obtain ⟨a0, a1⟩ := hSw; go_simp; try with_reducible rfl
    simp only [Act.put, List.setIfInBounds_toArray, List.set_cons_zero, List.set_cons_succ]
    refine late_take (i := 3) (some 16) rfl rfl (by kernel_rfl) (by kernel_rfl) (by kernel_rfl) (by kernel_rfl) (by kernel_rfl) (fun _ _ _ h => h) (by rfl) (v := ?v3sf) ?hy3sf hS ?rest3sf
    case hy3sf => intro w0 hSw; obtain ⟨a0, a1⟩ := hSw; go_simp; try with_reducible rfl
    simp only [Act.put, List.setIfInBounds_toArray, List.set_cons_zero, List.set_cons_succ]
    refine wpAnyD_one (i := 2) (by kernel_rfl) rfl (fun K' hK => ?_)
    rw [if_pos (by rfl)]
    refine wp_append_own_at (.tmp 13) (.tmp 14) 22 rfl (w.alloc (frmO K N)).drew.heap.size 25 i0 _ 2 32 Tryd.underlying22 hi0 hz0 hz1 hz2 rfl (by decide) (.slice none 0 0) 0 [] (by go_simp) (OwnF.nil _ _) ad n c (fldC fs) (by go_simp) (by rw [fldC_len, HL.out]) HNw.out (fldC_plain fs) (by unfold maxLen; omega) (by omega) (Nat.le_refl _) ?_
    intro v' w1 hown hgr _
    rw [Nat.zero_add, List.nil_append] at hown
    obtain ⟨q, d, rfl⟩ := own_slice hown
    have HO := hid (show OwnF w1 (w.alloc (frmO K N)).drew.heap.size (.slice q n d) fs from by unfold OwnF; rw [HL.out]; exact hown)
    have HM1 := hid (HM0.out.drew.next (below_grown hgr))
    have HA1 := hid (OwnF.fat HO.out)
    have hS1 := HM1.out.rd
    clear hown hgr HO
    show K' (Act.put _ (some 15) _) _
    refine hK _ _ ⟨fun _ => hS1, ?_⟩
    clear hK K' hS hS0
    simp only [Act.put, List.setIfInBounds_toArray, List.set_cons_zero, List.set_cons_succ]
    refine wpAnyD_one (i := 4) (by kernel_rfl) rfl (fun K' hK => ?_)
    go_simp
    go_at_call 22
    refine (HF1.out _ q d HM1.out.low HA1.out).mono ?_
    rintro e w2 ⟨v6, rfl, ho, hb⟩
    obtain ⟨q6, d6, rfl⟩ : ∃ q d, v6 = .slice q 0 d := by have h9 := own_slice ho; exact h9
    have HX2 := hid (OwnF.fat ho)
    have HM2 := hid (HM1.out.next hb)
    have hS2 := HM2.out.rd
    refine hK _ _ ⟨fun _ => hS2, ?_⟩
    clear hK hb hS1 ho HF1
    refine late_take (i := 5) (some 12) rfl rfl (by kernel_rfl) (by kernel_rfl) (by kernel_rfl) (by kernel_rfl) (by kernel_rfl) (fun _ _ _ h => h) (by rfl) (v := ?v5sf) ?hy5sf hS2 ?rest5sf
    case hy5sf => intro w0 hSw; obtain ⟨a0, a1⟩ := hSw; go_simp; try with_reducible rfl
    simp only [Act.put, List.setIfInBounds_toArray, List.set_cons_zero, List.set_cons_succ]
    refine late_take (i := 6) (some 18) rfl rfl (by kernel_rfl) (by kernel_rfl) (by kernel_rfl) (by kernel_rfl) (by kernel_rfl) (fun _ _ _ h => h) (by rfl) (v := ?v6sf) ?hy6sf hS2 ?rest6sf
    case hy6sf => intro w0 hSw; obtain ⟨a0, a1⟩ := hSw; go_simp; try with_reducible rfl
    simp only [Act.put, List.setIfInBounds_toArray, List.set_cons_zero, List.set_cons_succ]
    refine late_take (i := 7) (some 19) rfl rfl (by kernel_rfl) (by kernel_rfl) (by kernel_rfl) (by kernel_rfl) (by kernel_rfl) (fun _ _ _ h => h) (by rfl) (v := ?v7sf) ?hy7sf hS2 ?rest7sf
    case hy7sf => intro w0 hSw; obtain ⟨a0, a1⟩ := hSw; go_simp; try with_reducible rfl
    simp only [Act.put, List.setIfInBounds_toArray, List.set_cons_zero, List.set_cons_succ]
    refine late_take (i := 8) (some 6) rfl rfl (by kernel_rfl) (by kernel_rfl) (by kernel_rfl) (by kernel_rfl) (by kernel_rfl) (fun _ _ _ h => h) (by rfl) (v := ?v8sf) ?hy8sf hS2 ?rest8sf
    case hy8sf => intro w0 hSw; obtain ⟨a0, a1⟩ := hSw; go_simp; try with_reducible rfl
    simp only [Act.put, List.setIfInBounds_toArray, List.set_cons_zero, List.set_cons_succ]
    refine late_take (i := 9) (some 7) rfl rfl (by kernel_rfl) (by kernel_rfl) (by kernel_rfl) (by kernel_rfl) (by kernel_rfl) (fun _ _ _ h => h) (by rfl) (v := ?v9sf) ?hy9sf hS2 ?rest9sf
    case hy9sf => intro w0 hSw; obtain ⟨a0, a1⟩ := hSw; go_simp; try with_reducible rfl
    simp only [Act.put, List.setIfInBounds_toArray, List.set_cons_zero, List.set_cons_succ]
    refine late_done (by kernel_rfl) ?_ _
    refine NoPanic.normal ?_
    go_wp2_with (go_at_call 26; (with_reducible refine (HSu.out _ HM2.out.low).mono ?_); rintro e w3 ⟨rfl, hb⟩; have HM3 := hid (HM2.out.next hb); clear hb HSu)
    go_ret
    exact ⟨rfl, HM3.out.low⟩
  | true =>
    obtain ⟨hXe, rfl⟩ : X = unfF fs ++ addF K N ∧ E3 = 0 := by
      have h9 := HXc.out
      unfold fldF at h9
      rw [if_pos hok] at h9
      cases h9; exact ⟨rfl, rfl⟩
    rw [show errOf 0 = .nilIface from rfl] at HF1
    by_cases k3 : K = 3
    · subst k3
      have hb9 := back_frm fs 3 N 3 hok (fun _ _ => rfl)
      rw [← hXe] at hb9
      rw [hb9] at HRs
      dsimp only [frmV] at HRs
      rw [show errOf 0 = .nilIface from rfl] at HRs
      clear hok HRq hb9 hXe
      go_enter Tryd.func6, Tryd.ntmps6
      go_wp2
      have hS0 : RdK (w.alloc (frmO 3 N)).drew w.heap.size 3 N := HM0.out.drew.rd
      refine wp_region_noPanic ?_
      refine any_begin 10 (by kernel_rfl) (by kernel_rfl) ?_
      refine late_begin (fun U => RdK U w.heap.size 3 N) (fun _ => false) hS0 (fun hS => ?_)
      refine late_take (i := 0) (some 13) rfl rfl (by kernel_rfl) (by kernel_rfl) (by kernel_rfl) (by kernel_rfl) (by kernel_rfl) (fun _ _ _ h => h) (by rfl) (v := ?v0sg) ?hy0sg hS ?rest0sg
      case hy0sg => intro w0 hSw; obtain ⟨a0, a1⟩ := hSw; go_simp; try with_reducible rfl
      simp only [Act.put, List.setIfInBounds_toArray, List.set_cons_zero, List.set_cons_succ]
      refine late_take (i := 1) (some 14) rfl rfl (by kernel_rfl) (by kernel_rfl) (by kernel_rfl) (by kernel_rfl) (by kernel_rfl) (fun _ _ _ h => h) (by rfl) (v := ?v1sg) ?hy1sg hS ?rest1sg
      case hy1sg => intro w0 hSw; obtain ⟨a0, a1⟩ := hSw; go_simp; try with_reducible rfl
      simp only [Act.put, List.setIfInBounds_toArray, List.set_cons_zero, List.set_cons_succ]
      refine late_take (i := 3) (some 16) rfl rfl (by kernel_rfl) (by kernel_rfl) (by kernel_rfl) (by kernel_rfl) (by kernel_rfl) (fun _ _ _ h => h) (by rfl) (v := ?v3sg) ?hy3sg hS ?rest3sg
      case hy3sg => intro w0 hSw; obtain ⟨a0, a1⟩ := hSw; go_simp; try with_reducible rfl
      simp only [Act.put, List.setIfInBounds_toArray, List.set_cons_zero, List.set_cons_succ]
      refine wpAnyD_one (i := 2) (by kernel_rfl) rfl (fun K' hK => ?_)
      rw [if_pos (by rfl)]
      refine wp_append_own_at (.tmp 13) (.tmp 14) 22 rfl (w.alloc (frmO 3 N)).drew.heap.size 25 i0 _ 2 32 Tryd.underlying22 hi0 hz0 hz1 hz2 rfl (by decide) (.slice none 0 0) 0 [] (by go_simp) (OwnF.nil _ _) ad n c (fldC fs) (by go_simp) (by rw [fldC_len, HL.out]) HNw.out (fldC_plain fs) (by unfold maxLen; omega) (by omega) (Nat.le_refl _) ?_
      intro v' w1 hown hgr _
      rw [Nat.zero_add, List.nil_append] at hown
      obtain ⟨q, d, rfl⟩ := own_slice hown
      have HO := hid (show OwnF w1 (w.alloc (frmO 3 N)).drew.heap.size (.slice q n d) fs from by unfold OwnF; rw [HL.out]; exact hown)
      have HM1 := hid (HM0.out.drew.next (below_grown hgr))
      have HA1 := hid (OwnF.fat HO.out)
      have hS1 := HM1.out.rd
      clear hown hgr HO
      show K' (Act.put _ (some 15) _) _
      refine hK _ _ ⟨fun _ => hS1, ?_⟩
      clear hK K' hS hS0
      simp only [Act.put, List.setIfInBounds_toArray, List.set_cons_zero, List.set_cons_succ]
      refine wpAnyD_one (i := 4) (by kernel_rfl) rfl (fun K' hK => ?_)
      go_simp
      go_at_call 22
      refine (HF1.out _ q d HM1.out.low HA1.out).mono ?_
      rintro e w2 ⟨v6, rfl, ho, hb⟩
      obtain ⟨q6, d6, rfl⟩ : ∃ q d, v6 = .slice q xl d := by have h9 := own_slice ho; rw [HXl.out] at h9; exact h9
      have HX2 := hid (OwnF.fat ho)
      have HM2 := hid (HM1.out.next hb)
      have hS2 := HM2.out.rd
      refine hK _ _ ⟨fun _ => hS2, ?_⟩
      clear hK hb hS1 ho HF1
      refine late_take (i := 5) (some 12) rfl rfl (by kernel_rfl) (by kernel_rfl) (by kernel_rfl) (by kernel_rfl) (by kernel_rfl) (fun _ _ _ h => h) (by rfl) (v := ?v5sg) ?hy5sg hS2 ?rest5sg
      case hy5sg => intro w0 hSw; obtain ⟨a0, a1⟩ := hSw; go_simp; try with_reducible rfl
      simp only [Act.put, List.setIfInBounds_toArray, List.set_cons_zero, List.set_cons_succ]
      refine late_take (i := 6) (some 18) rfl rfl (by kernel_rfl) (by kernel_rfl) (by kernel_rfl) (by kernel_rfl) (by kernel_rfl) (fun _ _ _ h => h) (by rfl) (v := ?v6sg) ?hy6sg hS2 ?rest6sg
      case hy6sg => intro w0 hSw; obtain ⟨a0, a1⟩ := hSw; go_simp; try with_reducible rfl
      simp only [Act.put, List.setIfInBounds_toArray, List.set_cons_zero, List.set_cons_succ]
      refine late_take (i := 7) (some 19) rfl rfl (by kernel_rfl) (by kernel_rfl) (by kernel_rfl) (by kernel_rfl) (by kernel_rfl) (fun _ _ _ h => h) (by rfl) (v := ?v7sg) ?hy7sg hS2 ?rest7sg
      case hy7sg => intro w0 hSw; obtain ⟨a0, a1⟩ := hSw; go_simp; try with_reducible rfl
      simp only [Act.put, List.setIfInBounds_toArray, List.set_cons_zero, List.set_cons_succ]
      refine late_take (i := 8) (some 6) rfl rfl (by kernel_rfl) (by kernel_rfl) (by kernel_rfl) (by kernel_rfl) (by kernel_rfl) (fun _ _ _ h => h) (by rfl) (v := ?v8sg) ?hy8sg hS2 ?rest8sg
      case hy8sg => intro w0 hSw; obtain ⟨a0, a1⟩ := hSw; go_simp; try with_reducible rfl
      simp only [Act.put, List.setIfInBounds_toArray, List.set_cons_zero, List.set_cons_succ]
      refine late_take (i := 9) (some 7) rfl rfl (by kernel_rfl) (by kernel_rfl) (by kernel_rfl) (by kernel_rfl) (by kernel_rfl) (fun _ _ _ h => h) (by rfl) (v := ?v9sg) ?hy9sg hS2 ?rest9sg
      case hy9sg => intro w0 hSw; obtain ⟨a0, a1⟩ := hSw; go_simp; try with_reducible rfl
      simp only [Act.put, List.setIfInBounds_toArray, List.set_cons_zero, List.set_cons_succ]
      refine late_done (by kernel_rfl) ?_ _
      refine NoPanic.normal ?_
      obtain ⟨y0, y1⟩ := hS2
      go_wp2_with (first | (go_at_call 29; (with_reducible refine (HRs.out _ _ _ HM2.out.low HX2.out).mono ?_); rintro e w3 ⟨rfl, hb⟩; have hb2 := below_new w3 (frmO 3 N); have HM3 := hid ((HM2.out.next hb).next hb2); clear y0 y1; obtain ⟨y0, y1, _, _⟩ := cells2 HM3.out.blk; clear hb hb2 HRs) | (go_at_call 26; (with_reducible refine (HSu.out _ HM3.out.low).mono ?_); rintro e w4 ⟨rfl, hb⟩; have HM4 := hid (HM3.out.next hb); clear hb HSu))
      go_ret
      exact ⟨rfl, HM4.out.low⟩
    · have hb9 := back_frm fs K N 0 hok (fun h1 h2 => by have := of_decide_eq_true hok; omega)
      rw [← hXe] at hb9
      rw [hb9] at HRq
      dsimp only [frmV] at HRq
      rw [show errOf 0 = .nilIface from rfl] at HRq
      have j3 : (K == 3) = false := by simpa using k3
      clear hok HRs hb9 hXe
      go_enter Tryd.func6, Tryd.ntmps6
      go_wp2
      have hS0 : RdK (w.alloc (frmO K N)).drew w.heap.size K N := HM0.out.drew.rd
      refine wp_region_noPanic ?_
      refine any_begin 10 (by kernel_rfl) (by kernel_rfl) ?_
      refine late_begin (fun U => RdK U w.heap.size K N) (fun _ => false) hS0 (fun hS => ?_)
      refine late_take (i := 0) (some 13) rfl rfl (by kernel_rfl) (by kernel_rfl) (by kernel_rfl) (by kernel_rfl) (by kernel_rfl) (fun _ _ _ h => h) (by rfl) (v := ?v0sh) ?hy0sh hS ?rest0sh
      case hy0sh => intro w0 hSw; obtain ⟨a0, a1⟩ := hSw; go_simp; try with_reducible rfl
      simp only [Act.put, List.setIfInBounds_toArray, List.set_cons_zero, List.set_cons_succ]
      refine late_take (i := 1) (some 14) rfl rfl (by kernel_rfl) (by kernel_rfl) (by kernel_rfl) (by kernel_rfl) (by kernel_rfl) (fun _ _ _ h => h) (by rfl) (v := ?v1sh) ?hy1sh hS ?rest1sh
      case hy1sh => intro w0 hSw; obtain ⟨a0, a1⟩ := hSw; go_simp; try with_reducible rfl
      simp only [Act.put, List.setIfInBounds_toArray, List.set_cons_zero, List.set_cons_succ]
      refine late_take (i := 3) (some 16) rfl rfl (by kernel_rfl) (by kernel_rfl) (by kernel_rfl) (by kernel_rfl) (by kernel_rfl) (fun _ _ _ h => h) (by rfl) (v := ?v3sh) ?hy3sh hS ?rest3sh
      case hy3sh => intro w0 hSw; obtain ⟨a0, a1⟩ := hSw; go_simp; try with_reducible rfl
      simp only [Act.put, List.setIfInBounds_toArray, List.set_cons_zero, List.set_cons_succ]
      refine wpAnyD_one (i := 2) (by kernel_rfl) rfl (fun K' hK => ?_)
      rw [if_pos (by rfl)]
      refine wp_append_own_at (.tmp 13) (.tmp 14) 22 rfl (w.alloc (frmO K N)).drew.heap.size 25 i0 _ 2 32 Tryd.underlying22 hi0 hz0 hz1 hz2 rfl (by decide) (.slice none 0 0) 0 [] (by go_simp) (OwnF.nil _ _) ad n c (fldC fs) (by go_simp) (by rw [fldC_len, HL.out]) HNw.out (fldC_plain fs) (by unfold maxLen; omega) (by omega) (Nat.le_refl _) ?_
      intro v' w1 hown hgr _
      rw [Nat.zero_add, List.nil_append] at hown
      obtain ⟨q, d, rfl⟩ := own_slice hown
      have HO := hid (show OwnF w1 (w.alloc (frmO K N)).drew.heap.size (.slice q n d) fs from by unfold OwnF; rw [HL.out]; exact hown)
      have HM1 := hid (HM0.out.drew.next (below_grown hgr))
      have HA1 := hid (OwnF.fat HO.out)
      have hS1 := HM1.out.rd
      clear hown hgr HO
      show K' (Act.put _ (some 15) _) _
      refine hK _ _ ⟨fun _ => hS1, ?_⟩
      clear hK K' hS hS0
      simp only [Act.put, List.setIfInBounds_toArray, List.set_cons_zero, List.set_cons_succ]
      refine wpAnyD_one (i := 4) (by kernel_rfl) rfl (fun K' hK => ?_)
      go_simp
      go_at_call 22
      refine (HF1.out _ q d HM1.out.low HA1.out).mono ?_
      rintro e w2 ⟨v6, rfl, ho, hb⟩
      obtain ⟨q6, d6, rfl⟩ : ∃ q d, v6 = .slice q xl d := by have h9 := own_slice ho; rw [HXl.out] at h9; exact h9
      have HX2 := hid (OwnF.fat ho)
      have HM2 := hid (HM1.out.next hb)
      have hS2 := HM2.out.rd
      refine hK _ _ ⟨fun _ => hS2, ?_⟩
      clear hK hb hS1 ho HF1
      refine late_take (i := 5) (some 12) rfl rfl (by kernel_rfl) (by kernel_rfl) (by kernel_rfl) (by kernel_rfl) (by kernel_rfl) (fun _ _ _ h => h) (by rfl) (v := ?v5sh) ?hy5sh hS2 ?rest5sh
      case hy5sh => intro w0 hSw; obtain ⟨a0, a1⟩ := hSw; go_simp; try with_reducible rfl
      simp only [Act.put, List.setIfInBounds_toArray, List.set_cons_zero, List.set_cons_succ]
      refine late_take (i := 6) (some 18) rfl rfl (by kernel_rfl) (by kernel_rfl) (by kernel_rfl) (by kernel_rfl) (by kernel_rfl) (fun _ _ _ h => h) (by rfl) (v := ?v6sh) ?hy6sh hS2 ?rest6sh
      case hy6sh => intro w0 hSw; obtain ⟨a0, a1⟩ := hSw; go_simp; try with_reducible rfl
      simp only [Act.put, List.setIfInBounds_toArray, List.set_cons_zero, List.set_cons_succ]
      refine late_take (i := 7) (some 19) rfl rfl (by kernel_rfl) (by kernel_rfl) (by kernel_rfl) (by kernel_rfl) (by kernel_rfl) (fun _ _ _ h => h) (by rfl) (v := ?v7sh) ?hy7sh hS2 ?rest7sh
      case hy7sh => intro w0 hSw; obtain ⟨a0, a1⟩ := hSw; go_simp; try with_reducible rfl
      simp only [Act.put, List.setIfInBounds_toArray, List.set_cons_zero, List.set_cons_succ]
      refine late_take (i := 8) (some 6) rfl rfl (by kernel_rfl) (by kernel_rfl) (by kernel_rfl) (by kernel_rfl) (by kernel_rfl) (fun _ _ _ h => h) (by rfl) (v := ?v8sh) ?hy8sh hS2 ?rest8sh
      case hy8sh => intro w0 hSw; obtain ⟨a0, a1⟩ := hSw; go_simp; try with_reducible rfl
      simp only [Act.put, List.setIfInBounds_toArray, List.set_cons_zero, List.set_cons_succ]
      refine late_take (i := 9) (some 7) rfl rfl (by kernel_rfl) (by kernel_rfl) (by kernel_rfl) (by kernel_rfl) (by kernel_rfl) (fun _ _ _ h => h) (by rfl) (v := ?v9sh) ?hy9sh hS2 ?rest9sh
      case hy9sh => intro w0 hSw; obtain ⟨a0, a1⟩ := hSw; go_simp; try with_reducible rfl
      simp only [Act.put, List.setIfInBounds_toArray, List.set_cons_zero, List.set_cons_succ]
      refine late_done (by kernel_rfl) ?_ _
      refine NoPanic.normal ?_
      obtain ⟨y0, y1⟩ := hS2
      go_wp2_with (first | (go_at_call 27; (with_reducible refine (HRq.out _ _ _ HM2.out.low HX2.out).mono ?_); rintro e w3 ⟨rfl, hb⟩; have hb2 := below_new w3 (frmO K N); have HM3 := hid ((HM2.out.next hb).next hb2); clear y0 y1; obtain ⟨y0, y1, _, _⟩ := cells2 HM3.out.blk; clear hb hb2 HRq) | (go_at_call 26; (with_reducible refine (HSu.out _ HM3.out.low).mono ?_); rintro e w4 ⟨rfl, hb⟩; have HM4 := hid (HM3.out.next hb); clear hb HSu))
      go_ret
      exact ⟨rfl, HM4.out.low⟩
set_option maxRecDepth 20000 in
set_option maxHeartbeats 8000000 in
theorem fback_none (fs : List (B × B)) (n c : Nat) (hn : fs.length = n) (K N : Int) (w : World) (hF : FAt w none fs) (hsz : szB fs) (hnn : n + 1 ≤ 1048576) (hmx : MxL w) (hP : EnvP w) :
    Calls Tryd.prog 6 #[.slice none n c, .agg #[.int .i64 K, .int .i64 N]] w fun e w' => e = .returned (.bool true) ∧ Below w.heap.size w w' := by
  have HF1 := hid (show ∀ (W : World) (p : Option Addr) (c : Nat), Below w.heap.size w W → FAt W p fs → _ from fun W p c hb h => pfields fs p n c hn K N W h hsz (by omega) (hP.next hb))
  have HSu := hid (show ∀ W : World, Below w.heap.size w W → _ from fun W hb => sure11_any W (hmx.next hb))
  have hxl := fld_len fs K N
  have hxs := fld_szB K N hsz
  obtain ⟨⟨X, E3⟩, hX⟩ : ∃ x, fldF fs K N = x := ⟨_, rfl⟩
  rw [hX] at HF1 hxl hxs
  dsimp only at HF1 hxl hxs
  obtain ⟨xl, hxe⟩ : ∃ xl, X.length = xl := ⟨_, rfl⟩
  rw [hxe, hn] at hxl
  have HXl := hid hxe
  have hxb : xl ≤ 1048576 := by omega
  have HXc := hid hX
  have HRq := hid (show ∀ (W : World) (p : Option Addr) (d : Nat), Below w.heap.size w W → FAt W p X → _ from fun W p d hb h => prequest ⟨#[]⟩ ⟨#[]⟩ 1 X p xl d HXl.out W h hxs hxb (hmx.next hb))
  have HRs := hid (show ∀ (W : World) (p : Option Addr) (d : Nat), Below w.heap.size w W → FAt W p X → _ from fun W p d hb h => presponse getB 200 ⟨#[]⟩ 1 X p xl d HXl.out W h hxs hxb (hmx.next hb))
  rw [rsp_get] at HRs
  unfold getB at HRs
  have HM0 := hid (MemF.new w K N)
  have hfs : fs = [] := by
    cases fs with
    | nil => rfl
    | cons f l => obtain ⟨g, o, e, _⟩ := hF 0 f rfl; cases e
  have HFn := hid (show ∀ W : World, FAt W none fs from fun W j f h => by rw [hfs] at h; simp at h)
  have hn0 : n = 0 := by rw [← hn, hfs]; rfl
  subst hn0
  clear hX hxe hxl hF hn hsz hmx hfs hP hxs
  cases hok : okFr K N with
  | false =>
    obtain ⟨rfl, rfl⟩ : X = [] ∧ E3 = 1 := by
      have h9 := HXc.out
      unfold fldF at h9
      rw [if_neg (by rw [hok]; decide)] at h9
      cases h9; exact ⟨rfl, rfl⟩
    obtain rfl : xl = 0 := HXl.out.symm
    rw [show errOf 1 = .iface 83 (.int .i64 1) from rfl] at HF1
    clear hok HRq HRs
    go_enter Tryd.func6, Tryd.ntmps6
    go_wp2
    have hS0 : RdK (w.alloc (frmO K N)).drew w.heap.size K N := HM0.out.drew.rd
    refine wp_region_noPanic ?_
    refine any_begin 10 (by kernel_rfl) (by kernel_rfl) ?_
    refine late_begin (fun U => RdK U w.heap.size K N) (fun _ => false) hS0 (fun hS => ?_)
    refine late_take (i := 0) (some 13) rfl rfl (by kernel_rfl) (by kernel_rfl) (by kernel_rfl) (by kernel_rfl) (by kernel_rfl) (fun _ _ _ h => h) (by rfl) (v := ?v0nf) ?hy0nf hS ?rest0nf
    case hy0nf => intro w0 hSw; obtain ⟨a0, a1⟩ := hSw; go_simp; try with_reducible rfl
    simp only [Act.put, List.setIfInBounds_toArray, List.set_cons_zero, List.set_cons_succ]
    refine late_take (i := 1) (some 14) rfl rfl (by kernel_rfl) (by kernel_rfl) (by kernel_rfl) (by kernel_rfl) (by kernel_rfl) (fun _ _ _ h => h) (by rfl) (v := ?v1nf) ?hy1nf hS ?rest1nf
    case hy1nf => intro w0 hSw; obtain ⟨a0, a1⟩ := hSw; go_simp; try with_reducible rfl
    simp only [Act.put, List.setIfInBounds_toArray, List.set_cons_zero, List.set_cons_succ]
    refine late_take (i := 3) (some 16) rfl rfl (by kernel_rfl) (by kernel_rfl) (by kernel_rfl) (by kernel_rfl) (by kernel_rfl) (fun _ _ _ h => h) (by rfl) (v := ?v3nf) ?hy3nf hS ?rest3nf
    case hy3nf => intro w0 hSw; obtain ⟨a0, a1⟩ := hSw; go_simp; try with_reducible rfl
    simp only [Act.put, List.setIfInBounds_toArray, List.set_cons_zero, List.set_cons_succ]
    refine late_take (i := 2) (some 15) rfl rfl (by kernel_rfl) (by kernel_rfl) (by kernel_rfl) (by kernel_rfl) (by kernel_rfl) (fun _ _ _ h => h) (by rfl) (v := ?v2nf) ?hy2nf hS ?rest2nf
    case hy2nf => intro w0 hSw; obtain ⟨a0, a1⟩ := hSw; go_simp; try with_reducible rfl
    simp only [Act.put, List.setIfInBounds_toArray, List.set_cons_zero, List.set_cons_succ]
    have HM1 := hid HM0.out.drew
    have hS1 := HM1.out.rd
    clear hS0
    refine wpAnyD_one (i := 4) (by kernel_rfl) rfl (fun K' hK => ?_)
    go_simp
    go_at_call 22
    refine (HF1.out _ none 0 HM1.out.low (HFn.out _)).mono ?_
    rintro e w2 ⟨v6, rfl, ho, hb⟩
    obtain ⟨q6, d6, rfl⟩ : ∃ q d, v6 = .slice q 0 d := by have h9 := own_slice ho; exact h9
    have HX2 := hid (OwnF.fat ho)
    have HM2 := hid (HM1.out.next hb)
    have hS2 := HM2.out.rd
    refine hK _ _ ⟨fun _ => hS2, ?_⟩
    clear hK hb hS1 ho HF1
    refine late_take (i := 5) (some 12) rfl rfl (by kernel_rfl) (by kernel_rfl) (by kernel_rfl) (by kernel_rfl) (by kernel_rfl) (fun _ _ _ h => h) (by rfl) (v := ?v5nf) ?hy5nf hS2 ?rest5nf
    case hy5nf => intro w0 hSw; obtain ⟨a0, a1⟩ := hSw; go_simp; try with_reducible rfl
    simp only [Act.put, List.setIfInBounds_toArray, List.set_cons_zero, List.set_cons_succ]
    refine late_take (i := 6) (some 18) rfl rfl (by kernel_rfl) (by kernel_rfl) (by kernel_rfl) (by kernel_rfl) (by kernel_rfl) (fun _ _ _ h => h) (by rfl) (v := ?v6nf) ?hy6nf hS2 ?rest6nf
    case hy6nf => intro w0 hSw; obtain ⟨a0, a1⟩ := hSw; go_simp; try with_reducible rfl
    simp only [Act.put, List.setIfInBounds_toArray, List.set_cons_zero, List.set_cons_succ]
    refine late_take (i := 7) (some 19) rfl rfl (by kernel_rfl) (by kernel_rfl) (by kernel_rfl) (by kernel_rfl) (by kernel_rfl) (fun _ _ _ h => h) (by rfl) (v := ?v7nf) ?hy7nf hS2 ?rest7nf
    case hy7nf => intro w0 hSw; obtain ⟨a0, a1⟩ := hSw; go_simp; try with_reducible rfl
    simp only [Act.put, List.setIfInBounds_toArray, List.set_cons_zero, List.set_cons_succ]
    refine late_take (i := 8) (some 6) rfl rfl (by kernel_rfl) (by kernel_rfl) (by kernel_rfl) (by kernel_rfl) (by kernel_rfl) (fun _ _ _ h => h) (by rfl) (v := ?v8nf) ?hy8nf hS2 ?rest8nf
    case hy8nf => intro w0 hSw; obtain ⟨a0, a1⟩ := hSw; go_simp; try with_reducible rfl
    simp only [Act.put, List.setIfInBounds_toArray, List.set_cons_zero, List.set_cons_succ]
    refine late_take (i := 9) (some 7) rfl rfl (by kernel_rfl) (by kernel_rfl) (by kernel_rfl) (by kernel_rfl) (by kernel_rfl) (fun _ _ _ h => h) (by rfl) (v := ?v9nf) ?hy9nf hS2 ?rest9nf
    case hy9nf => intro w0 hSw; obtain ⟨a0, a1⟩ := hSw; go_simp; try with_reducible rfl
    simp only [Act.put, List.setIfInBounds_toArray, List.set_cons_zero, List.set_cons_succ]
    refine late_done (by kernel_rfl) ?_ _
    refine NoPanic.normal ?_
    go_wp2_with (go_at_call 26; (with_reducible refine (HSu.out _ HM2.out.low).mono ?_); rintro e w3 ⟨rfl, hb⟩; have HM3 := hid (HM2.out.next hb); clear hb HSu)
    go_ret
    exact ⟨rfl, HM3.out.low⟩
  | true =>
    obtain ⟨hXe, rfl⟩ : X = unfF fs ++ addF K N ∧ E3 = 0 := by
      have h9 := HXc.out
      unfold fldF at h9
      rw [if_pos hok] at h9
      cases h9; exact ⟨rfl, rfl⟩
    rw [show errOf 0 = .nilIface from rfl] at HF1
    by_cases k3 : K = 3
    · subst k3
      have hb9 := back_frm fs 3 N 3 hok (fun _ _ => rfl)
      rw [← hXe] at hb9
      rw [hb9] at HRs
      dsimp only [frmV] at HRs
      rw [show errOf 0 = .nilIface from rfl] at HRs
      clear hok HRq hb9 hXe
      go_enter Tryd.func6, Tryd.ntmps6
      go_wp2
      have hS0 : RdK (w.alloc (frmO 3 N)).drew w.heap.size 3 N := HM0.out.drew.rd
      refine wp_region_noPanic ?_
      refine any_begin 10 (by kernel_rfl) (by kernel_rfl) ?_
      refine late_begin (fun U => RdK U w.heap.size 3 N) (fun _ => false) hS0 (fun hS => ?_)
      refine late_take (i := 0) (some 13) rfl rfl (by kernel_rfl) (by kernel_rfl) (by kernel_rfl) (by kernel_rfl) (by kernel_rfl) (fun _ _ _ h => h) (by rfl) (v := ?v0ng) ?hy0ng hS ?rest0ng
      case hy0ng => intro w0 hSw; obtain ⟨a0, a1⟩ := hSw; go_simp; try with_reducible rfl
      simp only [Act.put, List.setIfInBounds_toArray, List.set_cons_zero, List.set_cons_succ]
      refine late_take (i := 1) (some 14) rfl rfl (by kernel_rfl) (by kernel_rfl) (by kernel_rfl) (by kernel_rfl) (by kernel_rfl) (fun _ _ _ h => h) (by rfl) (v := ?v1ng) ?hy1ng hS ?rest1ng
      case hy1ng => intro w0 hSw; obtain ⟨a0, a1⟩ := hSw; go_simp; try with_reducible rfl
      simp only [Act.put, List.setIfInBounds_toArray, List.set_cons_zero, List.set_cons_succ]
      refine late_take (i := 3) (some 16) rfl rfl (by kernel_rfl) (by kernel_rfl) (by kernel_rfl) (by kernel_rfl) (by kernel_rfl) (fun _ _ _ h => h) (by rfl) (v := ?v3ng) ?hy3ng hS ?rest3ng
      case hy3ng => intro w0 hSw; obtain ⟨a0, a1⟩ := hSw; go_simp; try with_reducible rfl
      simp only [Act.put, List.setIfInBounds_toArray, List.set_cons_zero, List.set_cons_succ]
      refine late_take (i := 2) (some 15) rfl rfl (by kernel_rfl) (by kernel_rfl) (by kernel_rfl) (by kernel_rfl) (by kernel_rfl) (fun _ _ _ h => h) (by rfl) (v := ?v2ng) ?hy2ng hS ?rest2ng
      case hy2ng => intro w0 hSw; obtain ⟨a0, a1⟩ := hSw; go_simp; try with_reducible rfl
      simp only [Act.put, List.setIfInBounds_toArray, List.set_cons_zero, List.set_cons_succ]
      have HM1 := hid HM0.out.drew
      have hS1 := HM1.out.rd
      clear hS0
      refine wpAnyD_one (i := 4) (by kernel_rfl) rfl (fun K' hK => ?_)
      go_simp
      go_at_call 22
      refine (HF1.out _ none 0 HM1.out.low (HFn.out _)).mono ?_
      rintro e w2 ⟨v6, rfl, ho, hb⟩
      obtain ⟨q6, d6, rfl⟩ : ∃ q d, v6 = .slice q xl d := by have h9 := own_slice ho; rw [HXl.out] at h9; exact h9
      have HX2 := hid (OwnF.fat ho)
      have HM2 := hid (HM1.out.next hb)
      have hS2 := HM2.out.rd
      refine hK _ _ ⟨fun _ => hS2, ?_⟩
      clear hK hb hS1 ho HF1
      refine late_take (i := 5) (some 12) rfl rfl (by kernel_rfl) (by kernel_rfl) (by kernel_rfl) (by kernel_rfl) (by kernel_rfl) (fun _ _ _ h => h) (by rfl) (v := ?v5ng) ?hy5ng hS2 ?rest5ng
      case hy5ng => intro w0 hSw; obtain ⟨a0, a1⟩ := hSw; go_simp; try with_reducible rfl
      simp only [Act.put, List.setIfInBounds_toArray, List.set_cons_zero, List.set_cons_succ]
      refine late_take (i := 6) (some 18) rfl rfl (by kernel_rfl) (by kernel_rfl) (by kernel_rfl) (by kernel_rfl) (by kernel_rfl) (fun _ _ _ h => h) (by rfl) (v := ?v6ng) ?hy6ng hS2 ?rest6ng
      case hy6ng => intro w0 hSw; obtain ⟨a0, a1⟩ := hSw; go_simp; try with_reducible rfl
      simp only [Act.put, List.setIfInBounds_toArray, List.set_cons_zero, List.set_cons_succ]
      refine late_take (i := 7) (some 19) rfl rfl (by kernel_rfl) (by kernel_rfl) (by kernel_rfl) (by kernel_rfl) (by kernel_rfl) (fun _ _ _ h => h) (by rfl) (v := ?v7ng) ?hy7ng hS2 ?rest7ng
      case hy7ng => intro w0 hSw; obtain ⟨a0, a1⟩ := hSw; go_simp; try with_reducible rfl
      simp only [Act.put, List.setIfInBounds_toArray, List.set_cons_zero, List.set_cons_succ]
      refine late_take (i := 8) (some 6) rfl rfl (by kernel_rfl) (by kernel_rfl) (by kernel_rfl) (by kernel_rfl) (by kernel_rfl) (fun _ _ _ h => h) (by rfl) (v := ?v8ng) ?hy8ng hS2 ?rest8ng
      case hy8ng => intro w0 hSw; obtain ⟨a0, a1⟩ := hSw; go_simp; try with_reducible rfl
      simp only [Act.put, List.setIfInBounds_toArray, List.set_cons_zero, List.set_cons_succ]
      refine late_take (i := 9) (some 7) rfl rfl (by kernel_rfl) (by kernel_rfl) (by kernel_rfl) (by kernel_rfl) (by kernel_rfl) (fun _ _ _ h => h) (by rfl) (v := ?v9ng) ?hy9ng hS2 ?rest9ng
      case hy9ng => intro w0 hSw; obtain ⟨a0, a1⟩ := hSw; go_simp; try with_reducible rfl
      simp only [Act.put, List.setIfInBounds_toArray, List.set_cons_zero, List.set_cons_succ]
      refine late_done (by kernel_rfl) ?_ _
      refine NoPanic.normal ?_
      obtain ⟨y0, y1⟩ := hS2
      go_wp2_with (first | (go_at_call 29; (with_reducible refine (HRs.out _ _ _ HM2.out.low HX2.out).mono ?_); rintro e w3 ⟨rfl, hb⟩; have hb2 := below_new w3 (frmO 3 N); have HM3 := hid ((HM2.out.next hb).next hb2); clear y0 y1; obtain ⟨y0, y1, _, _⟩ := cells2 HM3.out.blk; clear hb hb2 HRs) | (go_at_call 26; (with_reducible refine (HSu.out _ HM3.out.low).mono ?_); rintro e w4 ⟨rfl, hb⟩; have HM4 := hid (HM3.out.next hb); clear hb HSu))
      go_ret
      exact ⟨rfl, HM4.out.low⟩
    · have hb9 := back_frm fs K N 0 hok (fun h1 h2 => by have := of_decide_eq_true hok; omega)
      rw [← hXe] at hb9
      rw [hb9] at HRq
      dsimp only [frmV] at HRq
      rw [show errOf 0 = .nilIface from rfl] at HRq
      have j3 : (K == 3) = false := by simpa using k3
      clear hok HRs hb9 hXe
      go_enter Tryd.func6, Tryd.ntmps6
      go_wp2
      have hS0 : RdK (w.alloc (frmO K N)).drew w.heap.size K N := HM0.out.drew.rd
      refine wp_region_noPanic ?_
      refine any_begin 10 (by kernel_rfl) (by kernel_rfl) ?_
      refine late_begin (fun U => RdK U w.heap.size K N) (fun _ => false) hS0 (fun hS => ?_)
      refine late_take (i := 0) (some 13) rfl rfl (by kernel_rfl) (by kernel_rfl) (by kernel_rfl) (by kernel_rfl) (by kernel_rfl) (fun _ _ _ h => h) (by rfl) (v := ?v0nh) ?hy0nh hS ?rest0nh
      case hy0nh => intro w0 hSw; obtain ⟨a0, a1⟩ := hSw; go_simp; try with_reducible rfl
      simp only [Act.put, List.setIfInBounds_toArray, List.set_cons_zero, List.set_cons_succ]
      refine late_take (i := 1) (some 14) rfl rfl (by kernel_rfl) (by kernel_rfl) (by kernel_rfl) (by kernel_rfl) (by kernel_rfl) (fun _ _ _ h => h) (by rfl) (v := ?v1nh) ?hy1nh hS ?rest1nh
      case hy1nh => intro w0 hSw; obtain ⟨a0, a1⟩ := hSw; go_simp; try with_reducible rfl
      simp only [Act.put, List.setIfInBounds_toArray, List.set_cons_zero, List.set_cons_succ]
      refine late_take (i := 3) (some 16) rfl rfl (by kernel_rfl) (by kernel_rfl) (by kernel_rfl) (by kernel_rfl) (by kernel_rfl) (fun _ _ _ h => h) (by rfl) (v := ?v3nh) ?hy3nh hS ?rest3nh
      case hy3nh => intro w0 hSw; obtain ⟨a0, a1⟩ := hSw; go_simp; try with_reducible rfl
      simp only [Act.put, List.setIfInBounds_toArray, List.set_cons_zero, List.set_cons_succ]
      refine late_take (i := 2) (some 15) rfl rfl (by kernel_rfl) (by kernel_rfl) (by kernel_rfl) (by kernel_rfl) (by kernel_rfl) (fun _ _ _ h => h) (by rfl) (v := ?v2nh) ?hy2nh hS ?rest2nh
      case hy2nh => intro w0 hSw; obtain ⟨a0, a1⟩ := hSw; go_simp; try with_reducible rfl
      simp only [Act.put, List.setIfInBounds_toArray, List.set_cons_zero, List.set_cons_succ]
      have HM1 := hid HM0.out.drew
      have hS1 := HM1.out.rd
      clear hS0
      refine wpAnyD_one (i := 4) (by kernel_rfl) rfl (fun K' hK => ?_)
      go_simp
      go_at_call 22
      refine (HF1.out _ none 0 HM1.out.low (HFn.out _)).mono ?_
      rintro e w2 ⟨v6, rfl, ho, hb⟩
      obtain ⟨q6, d6, rfl⟩ : ∃ q d, v6 = .slice q xl d := by have h9 := own_slice ho; rw [HXl.out] at h9; exact h9
      have HX2 := hid (OwnF.fat ho)
      have HM2 := hid (HM1.out.next hb)
      have hS2 := HM2.out.rd
      refine hK _ _ ⟨fun _ => hS2, ?_⟩
      clear hK hb hS1 ho HF1
      refine late_take (i := 5) (some 12) rfl rfl (by kernel_rfl) (by kernel_rfl) (by kernel_rfl) (by kernel_rfl) (by kernel_rfl) (fun _ _ _ h => h) (by rfl) (v := ?v5nh) ?hy5nh hS2 ?rest5nh
      case hy5nh => intro w0 hSw; obtain ⟨a0, a1⟩ := hSw; go_simp; try with_reducible rfl
      simp only [Act.put, List.setIfInBounds_toArray, List.set_cons_zero, List.set_cons_succ]
      refine late_take (i := 6) (some 18) rfl rfl (by kernel_rfl) (by kernel_rfl) (by kernel_rfl) (by kernel_rfl) (by kernel_rfl) (fun _ _ _ h => h) (by rfl) (v := ?v6nh) ?hy6nh hS2 ?rest6nh
      case hy6nh => intro w0 hSw; obtain ⟨a0, a1⟩ := hSw; go_simp; try with_reducible rfl
      simp only [Act.put, List.setIfInBounds_toArray, List.set_cons_zero, List.set_cons_succ]
      refine late_take (i := 7) (some 19) rfl rfl (by kernel_rfl) (by kernel_rfl) (by kernel_rfl) (by kernel_rfl) (by kernel_rfl) (fun _ _ _ h => h) (by rfl) (v := ?v7nh) ?hy7nh hS2 ?rest7nh
      case hy7nh => intro w0 hSw; obtain ⟨a0, a1⟩ := hSw; go_simp; try with_reducible rfl
      simp only [Act.put, List.setIfInBounds_toArray, List.set_cons_zero, List.set_cons_succ]
      refine late_take (i := 8) (some 6) rfl rfl (by kernel_rfl) (by kernel_rfl) (by kernel_rfl) (by kernel_rfl) (by kernel_rfl) (fun _ _ _ h => h) (by rfl) (v := ?v8nh) ?hy8nh hS2 ?rest8nh
      case hy8nh => intro w0 hSw; obtain ⟨a0, a1⟩ := hSw; go_simp; try with_reducible rfl
      simp only [Act.put, List.setIfInBounds_toArray, List.set_cons_zero, List.set_cons_succ]
      refine late_take (i := 9) (some 7) rfl rfl (by kernel_rfl) (by kernel_rfl) (by kernel_rfl) (by kernel_rfl) (by kernel_rfl) (fun _ _ _ h => h) (by rfl) (v := ?v9nh) ?hy9nh hS2 ?rest9nh
      case hy9nh => intro w0 hSw; obtain ⟨a0, a1⟩ := hSw; go_simp; try with_reducible rfl
      simp only [Act.put, List.setIfInBounds_toArray, List.set_cons_zero, List.set_cons_succ]
      refine late_done (by kernel_rfl) ?_ _
      refine NoPanic.normal ?_
      obtain ⟨y0, y1⟩ := hS2
      go_wp2_with (first | (go_at_call 27; (with_reducible refine (HRq.out _ _ _ HM2.out.low HX2.out).mono ?_); rintro e w3 ⟨rfl, hb⟩; have hb2 := below_new w3 (frmO K N); have HM3 := hid ((HM2.out.next hb).next hb2); clear y0 y1; obtain ⟨y0, y1, _, _⟩ := cells2 HM3.out.blk; clear hb hb2 HRq) | (go_at_call 26; (with_reducible refine (HSu.out _ HM3.out.low).mono ?_); rintro e w4 ⟨rfl, hb⟩; have HM4 := hid (HM3.out.next hb); clear hb HSu))
      go_ret
      exact ⟨rfl, HM4.out.low⟩
theorem fback_walk (fs : List (B × B)) (p : Option Addr) (n c : Nat) (hn : fs.length = n) (K N : Int) (w : World) (hF : FAt w p fs) (hsz : szB fs) (hnn : n + 1 ≤ 1048576) (hmx : MxL w) (hP : EnvP w) :
    Calls Tryd.prog 6 #[.slice p n c, .agg #[.int .i64 K, .int .i64 N]] w fun e w' => e = .returned (.bool true) ∧ Below w.heap.size w w' := by
  cases p with
  | none => exact fback_none fs n c hn K N w hF hsz hnn hmx hP
  | some ad => exact fback_some fs ad n c hn K N w hF hsz hnn hmx hP
end Go.Proofs.YthakldcfpndabaaDoor
