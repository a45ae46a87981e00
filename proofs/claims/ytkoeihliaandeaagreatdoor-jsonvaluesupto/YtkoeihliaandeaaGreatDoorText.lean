/- A text in quotation marks. -/
import Derived.Test.YtkoeihliaandeaaGreatDoorChar
namespace Go.Proofs.YtkoeihliaandeaaGreatDoor
open Go.RowKit

theorem encode_len (r : Int) : (Lib.encodeRune r).length ≤ 4 := by
  unfold Lib.encodeRune Lib.encodeRuneZ
  (repeat' split) <;> simp
set_option maxRecDepth 20000 in
theorem code_short {l u : B} {n : Nat} (h : code l = .ok n u) : u.length ≤ l.length := by
  unfold code at h
  cases hf : four 4 0 l with
  | err k v => rw [hf] at h; simp at h
  | ok c v =>
    rw [hf] at h
    simp only at h
    obtain ⟨_, hv, _, _⟩ := four_bound _ _ _ _ _ hf
    have hl : v.length ≤ l.length := by rw [hv, List.length_drop]; exact Nat.sub_le _ _
    split at h
    · simp at h
    · split at h
      · cases hg : lowHalf v with
        | err k x => rw [hg] at h; simp at h
        | ok m x =>
          rw [hg] at h
          simp at h
          unfold lowHalf at hg
          cases hs : seqSkip lowL v with
          | err k y => rw [hs] at hg; simp at hg
          | ok k y =>
            rw [hs] at hg
            simp only at hg
            obtain ⟨_, hx, _, _⟩ := four_bound _ _ _ _ _ hg
            rw [← h.2, hx]
            simp only [List.length_drop]
            exact Nat.le_trans (Nat.sub_le _ _) (Nat.le_trans (Nat.sub_le _ _) hl)
      · simp at h; rw [← h.2]; exact hl
theorem escape_short {l u : B} {n : Nat} (h : escape l = .ok n u) : u.length ≤ l.length := by
  cases l with
  | nil => simp [escape] at h
  | cons c t =>
    simp only [escape] at h
    split at h
    · simp at h; rw [← h.2]; simp
    · split at h
      · simp at h; rw [← h.2]; simp
      · split at h
        · simp at h; rw [← h.2]; simp
        · split at h
          · simp at h; rw [← h.2]; simp
          · split at h
            · simp at h; rw [← h.2]; simp
            · split at h
              · simp at h; rw [← h.2]; simp
              · split at h
                · have := code_short h; simp; omega
                · simp at h
theorem char_short {l u bs : B} (h : char l = .ok bs u) : u.length < l.length ∧ bs.length ≤ 4 := by
  cases l with
  | nil => simp [char] at h
  | cons c t =>
    simp only [char] at h
    split at h
    · simp at h
    · split at h
      · cases he : escape t with
        | err k v => rw [he] at h; simp at h
        | ok r v =>
          rw [he] at h
          simp only [Res.ok.injEq] at h
          have := escape_short he
          rw [← h.2, ← h.1]
          exact ⟨by simp; omega, encode_len _⟩
      · split at h
        · simp at h
        · next hu =>
          simp only [Res.ok.injEq] at h
          have h4 := (uni_decode (c :: t) (by simp)).2 hu
          have h5 := Lib.encode_decode (c :: t) (by simp) h4.2
          rw [h4.1] at h5
          rw [← h.2, ← h.1, ← h5]
          refine ⟨?_, encode_len _⟩
          rw [List.length_drop]
          simp
          omega
/-- A text or an error is answered, and where the reader stands. -/
def ToldT (r : Res B) (b : Nat) (s : ByteArray) (d : Nat) (w : World) (e : Ending) (w' : World) : Prop :=
  match r with
  | .ok bs t => e = .returned (.tuple #[.string ⟨bs.toArray⟩, .nilIface]) ∧ Rd w' b s t d ∧ Turn b w w' ∧ bs.length ≤ 4194304
  | .err k t => e = .returned (.tuple #[.string ⟨#[]⟩, errV k]) ∧ Rd w' b s t d ∧ Turn b w w'
theorem ToldT.yes {r : Res B} {bs t : B} {b : Nat} {s : ByteArray} {d : Nat} {w w' : World} {e : Ending} (h : ToldT r b s d w e w') (k : r = .ok bs t) : e = .returned (.tuple #[.string ⟨bs.toArray⟩, .nilIface]) ∧ Rd w' b s t d ∧ Turn b w w' ∧ bs.length ≤ 4194304 := by
  rw [k] at h; exact h
theorem ToldT.no {r : Res B} {t : B} {n : Nat} {b : Nat} {s : ByteArray} {d : Nat} {w w' : World} {e : Ending} (h : ToldT r b s d w e w') (k : r = .err n t) : e = .returned (.tuple #[.string ⟨#[]⟩, errV n]) ∧ Rd w' b s t d ∧ Turn b w w' := by
  rw [k] at h; exact h
/-- What stands already and what is to come. -/
def join (acc : B) : Res B → Res B
  | .ok cs v => .ok (acc ++ cs) v
  | .err k v => .err k v
theorem Turn.toGrown {b : Nat} {w w' : World} (h : Turn b w w') : w.grownBy w' (some b) := ⟨h.os, h.tape, h.output, h.size, fun k hk hne => h.block k hk (fun e => hne (by rw [e]))⟩
theorem Turn.grown {b : Nat} {w wr w' : World} {o : Option Nat} (h : Turn b w wr) (hg : wr.grownBy w' o) (ho : ∀ g, o = some g → w.heap.size ≤ g) : Turn b w w' :=
  ⟨hg.os.trans h.os, hg.tape.trans h.tape, hg.output.trans h.output, Nat.le_trans h.size hg.size, fun k hk hne => (hg.block k (Nat.lt_of_lt_of_le hk h.size) (fun e => by have := ho k e.symm; omega)).trans (h.block k hk hne)⟩
theorem str_cells (acc : B) : strOfNums (acc.map fun c => (c.toNat : Int)) = ⟨acc.toArray⟩ := by
  unfold strOfNums
  congr 2
  rw [List.map_map]
  conv => rhs; rw [← List.map_id acc]
  apply List.map_congr_left
  intro c _
  simp
theorem conv_own {w : World} {B0 : Nat} {v : Value} {acc : B} (h : w.ownsRowF B0 5 1 v acc.length (Lib.byteCells acc)) : (convert 55 9 v).run Tryz.prog w = .ok (.string ⟨acc.toArray⟩) w := by
  rcases h.2 with ⟨rfl, h0⟩ | ⟨g, cap, cur, fz, rfl, h1, h2, h3, h4, h5, h6, h7⟩
  · obtain rfl : acc = [] := List.eq_nil_of_length_eq_zero h0
    exact run_convert_bytes_nil w 55 5 (by kernel_rfl) (by kernel_rfl) 0 0 9 (by kernel_rfl)
  · rw [← str_cells]
    refine run_convert_bytes_arg w 55 5 (by kernel_rfl) (by kernel_rfl) g 0 acc.length cap _ (by simp) ?_ 9 (by kernel_rfl)
    intro i hi
    have := h.cells (g := g) rfl i (.int .u8 ((acc[i].toNat : Nat) : Int)) (by simp [Lib.byteCells, hi])
    have hadd : (⟨g, 0, none⟩ : Addr).add i = ⟨g, 0 + i, none⟩ := by unfold Addr.add; split <;> simp_all
    rw [hadd] at this
    rw [this]
    simp [List.getD, hi]
/-- The library's tables and errors lie where they were laid. -/
structure Env (w : World) : Prop where
  tabs : Tabs w
  syn : ∃ te pe, w.cell? ⟨3, 0, none⟩ = some (.iface te pe)
  rng : ∃ te pe, w.cell? ⟨4, 0, none⟩ = some (.iface te pe)
theorem lt_of_cell {w : World} {k o : Nat} {v : Value} (h : w.cell? ⟨k, o, none⟩ = some v) : k < w.heap.size := by
  unfold World.cell? at h
  cases e : w.heap[k]? with
  | none => simp [e] at h
  | some o => exact lt_of_heap e
theorem Env.lt {w : World} (h : Env w) : 5 ≤ w.heap.size := by
  have a := lt_of_cell (h.tabs.1 0 (by omega))
  have b := lt_of_cell (h.tabs.2 0 (by omega)).1
  obtain ⟨_, _, c⟩ := h.syn
  obtain ⟨_, _, d⟩ := h.rng
  have c := lt_of_cell c
  have d := lt_of_cell d
  omega
theorem Env.of_heap {w w' : World} (h : Env w) (e : ∀ k, k < 5 → w'.heap[k]? = w.heap[k]?) : Env w' := by
  have key : ∀ a : Addr, a.block < 5 → w'.cell? a = w.cell? a := fun a ha => World.cell?_of_block (e _ ha)
  refine ⟨⟨fun c hc => ?_, fun i hi => ⟨?_, ?_⟩⟩, ?_, ?_⟩
  · rw [key _ (by show 0 < 5; decide)]; exact h.tabs.1 c hc
  · rw [key _ (by show 1 < 5; decide)]; exact (h.tabs.2 i hi).1
  · rw [key _ (by show 1 < 5; decide)]; exact (h.tabs.2 i hi).2
  · obtain ⟨te, pe, c⟩ := h.syn; exact ⟨te, pe, by rw [key _ (by decide)]; exact c⟩
  · obtain ⟨te, pe, c⟩ := h.rng; exact ⟨te, pe, by rw [key _ (by decide)]; exact c⟩
theorem Env.turn {w w' : World} {b : Nat} (h : Env w) (t : Turn b w w') (hb : 5 ≤ b) : Env w' :=
  h.of_heap fun k hk => t.block k (Nat.lt_of_lt_of_le hk h.lt) (by omega)
theorem Env.below {w w' : World} (h : Env w) (t : Below w.heap.size w w') : Env w' :=
  h.of_heap fun k hk => t.block k (Nat.lt_of_lt_of_le hk h.lt)
/-- What holds ahead of a round of text. -/
structure Txt (w wr : World) (b : Nat) (s : ByteArray) (d : Nat) (t acc : B) (v : Value) : Prop where
  rd : Rd wr b s t d
  turn : Turn b w wr
  env : Env w
  ge : 5 ≤ b
  own : wr.ownsRowF w.heap.size 5 1 v acc.length (Lib.byteCells acc)
  most : acc.length + 4 * t.length ≤ 4 * s.size
  lt : b < w.heap.size
theorem Txt.next {w wr w' : World} {b : Nat} {s : ByteArray} {d : Nat} {t u acc : B} {v : Value} (h : Txt w wr b s d t acc v) (ht : Turn b wr w') (hr : Rd w' b s u d) (hl : u.length ≤ t.length) : Txt w w' b s d u acc v := by
  refine ⟨hr, h.turn.trans ht, h.env, h.ge, ?_, by have := h.most; omega, h.lt⟩
  refine h.own.kept ht.toGrown ?_
  rcases ho : v.ownBlock with _ | g
  · exact .inl rfl
  · right
    have := h.own.lt g ho
    have h2 := h.lt
    simp
    omega
theorem Txt.put {w wr w' : World} {b : Nat} {s : ByteArray} {d : Nat} {t u acc bs : B} {v v' : Value} {o : Obj} (h : Txt w wr b s d t acc v) (hm : acc.length + bs.length + 4 * u.length ≤ 4 * s.size) (hr : Rd wr b s u d)
    (ho : w'.ownsRowF w.heap.size 5 1 v' (acc.length + (Lib.byteCells bs).length) (Lib.byteCells acc ++ Lib.byteCells bs)) (hg : (wr.alloc o).grownBy w' v.ownBlock) : Txt w w' b s d u (acc ++ bs) v' := by
  have h1 : ∀ g, v.ownBlock = some g → w.heap.size ≤ g := fun g hg => (h.own.lt g hg).1
  have hb : ∀ k, k < wr.heap.size → some k ≠ v.ownBlock → w'.heap[k]? = wr.heap[k]? := fun k hk hne => by
    rw [hg.block k (by simp; omega) hne]
    exact (below_new wr o).block k hk
  refine ⟨hr.of_heap (hb b hr.lt ?_), (h.turn.alloc o).grown hg h1, h.env, h.ge, ?_, by simp; omega, h.lt⟩
  · intro e
    have := h1 b e.symm
    have := h.lt
    omega
  · rw [Lib.byteCells_append]
    rw [Lib.byteCells_length] at ho
    simpa using ho
theorem join_nil (r : Res B) : join [] r = r := by cases r <;> rfl
theorem join_join (a c : B) (r : Res B) : join a (join c r) = join (a ++ c) r := by cases r <;> simp [join]
set_option maxRecDepth 20000 in
set_option maxHeartbeats 4000000 in
theorem text_any {w : World} {b : Nat} {s : ByteArray} {l : B} {d : Nat} (h : Rd w b s l d) (hE : Env w) (hb : 5 ≤ b) (hms : s.size ≤ 1048576) (hl : ∃ l1, l = 34 :: l1) :
    Calls Tryz.prog 50 #[.pointer (some ⟨b, 0, none⟩)] w fun e w' => ToldT (text l) b s d w e w' := by
  obtain ⟨l1, rfl⟩ := hl
  obtain ⟨T, HT⟩ : ∃ T, Hid (text (34 :: l1) = T) := ⟨_, rfl⟩
  rw [HT.out]
  obtain ⟨p, hA⟩ := h.at
  have c1 := hA.c1
  have f1 := hA.fz 1
  have hle := hA.le
  have HX := hid hA.step
  have HS := hid (show (34 :: l1 : B).length ≤ s.size by have := hA.len; omega)
  have R0 := hid (show Txt w (w.setCell ⟨b, 1, none⟩ (.int .i64 ((p : Int) + 1))) b s d l1 [] (.slice none 0 0) from
    ⟨h.moved _ (by push_cast; rfl) HX.out.2 HX.out.1, (Turn.refl _ _).setCell _ _, hE, hb, World.ownsRowF_nil _ _ _ _, by have := HS.out; simp at this ⊢; omega, h.lt⟩)
  clear h hA hE
  go_enter Tryz.func50, Tryz.ntmps50
  go_wp2
  go_loopg [4] (l1.length + 1) (fun gk s4 wr => ∃ (t acc : B), t.length < gk ∧ join acc (chars gk t) = T ∧ Txt w wr b s d t acc s4)
  case atStart => exact ⟨l1, [], by omega, by rw [join_nil]; exact HT.out, R0.out⟩
  case round =>
    obtain ⟨t, acc, ht, hj, hx⟩ := hrel
    have H := hid hj
    have R1 := hid hx
    clear hj hx R0 c1 f1 HX
    cases gk with
    | zero => omega
    | succ f =>
      obtain ⟨X, hX⟩ : ∃ X : Nat, (nx t).toNat = X := ⟨_, rfl⟩
      have HX := hid hX
      by_cases h34 : nx t = 34
      · obtain rfl : X = 34 := by rw [← hX, h34]; rfl
        have hT : T = .ok acc (t.drop 1) := by
          rw [← H.out]
          simp only [chars]
          rw [if_pos h34]
          simp [join]
        cases t with
        | nil => simp [nx] at h34
        | cons c u =>
          obtain ⟨q, hA⟩ := R1.out.rd.at
          have c1 := hA.c1
          have f1 := hA.fz 1
          have hle2 := hA.le
          have HY := hid hA.step
          have HT2 := hid hT
          clear hA hT hX h34
          go_wp2_with (go_at_call 48; refine (next_any R1.out.rd).mono ?_; rintro e w' ⟨rfl, n, rfl⟩; rw [HX.out]; have R2 := hid (R1.out.next ((Turn.refl _ _).drewN n) (R1.out.rd.drewN n) (Nat.le_refl _)); have R3 := hid (show Txt w ((wr.drewN n).setCell ⟨b, 1, none⟩ (.int .i64 ((q : Int) + 1))) b s d u acc _ from R2.out.next ((Turn.refl _ _).setCell _ _) (R2.out.rd.moved _ (by push_cast; rfl) HY.out.2 HY.out.1) (by simp)); have hcv := conv_own R3.out.own)
          go_ret2
          rw [HT2.out]
          exact ⟨rfl, R3.out.rd, R3.out.turn, by have := R3.out.most; omega⟩
      · have hne : ((X : Int) == 34) = false := by
          simp only [beq_eq_false_iff_ne, ne_eq]
          intro e
          apply h34
          apply UInt8.toNat_inj.1
          rw [hX]
          show X = 34
          omega
        cases hc : char t with
        | err k u =>
          have HT2 : Hid (T = .err k u) := by unfold Hid; rw [← H.out]; simp only [chars]; rw [if_neg h34, hc]; rfl
          have HC := hid hc
          clear hc hX h34
          go_wp2_with (first
            | (go_at_call 48; refine (next_any R1.out.rd).mono ?_; rintro e w' ⟨rfl, n, rfl⟩; rw [HX.out]; have R2 := hid (R1.out.next ((Turn.refl _ _).drewN n) (R1.out.rd.drewN n) (Nat.le_refl _)))
            | (go_at_call 68; (with_reducible refine (char_any R2.out.rd (R2.out.env.turn R2.out.turn R2.out.ge).tabs).mono ?_); intro e w1 hq; rw [HC.out] at hq; obtain ⟨rfl, hz⟩ := hq; have R3 := hid hz; clear hz))
          go_ret2
          rw [HT2.out]
          exact ⟨rfl, R3.out.1, R2.out.turn.trans R3.out.2⟩
        | ok bs u =>
          have HC := hid hc
          have hsh := char_short hc
          have HH := hid (show join (acc ++ bs) (chars f u) = T from by
            rw [← H.out]
            simp only [chars]
            rw [if_neg h34, hc]
            simp only
            cases chars f u <;> simp [join])
          clear hc hX h34
          obtain ⟨s1, s2⟩ := hsh
          have HM2 := hid (show acc.length + bs.length + 4 * u.length ≤ 4 * s.size by have := R1.out.most; omega)
          have HM := hid (show acc.length + 4 ≤ 140737488355328 by have := R1.out.most; omega)
          go_wp2_with (first
            | (go_at_call 48; refine (next_any R1.out.rd).mono ?_; rintro e w' ⟨rfl, n, rfl⟩; rw [HX.out]; have R2 := hid (R1.out.next ((Turn.refl _ _).drewN n) (R1.out.rd.drewN n) (Nat.le_refl _)))
            | (go_at_call 68; (with_reducible refine (char_any R2.out.rd (R2.out.env.turn R2.out.turn R2.out.ge).tabs).mono ?_); intro e w1 hq; rw [HC.out] at hq; obtain ⟨rn, rfl, z1, z2, z3, z4⟩ := hq; have Z := hid (show (-2147483648 : Int) ≤ (rn : Int) ∧ (rn : Int) ≤ 2147483647 from ⟨by omega, by omega⟩); have R3 := hid (And.intro z1 (And.intro z2 (And.intro (R2.out.next (u := u) z4 z3 (by omega)) z3))); clear z1 z2 z3 z4)
            | (go_at_call 69; (with_reducible refine (Tryz.utf8_AppendRune_row w.heap.size _ acc.length _ (rn : Int) Z.out.1 Z.out.2 _ R3.out.2.2.1.own HM.out R3.out.2.2.1.turn.size).mono ?_); rintro e w2 ⟨v2, rfl, ho, ob, hg⟩; rw [← Lib.byteCells_encodeRune, R3.out.2.1] at ho; have R5 := hid (Txt.put (u := u) R3.out.2.2.1 HM2.out R3.out.2.2.2 ho hg); clear ho hg))
          go_roundg f
          case measure => omega
          case rel => exact ⟨u, acc ++ bs, by omega, HH.out, R5.out⟩
end Go.Proofs.YtkoeihliaandeaaGreatDoor
