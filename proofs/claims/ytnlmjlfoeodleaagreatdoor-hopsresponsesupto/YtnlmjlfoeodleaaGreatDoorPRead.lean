/- What is written is read: heads fed to the plain reader. -/
import Derived.Test.YtnlmjlfoeodleaaGreatDoorPRel
namespace Go.Proofs.YtnlmjlfoeodleaaGreatDoor

theorem feed_ended {s : PS} (h : endedP s = true) : ∀ l : B, feedP s l = s ∧ feedN s l = 0
  | [] => ⟨rfl, rfl⟩
  | c :: l => by unfold feedP feedN; rw [if_pos h, if_pos h]; exact ⟨rfl, rfl⟩
theorem feed_app : ∀ (a b : B) (s : PS), feedP s (a ++ b) = feedP (feedP s a) b
  | [], _, _ => rfl
  | c :: a, b, s => by
    rw [List.cons_append]
    cases h : endedP s with
    | true => rw [(feed_ended h _).1, (feed_ended h _).1, (feed_ended h _).1]
    | false =>
      have hn : ¬ endedP s = true := by rw [h]; simp
      rw [show feedP s (c :: (a ++ b)) = feedP (takeP s c) (a ++ b) from by rw [feedP, if_neg hn], show feedP s (c :: a) = feedP (takeP s c) a from by rw [feedP, if_neg hn]]
      exact feed_app a b _
theorem feedN_app : ∀ (a b : B) (s : PS), feedN s (a ++ b) = feedN s a + feedN (feedP s a) b
  | [], _, _ => by simp [feedN, feedP]
  | c :: a, b, s => by
    rw [List.cons_append]
    cases h : endedP s with
    | true => rw [(feed_ended h _).2, (feed_ended h _).2, (feed_ended h _).1, (feed_ended h _).2]
    | false =>
      have hn : ¬ endedP s = true := by rw [h]; simp
      rw [show feedN s (c :: (a ++ b)) = feedN (takeP s c) (a ++ b) + 1 from by rw [feedN, if_neg hn], show feedN s (c :: a) = feedN (takeP s c) a + 1 from by rw [feedN, if_neg hn], show feedP s (c :: a) = feedP (takeP s c) a from by rw [feedP, if_neg hn], feedN_app a b _]
      omega
theorem not_ended {s : PS} (h1 : s.st ≠ 11) (h2 : s.err = 0) : endedP s = false := by unfold endedP; simp [h1, h2]
theorem take_on {s s' : PS} {c : UInt8} (hm : (s.taken : Int) + 1 ≤ s.most) (hs : stepP { s with taken := s.taken + 1 } c = some s') (hf : s'.fields.length ≤ 64) : takeP s c = s' := by
  unfold takeP
  rw [if_neg (by omega), hs]
  dsimp only
  rw [if_neg (by omega)]
theorem feed_one {s s' : PS} {c : UInt8} (l : B) (h1 : s.st ≠ 11) (h2 : s.err = 0) (hm : (s.taken : Int) + 1 ≤ s.most) (hs : stepP { s with taken := s.taken + 1 } c = some s') (hf : s'.fields.length ≤ 64) : feedP s (c :: l) = feedP s' l := by
  rw [feedP, if_neg (by rw [not_ended h1 h2]; simp), take_on hm hs hf]
theorem feed_walk : ∀ (l : B) (s : PS), s.err = 0 → s.st ≠ 11 → s.fields.length ≤ 64 → (s.taken : Int) + l.length ≤ s.most → (∀ l1 c l2, l = l1 ++ c :: l2 → ∀ t, stepP { s with part := s.part ++ l1, taken := t } c = some { s with part := s.part ++ l1 ++ [c], taken := t }) → feedP s l = { s with part := s.part ++ l, taken := s.taken + l.length }
  | [], s, _, _, _, _, _ => by simp [feedP]
  | c :: l, s, he, h11, hf, hm, hs => by
    have h0 := hs [] c l rfl (s.taken + 1)
    rw [List.append_nil] at h0
    rw [List.length_cons] at hm
    rw [feed_one l h11 he (by omega) h0 hf]
    have ih := feed_walk l { s with part := s.part ++ [c], taken := s.taken + 1 } he h11 hf (by dsimp only; omega) (fun l1 d l2 e t => by
      have := hs (c :: l1) d l2 (by rw [e]; rfl) t
      simpa using this)
    rw [ih, List.length_cons]
    dsimp only
    rw [List.append_assoc, List.singleton_append, Nat.add_assoc, Nat.add_comm 1]
theorem walk_cls {k : Nat} {x : UInt8} {done : Nat → Bool} {next : Nat} {l : B} {s : PS} (hst : ∀ (p : B) (t : Nat) (c : UInt8), (p ++ [c]).length ≠ 0 → (s.part.length + p.length = 0 → c ≠ 13) → stepP { s with part := s.part ++ p, taken := t } c = rowP { s with part := s.part ++ p, taken := t } c (clsB k c) x (done (s.part ++ p).length) next) (hl : allB k l = true) (hx : ∀ y ∈ l, y ≠ x) (he : s.err = 0) (h11 : s.st ≠ 11) (hf : s.fields.length ≤ 64) (hm : (s.taken : Int) + l.length ≤ s.most) : feedP s l = { s with part := s.part ++ l, taken := s.taken + l.length } := by
  refine feed_walk l s he h11 hf hm (fun l1 c l2 e t => ?_)
  have hc : c ∈ l := by rw [e]; simp
  rw [hst l1 t c (by simp) (fun _ => (cls_ne (allB_mem hl c hc)).1)]
  exact row_on (fun h => hx c hc h.1) (allB_mem hl c hc)
/-- Fields that may stand in a head. -/
def fineF (fs : List (B × B)) : Prop := ∀ f ∈ fs, f.1 ≠ [] ∧ allB 0 f.1 = true ∧ allB 2 f.2 = true ∧ trimL f.2 = f.2
def fieldW (f : B × B) : B := f.1 ++ (58 :: 32 :: (f.2 ++ [13, 10]))
theorem trim_blank (v : B) : trimL (32 :: v) = trimL v := by
  unfold trimL
  rw [List.dropWhile_cons, if_pos (by decide)]
theorem val_all {q : B} (h : allB 2 q = true) : allB 2 (32 :: q) = true := by unfold allB at *; rw [List.all_cons, h]; decide
theorem val_ne {q : B} (h : allB 2 q = true) : ∀ y ∈ q, y ≠ 13 := fun y hy => (cls_ne (allB_mem h y hy)).1
theorem feed_field {s : PS} {f : B × B} (h7 : s.st = 7) (hp : s.part = []) (he : s.err = 0) (hf : s.fields.length < 64) (h1 : f.1 ≠ []) (h2 : allB 0 f.1 = true) (h3 : allB 2 f.2 = true) (h4 : trimL f.2 = f.2) (hm : (s.taken : Int) + (fieldW f).length ≤ s.most) :
    feedP s (fieldW f) = { s with fields := s.fields ++ [f], taken := s.taken + (fieldW f).length, fn := f.1, fv := f.2 } := by
  obtain ⟨n, v⟩ := f
  obtain ⟨resp, most, taken, err, st, part, fn, fv, method, target, reason, minor, status, fields⟩ := s
  dsimp only at h7 hp he hf h1 h2 h3 h4 hm ⊢
  subst h7 hp he
  unfold fieldW at hm ⊢
  dsimp only at hm ⊢
  simp only [List.length_append, List.length_cons, List.length_nil] at hm
  rw [feed_app]
  rw [walk_cls (k := 0) (x := 58) (done := fun n => decide (0 < n)) (next := 8) (l := n) (fun p t c _ hc => by
    rw [step_7 _ rfl]
    dsimp only
    rw [if_neg (fun h => hc (by simpa using h.1) h.2)]) h2 (tok_mem h2).2 rfl (by simp) (by dsimp only; omega) (by dsimp only; omega)]
  dsimp only
  rw [List.nil_append]
  rw [feed_one (c := 58) _ (by simp) rfl (by dsimp only; omega) (by
    rw [step_7 _ rfl]
    dsimp only
    rw [if_neg (by simp)]
    exact row_end rfl (by simp [pos_len h1])) (by rw [keep7 rfl]; dsimp only; omega)]
  rw [keep7 rfl]
  dsimp only
  rw [show (32 :: (v ++ [13, 10]) : B) = (32 :: v) ++ [13, 10] from rfl, feed_app]
  rw [walk_cls (k := 2) (x := 13) (done := fun _ => true) (next := 9) (l := 32 :: v) (fun p t c _ _ => by rw [step_8 _ rfl]) (val_all h3) (val_ne (val_all h3)) rfl (by simp) (by dsimp only; omega) (by simp only [List.length_cons]; omega)]
  dsimp only
  rw [List.nil_append]
  rw [feed_one (c := 13) _ (by simp) rfl (by simp only [List.length_cons]; omega) (by rw [step_8 _ rfl]; exact row_end rfl rfl) (by rw [keep8 rfl]; dsimp only; omega)]
  rw [keep8 rfl]
  dsimp only
  rw [feed_one (c := 10) _ (by simp) rfl (by simp only [List.length_cons]; omega) (by rw [step_9 _ rfl]; exact end_yes9 rfl rfl) (by simp; omega)]
  rw [feedP, trim_blank, h4]
  simp only [List.length_append, List.length_cons, List.length_nil]
  congr 1
  omega
theorem feed_fields : ∀ (fs : List (B × B)) (s : PS), s.st = 7 → s.part = [] → s.err = 0 → s.fields.length + fs.length ≤ 64 → fineF fs → (s.taken : Int) + (fs.flatMap fieldW).length ≤ s.most → ∃ n v, feedP s (fs.flatMap fieldW) = { s with fields := s.fields ++ fs, taken := s.taken + (fs.flatMap fieldW).length, fn := n, fv := v }
  | [], s, _, _, _, _, _, _ => ⟨s.fn, s.fv, by simp [feedP]⟩
  | f :: fs, s, h7, hp, he, hf, hfine, hm => by
    rw [List.flatMap_cons] at hm ⊢
    rw [List.length_append] at hm
    rw [List.length_cons] at hf
    obtain ⟨a, b, c, d⟩ := hfine f (by simp)
    rw [feed_app, feed_field h7 hp he (by omega) a b c d (by omega)]
    obtain ⟨n, v, e⟩ := feed_fields fs { s with fields := s.fields ++ [f], taken := s.taken + (fieldW f).length, fn := f.1, fv := f.2 } h7 hp he (by simp; omega) (fun x hx => hfine x (by simp [hx])) (by dsimp only; omega)
    refine ⟨n, v, ?_⟩
    rw [e]
    simp [Nat.add_assoc]
/-- A request's first line, and the whole head but for its last byte. -/
def firstQ (m t : B) (v : UInt8) : B := m ++ 32 :: (t ++ 32 :: [72, 84, 84, 80, 47, 49, 46, v])
def preW (first : B) (fs : List (B × B)) : B := first ++ (13 :: 10 :: (fs.flatMap fieldW ++ [13]))
theorem take_pre {v : B} {l1 l2 : B} {c : UInt8} (e : v = l1 ++ c :: l2) : v.take (l1.length + 1) = l1 ++ [c] := by rw [e, List.take_append, List.take_of_length_le (by omega)]; simp
theorem ver_pre {v l1 l2 : B} {c : UInt8} (hv : v = ver0 ∨ v = ver1) (e : v = l1 ++ c :: l2) : l1.length < 8 ∧ verP l1 ∧ verP (l1 ++ [c]) := by
  have h8 : v.length = 8 := by rcases hv with rfl | rfl <;> rfl
  have hl : l1.length < 8 := by have := congrArg List.length e; rw [h8] at this; simp at this; omega
  have e1 := take_pre e
  have e0 : v.take l1.length = l1 := by rw [e]; simp
  refine ⟨hl, ⟨by omega, ?_⟩, by simp; omega, ?_⟩
  · rcases hv with rfl | rfl
    · exact .inl e0
    · exact .inr e0
  · rw [List.length_append, List.length_singleton]
    rcases hv with rfl | rfl
    · exact .inl e1
    · exact .inr e1
theorem feed_ver {s : PS} {v : B} (h0 : s.st = 2 ∨ s.st = 3) (hp : s.part = []) (he : s.err = 0) (hf : s.fields.length ≤ 64) (hv : v = ver0 ∨ v = ver1) (hm : (s.taken : Int) + 8 ≤ s.most) : feedP s v = { s with part := v, taken := s.taken + 8 } := by
  have h8 : v.length = 8 := by rcases hv with rfl | rfl <;> rfl
  rw [feed_walk v s he (by omega) hf (by omega) ?_, hp, h8, List.nil_append]
  intro l1 c l2 e t
  rw [hp, List.nil_append]
  obtain ⟨hl, hv0, hv1⟩ := ver_pre hv e
  have hc := (ver_more hv0).2 hv1
  rcases h0 with h0 | h0
  · rw [step_2 _ (by exact h0)]
    exact row_on (fun h => by have := h.2; simp at this; omega) hc
  · rw [step_3 _ (by exact h0)]
    exact row_on (fun h => by have := h.2; simp at this; omega) hc
theorem feed_sta {s : PS} {d : B} (h0 : s.st = 4) (hp : s.part = []) (he : s.err = 0) (hf : s.fields.length ≤ 64) (hd : staP d) (hm : (s.taken : Int) + d.length ≤ s.most) : feedP s d = { s with part := d, taken := s.taken + d.length } := by
  rw [feed_walk d s he (by omega) hf (by omega) ?_, hp, List.nil_append]
  intro l1 c l2 e t
  rw [hp, List.nil_append]
  have hc : staAt l1.length c = true := hd.2 l1.length c (by rw [e]; simp)
  have hl : l1.length < 3 := by have := hd.1; rw [e] at this; simp at this; omega
  rw [step_4 _ (by exact h0)]
  exact row_on (fun h => by have := h.2; simp at this; omega) hc
/-- A request's head but for its last byte is read. -/
theorem feed_request {m t : B} {v : UInt8} {fs : List (B × B)} {most : Int} (hm1 : m ≠ []) (hm2 : allB 0 m = true) (ht1 : t ≠ []) (ht2 : allB 1 t = true) (hv : v = 48 ∨ v = 49) (hf : fineF fs) (hn : fs.length ≤ 64) (hl : ((preW (firstQ m t v) fs).length : Int) ≤ most) :
    ∃ s, feedP (newP false most) (preW (firstQ m t v) fs) = s ∧ s.st = 10 ∧ s.part = [] ∧ s.err = 0 ∧ s.resp = false ∧ s.most = most ∧ s.taken = (preW (firstQ m t v) fs).length ∧ s.method = m ∧ s.target = t ∧ s.minor = byteNum v ∧ s.fields = fs := by
  refine ⟨_, rfl, ?_⟩
  have hlen : (preW (firstQ m t v) fs).length = m.length + t.length + 13 + (fs.flatMap fieldW).length := by
    unfold preW firstQ
    simp only [List.length_append, List.length_cons, List.length_nil]
    omega
  rw [hlen] at hl ⊢
  have hvv : [72, 84, 84, 80, 47, 49, 46, v] = ver0 ∨ [72, 84, 84, 80, 47, 49, 46, v] = ver1 := by
    rcases hv with rfl | rfl
    · exact .inl rfl
    · exact .inr rfl
  have hmi : minorOf [72, 84, 84, 80, 47, 49, 46, v] = byteNum v := rfl
  unfold preW firstQ
  rw [List.append_assoc, feed_app]
  unfold newP
  rw [walk_cls (k := 0) (x := 32) (done := fun n => decide (0 < n)) (next := 1) (l := m) (fun p t c _ hc => by rw [step_0 _ rfl]) hm2 (tok_mem hm2).1 rfl (by simp) (by simp) (by dsimp only; omega)]
  dsimp only
  rw [List.nil_append, List.cons_append]
  rw [feed_one (c := 32) _ (by simp) rfl (by dsimp only; omega) (by rw [step_0 _ rfl]; exact row_end rfl (by simp [pos_len hm1])) (by rw [keep0 rfl]; simp)]
  rw [keep0 rfl]
  dsimp only
  rw [List.append_assoc, feed_app]
  rw [walk_cls (k := 1) (x := 32) (done := fun n => decide (0 < n)) (next := 2) (l := t) (fun p t c _ hc => by rw [step_1 _ rfl]) ht2 (vis_mem ht2) rfl (by simp) (by simp) (by dsimp only; omega)]
  dsimp only
  rw [List.nil_append, List.cons_append]
  rw [feed_one (c := 32) _ (by simp) rfl (by dsimp only; omega) (by rw [step_1 _ rfl]; exact row_end rfl (by simp [pos_len ht1])) (by rw [keep1 rfl]; simp)]
  rw [keep1 rfl]
  dsimp only
  rw [feed_app]
  rw [feed_ver (.inl rfl) rfl rfl (by simp) hvv (by dsimp only; omega)]
  dsimp only
  rw [feed_one (c := 13) _ (by simp) rfl (by dsimp only; omega) (by rw [step_2 _ rfl]; exact row_end rfl rfl) (by rw [keep2 (.inl rfl)]; simp)]
  rw [keep2 (.inl rfl)]
  dsimp only
  rw [feed_one (c := 10) _ (by simp) rfl (by dsimp only; omega) (by rw [step_6 _ rfl]; exact end_yes rfl (by simp)) (by simp)]
  dsimp only
  rw [feed_app]
  obtain ⟨n, x, e⟩ := feed_fields fs ⟨false, most, 0 + m.length + 1 + t.length + 1 + 8 + 1 + 1, 0, 7, [], [], [], m, t, [], minorOf [72, 84, 84, 80, 47, 49, 46, v], 0, []⟩ rfl rfl rfl (by simp; omega) hf (by dsimp only; omega)
  rw [e]
  dsimp only
  rw [List.nil_append]
  rw [feed_one (c := 13) _ (by simp) rfl (by dsimp only; omega) (by rw [step_7 _ rfl]; exact if_pos ⟨rfl, rfl⟩) (by dsimp only; omega)]
  rw [feedP]
  refine ⟨rfl, rfl, rfl, rfl, rfl, ?_, rfl, rfl, hmi, rfl⟩
  dsimp only
  omega
/-- A response's first line. -/
def firstP (v : UInt8) (d r : B) : B := [72, 84, 84, 80, 47, 49, 46, v] ++ 32 :: (d ++ 32 :: r)
theorem feed_response {d r : B} {v : UInt8} {fs : List (B × B)} {most : Int} (hd : staP d) (hd3 : d.length = 3) (hr : allB 2 r = true) (hv : v = 48 ∨ v = 49) (hf : fineF fs) (hn : fs.length ≤ 64) (hl : ((preW (firstP v d r) fs).length : Int) ≤ most) :
    ∃ s, feedP (newP true most) (preW (firstP v d r) fs) = s ∧ s.st = 10 ∧ s.part = [] ∧ s.err = 0 ∧ s.resp = true ∧ s.most = most ∧ s.taken = (preW (firstP v d r) fs).length ∧ s.status = statusOf d ∧ s.reason = r ∧ s.minor = byteNum v ∧ s.fields = fs := by
  refine ⟨_, rfl, ?_⟩
  have hlen : (preW (firstP v d r) fs).length = r.length + 16 + (fs.flatMap fieldW).length := by
    unfold preW firstP
    simp only [List.length_append, List.length_cons, List.length_nil]
    omega
  rw [hlen] at hl ⊢
  have hvv : [72, 84, 84, 80, 47, 49, 46, v] = ver0 ∨ [72, 84, 84, 80, 47, 49, 46, v] = ver1 := by
    rcases hv with rfl | rfl
    · exact .inl rfl
    · exact .inr rfl
  have hmi : minorOf [72, 84, 84, 80, 47, 49, 46, v] = byteNum v := rfl
  unfold preW firstP
  rw [List.append_assoc, feed_app]
  unfold newP
  simp only [if_true]
  rw [feed_ver (.inr rfl) rfl rfl (by simp) hvv (by dsimp only; omega)]
  dsimp only
  rw [List.cons_append]
  rw [feed_one (c := 32) _ (by simp) rfl (by dsimp only; omega) (by rw [step_3 _ rfl]; exact row_end rfl rfl) (by rw [keep2 (.inr rfl)]; simp)]
  rw [keep2 (.inr rfl)]
  dsimp only
  rw [List.append_assoc, feed_app]
  rw [feed_sta rfl rfl rfl (by simp) hd (by dsimp only; omega)]
  dsimp only
  rw [List.cons_append]
  rw [feed_one (c := 32) _ (by simp) rfl (by dsimp only; omega) (by rw [step_4 _ rfl]; exact row_end rfl (by simp [hd3])) (by rw [keep4 rfl]; simp)]
  rw [keep4 rfl]
  dsimp only
  rw [feed_app]
  rw [walk_cls (k := 2) (x := 13) (done := fun _ => true) (next := 6) (l := r) (fun p t c _ hc => by rw [step_5 _ rfl]) hr (val_ne hr) rfl (by simp) (by simp) (by dsimp only; omega)]
  dsimp only
  rw [List.nil_append]
  rw [feed_one (c := 13) _ (by simp) rfl (by dsimp only; omega) (by rw [step_5 _ rfl]; exact row_end rfl rfl) (by rw [keep5 rfl]; simp)]
  rw [keep5 rfl]
  dsimp only
  rw [feed_one (c := 10) _ (by simp) rfl (by dsimp only; omega) (by rw [step_6 _ rfl]; exact end_yes rfl (by simp)) (by simp)]
  dsimp only
  rw [feed_app]
  obtain ⟨n, x, e⟩ := feed_fields fs ⟨true, most, 0 + 8 + 1 + d.length + 1 + r.length + 1 + 1, 0, 7, [], [], [], [], [], r, minorOf [72, 84, 84, 80, 47, 49, 46, v], statusOf d, []⟩ rfl rfl rfl (by simp; omega) hf (by dsimp only; omega)
  rw [e]
  dsimp only
  rw [List.nil_append]
  rw [feed_one (c := 13) _ (by simp) rfl (by dsimp only; omega) (by rw [step_7 _ rfl]; exact if_pos ⟨rfl, rfl⟩) (by dsimp only; omega)]
  rw [feedP]
  refine ⟨rfl, rfl, rfl, rfl, rfl, ?_, rfl, rfl, hmi, rfl⟩
  dsimp only
  omega
/-- The last byte: the head is whole, or too large. -/
theorem feed_last {s : PS} (h10 : s.st = 10) (he : s.err = 0) (hf : s.fields.length ≤ 64) (hm : (s.taken : Int) + 1 ≤ s.most) : feedP s [10] = { s with st := 11, taken := s.taken + 1 } := by
  rw [feed_one (c := 10) (s' := { s with st := 11, taken := s.taken + 1 }) [] (by omega) he hm (by rw [step_10 _ (by exact h10)]; exact end_yes rfl (by show s.st ≠ 9; omega)) hf]
  rfl
theorem feed_large {s : PS} (h10 : s.st = 10) (he : s.err = 0) (hm : s.most < (s.taken : Int) + 1) : feedP s [10] = spoilP (s.taken + 1) 22 := by
  rw [feedP, if_neg (by rw [not_ended (by omega) he]; simp)]
  unfold takeP
  rw [if_pos hm, feedP]
/-- What the last byte tells of the state. -/
def LastR (s : PS) (p : Option UInt8) : Prop := (s.st = 6 ∨ s.st = 9 ∨ s.st = 10 → p = some 13) ∧ (s.st = 7 ∧ s.part = [] → p = some 10) ∧ s.st ≠ 3 ∧ s.st ≠ 4 ∧ s.st ≠ 5
theorem step_last {s s' : PS} {c : UInt8} {p : Option UInt8} (h : LastR s p) (hs : stepP s c = some s') : LastR s' (some c) := by
  obtain ⟨h1, h2, h3, h4, h5⟩ := h
  have row : ∀ {may done : Bool} {x : UInt8} {n : Nat}, rowP s c may x done n = some s' → (c = x ∧ s'.st = n) ∨ (s'.st = s.st ∧ s'.part = s.part ++ [c]) := by
    intro may done x n e
    unfold rowP at e
    split at e
    · rename_i hc; left; cases e; exact ⟨hc.1, rfl⟩
    · split at e
      · right; cases e; exact ⟨rfl, rfl⟩
      · cases e
  have en : ∀ {n : Nat}, endP s c n = some s' → c = 10 ∧ s'.st = n := by
    intro n e
    unfold endP at e
    split at e
    · rename_i hc; cases e; exact ⟨hc, rfl⟩
    · cases e
  unfold stepP at hs
  split at hs
  · rename_i h0
    rcases row hs with ⟨_, e⟩ | ⟨e, _⟩ <;> rw [h0] at * <;> refine ⟨?_, ?_, ?_, ?_, ?_⟩ <;> omega
  split at hs
  · rename_i h0
    rcases row hs with ⟨_, e⟩ | ⟨e, _⟩ <;> rw [h0] at * <;> refine ⟨?_, ?_, ?_, ?_, ?_⟩ <;> omega
  split at hs
  · rename_i h0
    rcases row hs with ⟨hc, e⟩ | ⟨e, _⟩
    · exact ⟨fun _ => by rw [hc], by omega, by omega, by omega, by omega⟩
    · rw [h0] at *; refine ⟨?_, ?_, ?_, ?_, ?_⟩ <;> omega
  split at hs
  · obtain ⟨hc, e⟩ := en hs
    exact ⟨by omega, fun _ => by rw [hc], by omega, by omega, by omega⟩
  split at hs
  · rename_i h0
    split at hs
    · rename_i hc
      cases hs
      exact ⟨fun _ => by rw [hc.2], by simp, by simp, by simp, by simp⟩
    · rcases row hs with ⟨hc, e⟩ | ⟨e, hp⟩
      · exact ⟨by omega, by omega, by omega, by omega, by omega⟩
      · exact ⟨by omega, fun h => by rw [hp] at h; simp at h, by omega, by omega, by omega⟩
  split at hs
  · rename_i h0
    rcases row hs with ⟨hc, e⟩ | ⟨e, _⟩
    · exact ⟨fun _ => by rw [hc], by omega, by omega, by omega, by omega⟩
    · exact ⟨by omega, by omega, by omega, by omega, by omega⟩
  split at hs
  · obtain ⟨hc, e⟩ := en hs
    exact ⟨by omega, fun _ => by rw [hc], by omega, by omega, by omega⟩
  split at hs
  · obtain ⟨hc, e⟩ := en hs
    exact ⟨by omega, by omega, by omega, by omega, by omega⟩
  · cases hs
theorem take_cases (s : PS) (c : UInt8) : (∃ e, e ≠ 0 ∧ takeP s c = spoilP (s.taken + 1) e) ∨ stepP { s with taken := s.taken + 1 } c = some (takeP s c) := by
  unfold takeP
  split
  · exact .inl ⟨22, by simp, rfl⟩
  · cases e : stepP { s with taken := s.taken + 1 } c with
    | none => left; exact ⟨faultN s.st, by unfold faultN; split <;> simp, rfl⟩
    | some s' =>
      dsimp only
      split
      · exact .inl ⟨22, by simp, rfl⟩
      · exact .inr rfl
theorem spoil_ended {t e : Nat} (h : e ≠ 0) : endedP (spoilP t e) = true := by unfold endedP spoilP; simp [h]
/-- Ahead of the end of a head that is read no byte spoils it, and the state fits the last byte. -/
theorem feed_lastR : ∀ (a : B) (s : PS) (p : Option UInt8), LastR s p → (feedP s a).err = 0 → endedP (feedP s a) = false → LastR (feedP s a) (if a = [] then p else a.getLast?)
  | [], s, p, h, _, _ => h
  | c :: a, s, p, h, he, hn => by
    cases hs : endedP s with
    | true => rw [(feed_ended hs _).1] at hn; rw [hs] at hn; cases hn
    | false =>
      have e1 : feedP s (c :: a) = feedP (takeP s c) a := by rw [feedP, if_neg (by rw [hs]; simp)]
      rw [e1] at he hn ⊢
      rcases take_cases s c with ⟨e, h0, e2⟩ | e2
      · rw [e2, (feed_ended (spoil_ended h0) a).1] at hn
        rw [spoil_ended h0] at hn; cases hn
      · have h3 : LastR (takeP s c) (some c) := step_last (s := { s with taken := s.taken + 1 }) (p := p) h e2
        have ih := feed_lastR a (takeP s c) (some c) h3 he hn
        rw [if_neg (by simp)]
        cases a with
        | nil => simpa using ih
        | cons d a => rw [if_neg (by simp)] at ih; rw [List.getLast?_cons_cons]; exact ih
theorem keep_taken (s : PS) : (keepP s).taken = s.taken := by
  by_cases h0 : s.st = 0
  · rw [keep0 h0]
  by_cases h1 : s.st = 1
  · rw [keep1 h1]
  by_cases h2 : s.st = 2 ∨ s.st = 3
  · rw [keep2 h2]
  by_cases h4 : s.st = 4
  · rw [keep4 h4]
  by_cases h5 : s.st = 5
  · rw [keep5 h5]
  by_cases h7 : s.st = 7
  · rw [keep7 h7]
  by_cases h8 : s.st = 8
  · rw [keep8 h8]
  unfold keepP
  rw [if_neg h0, if_neg h1, if_neg h2, if_neg h4, if_neg h5, if_neg h7, if_neg h8]
theorem row_taken {s s' : PS} {c x : UInt8} {may done : Bool} {n : Nat} (e : rowP s c may x done n = some s') : s'.taken = s.taken := by
  by_cases hx : c = x ∧ done = true
  · rw [row_end hx.1 hx.2] at e
    cases e
    exact keep_taken s
  · cases hm : may with
    | false => rw [row_no hx hm] at e; cases e
    | true => rw [row_on hx hm] at e; cases e; rfl
theorem end_taken {s s' : PS} {c : UInt8} {n : Nat} (e : endP s c n = some s') : s'.taken = s.taken := by
  unfold endP at e
  by_cases hc : c = 10
  · rw [if_pos hc] at e; cases e; rfl
  · rw [if_neg hc] at e; cases e
theorem step_taken {s s' : PS} {c : UInt8} (e : stepP s c = some s') : s'.taken = s.taken := by
  by_cases h0 : s.st = 0
  · rw [step_0 c h0] at e; exact row_taken e
  by_cases h1 : s.st = 1
  · rw [step_1 c h1] at e; exact row_taken e
  by_cases h2 : s.st = 2
  · rw [step_2 c h2] at e; exact row_taken e
  by_cases h3 : s.st = 3
  · rw [step_3 c h3] at e; exact row_taken e
  by_cases h4 : s.st = 4
  · rw [step_4 c h4] at e; exact row_taken e
  by_cases h5 : s.st = 5
  · rw [step_5 c h5] at e; exact row_taken e
  by_cases h6 : s.st = 6
  · rw [step_6 c h6] at e; exact end_taken e
  by_cases h7 : s.st = 7
  · rw [step_7 c h7] at e
    by_cases hc : s.part.length = 0 ∧ c = 13
    · rw [if_pos hc] at e; cases e; rfl
    · rw [if_neg hc] at e; exact row_taken e
  by_cases h8 : s.st = 8
  · rw [step_8 c h8] at e; exact row_taken e
  by_cases h9 : s.st = 9
  · rw [step_9 c h9] at e; exact end_taken e
  by_cases h10 : s.st = 10
  · rw [step_10 c h10] at e; exact end_taken e
  unfold stepP at e
  rw [if_neg h0, if_neg h1, if_neg h2, if_neg h3, if_neg h4, if_neg h5, if_neg h6, if_neg h7, if_neg h8, if_neg h9, if_neg h10] at e
  cases e
theorem feed_taken : ∀ (a : B) (s : PS), (feedP s a).taken = s.taken + feedN s a
  | [], s => rfl
  | c :: a, s => by
    cases hs : endedP s with
    | true => rw [(feed_ended hs _).1, (feed_ended hs _).2]; rfl
    | false =>
      have hn : ¬ endedP s = true := by rw [hs]; simp
      rw [show feedP s (c :: a) = feedP (takeP s c) a from by rw [feedP, if_neg hn], show feedN s (c :: a) = feedN (takeP s c) a + 1 from by rw [feedN, if_neg hn], feed_taken a]
      have : (takeP s c).taken = s.taken + 1 := by
        rcases take_cases s c with ⟨e, h0, e2⟩ | e2
        · rw [e2]; rfl
        · have := step_taken e2
          exact this
      omega
theorem feedN_le : ∀ (a : B) (s : PS), feedN s a ≤ a.length
  | [], _ => Nat.le_refl _
  | c :: a, s => by
    unfold feedN
    split
    · simp
    · have := feedN_le a (takeP s c); simp; omega
end Go.Proofs.YtnlmjlfoeodleaaGreatDoor
