/- What is read takes at least a byte. -/
import Derived.Test.YtkoeihliaandeaaGreatDoorNest
namespace Go.Proofs.YtkoeihliaandeaaGreatDoor

theorem word_short : ∀ (ws l : B) (x : Unit) (u : B), word ws l = .ok x u → u.length + ws.length = l.length
  | [], l, x, u, h => by
    simp only [word, Res.ok.injEq] at h
    rw [h.2]
    rfl
  | c :: ws, l, x, u, h => by
    cases l with
    | nil => simp [word] at h
    | cons y t =>
      simp only [word] at h
      split at h
      · have := word_short ws t x u h
        simp only [List.length_cons]
        omega
      · cases h
theorem chars_short : ∀ (f : Nat) (l bs u : B), chars f l = .ok bs u → u.length < l.length
  | 0, l, bs, u, h => by simp [chars] at h
  | f + 1, l, bs, u, h => by
    simp only [chars] at h
    split at h
    · rename_i h34
      obtain ⟨l1, rfl⟩ := name_head h34
      simp only [List.drop_succ_cons, List.drop_zero, Res.ok.injEq] at h
      rw [← h.2]
      simp
    · split at h
      · cases h
      · rename_i bs1 u1 hc
        have h1 := (char_short hc).1
        split at h
        · cases h
        · rename_i cs v hcs
          have := chars_short f u1 cs v hcs
          simp only [Res.ok.injEq] at h
          rw [← h.2]
          omega
theorem text_short {l bs u : B} (h : text l = .ok bs u) : u.length < l.length := by
  have := chars_short _ _ _ _ h
  simp only [List.length_drop] at this
  omega
theorem digits_short {l u : B} {x : Unit} (h : digits l = .ok x u) : u.length < l.length := by
  unfold digits at h
  split at h
  · cases h
  · rename_i t ht
    have h1 := skip_length ht
    have h2 := skips_le digitsL t
    simp only [Res.ok.injEq] at h
    rw [← h.2]
    omega
theorem skipD_le (S l : B) : (skipD S l).length ≤ l.length := by
  unfold skipD
  cases h : skip S l with
  | none => exact Nat.le_refl _
  | some t =>
    have := skip_length h
    simp only [Option.getD_some]
    omega
theorem numExp_short {l u : B} {x : Unit} (h : numExp l = .ok x u) : u.length ≤ l.length := by
  unfold numExp at h
  split at h
  · simp only [Res.ok.injEq] at h
    rw [h.2]
    exact Nat.le_refl _
  · rename_i t ht
    have h1 := skip_length ht
    have h2 := digits_short h
    have h3 := skipD_le [43, 45] t
    omega
theorem numFrac_short {l u : B} {x : Unit} (h : numFrac l = .ok x u) : u.length ≤ l.length := by
  unfold numFrac at h
  split at h
  · exact numExp_short h
  · rename_i t ht
    have h1 := skip_length ht
    split at h
    · rename_i v hv
      have h2 := digits_short hv
      have h3 := numExp_short h
      omega
    · cases h
theorem numHead_short {l u : B} {x : Unit} (h : numHead l = .ok x u) : u.length < l.length := by
  unfold numHead at h
  split at h
  · split at h
    · rename_i v hv
      have h2 := digits_short hv
      have h3 := numFrac_short h
      omega
    · cases h
  · rename_i t ht
    have h1 := skip_length ht
    have h3 := numFrac_short h
    omega
theorem number_short {l u : B} {x : Unit} (h : number l = .ok x u) : u.length < l.length := by
  unfold number at h
  split at h
  · cases h
  · have h1 := numHead_short h
    have h2 := skipD_le [45] l
    omega
def ShortV (f : B → Res JV) : Prop := ∀ l v u, f l = .ok v u → u.length < l.length
theorem list_short {f : B → Res JV} (h : ShortV f) : Short (listStep f) := by
  intro x l y u e
  unfold listStep at e
  split at e
  · cases e
  · rename_i v t ht
    have := h _ _ _ ht
    simp only [Res.ok.injEq] at e
    rw [← e.1, ← e.2]
    simp
    omega
theorem name_short {ns : List B} {l nm u : B} (h : nameS ns l = .ok nm u) : u.length < l.length := by
  unfold nameS at h
  split at h
  · cases h
  · split at h
    · cases h
    · rename_i bs v hv
      have h1 := text_short hv
      split at h
      · cases h
      · split at h
        · cases h
        · rename_i t ht
          have h2 : (skips blanksL v).length = t.length + 1 := skip_length ht
          have h3 := skips_le blanksL v
          have h4 := skips_le blanksL t
          simp only [Res.ok.injEq] at h
          rw [← h.2]
          show (skips blanksL t).length < l.length
          omega
theorem obj_short {f : B → Res JV} (h : ShortV f) : Short (objStep f) := by
  intro x l y u e
  unfold objStep at e
  split at e
  · cases e
  · rename_i nm t ht
    have h1 := name_short ht
    split at e
    · cases e
    · rename_i v t2 ht2
      have := h _ _ _ ht2
      simp only [Res.ok.injEq] at e
      rw [← e.1, ← e.2]
      simp
      omega
theorem parts_short {step : St → B → Res St} (hs : Short step) (ends : B) : ∀ (f : Nat) (x : St) (l : B) (y : St) (u : B), partsF step ends f x l = .ok y u → u.length < l.length
  | 0, x, l, y, u, h => by simp [partsF] at h
  | f + 1, x, l, y, u, h => by
    simp only [partsF] at h
    split at h
    · cases h
    · rename_i y1 u1 h1
      have a1 := (hs _ _ _ _ h1).1
      have a2 := skips_le blanksL u1
      split at h
      · rename_i t ht
        have a3 : (skips blanksL u1).length = t.length + 1 := skip_length ht
        simp only [Res.ok.injEq] at h
        rw [← h.2]
        omega
      · split at h
        · cases h
        · rename_i t ht
          have a3 : (skips blanksL u1).length = t.length + 1 := skip_length ht
          have a4 : u.length < (skips blanksL t).length := parts_short hs ends f _ _ _ _ h
          have a5 := skips_le blanksL t
          omega
theorem nested_short {step : St → B → Res St} (hs : Short step) (ends : B) {x y : St} {l u : B} (h : nestedS step ends x l = .ok y u) : u.length < l.length := by
  unfold nestedS at h
  have a2 := skips_le blanksL l
  split at h
  · rename_i t ht
    have a3 : (skips blanksL l).length = t.length + 1 := skip_length ht
    simp only [Res.ok.injEq] at h
    rw [← h.2]
    omega
  · have a4 : u.length < (skips blanksL l).length := parts_short hs ends _ _ _ _ _ h
    omega
theorem wordS_short {w : B} {v x : JV} {l u : B} (hw : 0 < w.length) (h : wordS w v l = .ok x u) : u.length < l.length := by
  unfold wordS at h
  split at h
  · cases h
  · rename_i y t ht
    have := word_short _ _ _ _ ht
    simp only [Res.ok.injEq] at h
    rw [← h.2]
    omega
theorem valWith_short {inner : Option (B → Res JV)} (hi : ∀ f, inner = some f → ShortV f) : ShortV (valWith inner) := by
  intro l v u h
  unfold valWith at h
  split at h
  · exact wordS_short (by decide) h
  split at h
  · exact wordS_short (by decide) h
  split at h
  · exact wordS_short (by decide) h
  split at h
  · split at h
    · cases h
    · rename_i bs t ht
      have := text_short ht
      simp only [Res.ok.injEq] at h
      rw [← h.2]
      omega
  split at h
  · split at h
    · cases h
    · rename_i f
      split at h
      · cases h
      · rename_i x t ht
        have := nested_short (list_short (hi f rfl)) _ ht
        simp only [List.length_drop] at this
        simp only [Res.ok.injEq] at h
        rw [← h.2]
        omega
  split at h
  · split at h
    · cases h
    · rename_i f
      split at h
      · cases h
      · rename_i x t ht
        have := nested_short (obj_short (hi f rfl)) _ ht
        simp only [List.length_drop] at this
        simp only [Res.ok.injEq] at h
        rw [← h.2]
        omega
  split at h
  · cases h
  · rename_i y t ht
    have := number_short ht
    simp only [Res.ok.injEq] at h
    rw [← h.2]
    omega
theorem val_short : ∀ n, ShortV (val n)
  | 0 => valWith_short (fun f h => by cases h)
  | n + 1 => valWith_short (fun f h => by cases h; exact val_short n)
end Go.Proofs.YtkoeihliaandeaaGreatDoor
namespace Go.Proofs.YtkoeihliaandeaaGreatDoor

theorem four_err : ∀ (k a : Nat) (l : B) (e : Nat) (u : B), four k a l = .err e u → e ≠ 0
  | 0, a, l, e, u, h => by simp [four] at h
  | k + 1, a, [], e, u, h => by
    simp only [four, Res.err.injEq] at h
    omega
  | k + 1, a, c :: t, e, u, h => by
    simp only [four] at h
    split at h
    · simp only [Res.err.injEq] at h
      omega
    · exact four_err k _ t e u h
theorem seq_err : ∀ (Ss : List B) (l : B) (e : Nat) (u : B), seqSkip Ss l = .err e u → e ≠ 0
  | [], l, e, u, h => by simp [seqSkip] at h
  | S :: T, l, e, u, h => by
    simp only [seqSkip] at h
    split at h
    · simp only [Res.err.injEq] at h
      omega
    · exact seq_err T _ e u h
theorem low_err {l u : B} {e : Nat} (h : lowHalf l = .err e u) : e ≠ 0 := by
  unfold lowHalf at h
  split at h
  · rename_i k v hk
    simp only [Res.err.injEq] at h
    rw [← h.1]
    exact seq_err _ _ _ _ hk
  · exact four_err _ _ _ _ _ h
theorem code_err {l u : B} {e : Nat} (h : code l = .err e u) : e ≠ 0 := by
  unfold code at h
  split at h
  · rename_i k v hk
    simp only [Res.err.injEq] at h
    rw [← h.1]
    exact four_err _ _ _ _ _ hk
  · split at h
    · simp only [Res.err.injEq] at h
      omega
    · split at h
      · split at h
        · rename_i k v hk
          simp only [Res.err.injEq] at h
          rw [← h.1]
          exact low_err hk
        · cases h
      · cases h
theorem escape_err {l u : B} {e : Nat} (h : escape l = .err e u) : e ≠ 0 := by
  cases l with
  | nil =>
    simp only [escape, Res.err.injEq] at h
    omega
  | cons c t =>
    simp only [escape] at h
    iterate 6
      split at h
      · cases h
    split at h
    · exact code_err h
    · simp only [Res.err.injEq] at h
      omega
theorem char_err {l u : B} {e : Nat} (h : char l = .err e u) : e ≠ 0 := by
  cases l with
  | nil =>
    simp only [char, Res.err.injEq] at h
    omega
  | cons c t =>
    simp only [char] at h
    split at h
    · simp only [Res.err.injEq] at h
      omega
    split at h
    · split at h
      · rename_i k v hk
        simp only [Res.err.injEq] at h
        rw [← h.1]
        exact escape_err hk
      · cases h
    split at h
    · simp only [Res.err.injEq] at h
      omega
    · cases h
theorem chars_err : ∀ (f : Nat) (l u : B) (e : Nat), l.length < f → chars f l = .err e u → e ≠ 0
  | 0, l, u, e, hf, _ => by omega
  | f + 1, l, u, e, hf, h => by
    simp only [chars] at h
    split at h
    · cases h
    · split at h
      · rename_i k v hk
        simp only [Res.err.injEq] at h
        rw [← h.1]
        exact char_err hk
      · rename_i bs v hv
        have := (char_short hv).1
        split at h
        · rename_i k v2 hk
          simp only [Res.err.injEq] at h
          rw [← h.1]
          exact chars_err f _ _ _ (by omega) hk
        · cases h
theorem text_err {l u : B} {e : Nat} (hl : nx l = 34) (h : text l = .err e u) : e ≠ 0 := by
  obtain ⟨l1, rfl⟩ := name_head hl
  exact chars_err _ _ _ _ (by simp) h
theorem word_err : ∀ (ws l : B) (u : B) (e : Nat), word ws l = .err e u → e ≠ 0
  | [], l, u, e, h => by simp [word] at h
  | c :: ws, l, u, e, h => by
    cases l with
    | nil =>
      simp only [word, Res.err.injEq] at h
      omega
    | cons y t =>
      simp only [word] at h
      split at h
      · exact word_err ws t u e h
      · simp only [Res.err.injEq] at h
        omega
theorem digits_err {l u : B} {e : Nat} (h : digits l = .err e u) : e ≠ 0 := by
  unfold digits at h
  split at h
  · simp only [Res.err.injEq] at h
    omega
  · cases h
theorem numExp_err {l u : B} {e : Nat} (h : numExp l = .err e u) : e ≠ 0 := by
  unfold numExp at h
  split at h
  · cases h
  · exact digits_err h
theorem numFrac_err {l u : B} {e : Nat} (h : numFrac l = .err e u) : e ≠ 0 := by
  unfold numFrac at h
  split at h
  · exact numExp_err h
  · split at h
    · exact numExp_err h
    · rename_i k v hk
      simp only [Res.err.injEq] at h
      rw [← h.1]
      exact digits_err hk
theorem number_err {l u : B} {e : Nat} (h : number l = .err e u) : e ≠ 0 := by
  unfold number at h
  split at h
  · simp only [Res.err.injEq] at h
    omega
  · unfold numParts numHead at h
    split at h
    · split at h
      · exact numFrac_err h
      · rename_i k v hk
        simp only [Res.err.injEq] at h
        rw [← h.1]
        exact digits_err hk
    · exact numFrac_err h
theorem name_err0 {ns : List B} {l u : B} {e : Nat} (h : nameS ns l = .err e u) : e ≠ 0 := by
  unfold nameS at h
  split at h
  · simp only [Res.err.injEq] at h
    omega
  · rename_i h34
    split at h
    · rename_i k v hk
      simp only [Res.err.injEq] at h
      rw [← h.1]
      exact text_err (by simpa using h34) hk
    · split at h
      · simp only [Res.err.injEq] at h
        omega
      · split at h
        · simp only [Res.err.injEq] at h
          omega
        · cases h
def ErrS (step : St → B → Res St) : Prop := ∀ x l e u, step x l = .err e u → e ≠ 0
def ErrV (f : B → Res JV) : Prop := ∀ l e u, f l = .err e u → e ≠ 0
theorem list_err {f : B → Res JV} (h : ErrV f) : ErrS (listStep f) := by
  intro x l e u he
  unfold listStep at he
  split at he
  · rename_i k v hk
    simp only [Res.err.injEq] at he
    rw [← he.1]
    exact h _ _ _ hk
  · cases he
theorem obj_err {f : B → Res JV} (h : ErrV f) : ErrS (objStep f) := by
  intro x l e u he
  unfold objStep at he
  split at he
  · rename_i k v hk
    simp only [Res.err.injEq] at he
    rw [← he.1]
    exact name_err0 hk
  · split at he
    · rename_i k v hk
      simp only [Res.err.injEq] at he
      rw [← he.1]
      exact h _ _ _ hk
    · cases he
theorem parts_err {step : St → B → Res St} (hs : Short step) (he : ErrS step) (ends : B) : ∀ (f : Nat) (x : St) (l u : B) (e : Nat), l.length < f → partsF step ends f x l = .err e u → e ≠ 0
  | 0, x, l, u, e, hf, _ => by omega
  | f + 1, x, l, u, e, hf, h => by
    simp only [partsF] at h
    split at h
    · rename_i k v hk
      simp only [Res.err.injEq] at h
      rw [← h.1]
      exact he _ _ _ _ hk
    · rename_i y v hv
      have a1 := (hs _ _ _ _ hv).1
      have a2 := skips_le blanksL v
      split at h
      · cases h
      · split at h
        · simp only [Res.err.injEq] at h
          omega
        · rename_i t ht
          have a3 : (skips blanksL v).length = t.length + 1 := skip_length ht
          have a4 := skips_le blanksL t
          exact parts_err hs he ends f _ _ _ _ (show (skips blanksL t).length < f by omega) h
theorem nested_err {step : St → B → Res St} (hs : Short step) (he : ErrS step) (ends : B) {x : St} {l u : B} {e : Nat} (h : nestedS step ends x l = .err e u) : e ≠ 0 := by
  unfold nestedS at h
  split at h
  · cases h
  · exact parts_err hs he ends _ _ _ _ _ (Nat.lt_succ_self _) h
theorem wordS_err {w : B} {v : JV} {l u : B} {e : Nat} (h : wordS w v l = .err e u) : e ≠ 0 := by
  unfold wordS at h
  split at h
  · rename_i k t hk
    simp only [Res.err.injEq] at h
    rw [← h.1]
    exact word_err _ _ _ _ hk
  · cases h
theorem valWith_err {inner : Option (B → Res JV)} (hi : ∀ f, inner = some f → ShortV f ∧ ErrV f) : ErrV (valWith inner) := by
  intro l e u h
  unfold valWith at h
  split at h
  · exact wordS_err h
  split at h
  · exact wordS_err h
  split at h
  · exact wordS_err h
  split at h
  · rename_i h34
    split at h
    · rename_i k t hk
      simp only [Res.err.injEq] at h
      rw [← h.1]
      exact text_err h34 hk
    · cases h
  split at h
  · split at h
    · simp only [Res.err.injEq] at h
      omega
    · rename_i f
      obtain ⟨h1, h2⟩ := hi f rfl
      split at h
      · rename_i k t hk
        simp only [Res.err.injEq] at h
        rw [← h.1]
        exact nested_err (list_short h1) (list_err h2) _ hk
      · cases h
  split at h
  · split at h
    · simp only [Res.err.injEq] at h
      omega
    · rename_i f
      obtain ⟨h1, h2⟩ := hi f rfl
      split at h
      · rename_i k t hk
        simp only [Res.err.injEq] at h
        rw [← h.1]
        exact nested_err (obj_short h1) (obj_err h2) _ hk
      · cases h
  split at h
  · rename_i k t hk
    simp only [Res.err.injEq] at h
    rw [← h.1]
    exact number_err hk
  · cases h
theorem val_err : ∀ n, ErrV (val n)
  | 0 => valWith_err (fun f h => by cases h)
  | n + 1 => valWith_err (fun f h => by cases h; exact ⟨val_short n, val_err n⟩)
end Go.Proofs.YtkoeihliaandeaaGreatDoor
