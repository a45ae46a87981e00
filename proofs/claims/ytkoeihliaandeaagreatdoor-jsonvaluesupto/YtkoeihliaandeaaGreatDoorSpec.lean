/- Strict JSON as plain functions: what is read of a text, byte by byte, and where it can't go on. -/
import Derived.Lib.RuneBytes
import Derived.Lib.AtoiAll
import Derived.Lib.ValidU
namespace Go.Proofs.YtkoeihliaandeaaGreatDoor
abbrev B := List UInt8
/-- What was read and what is left; or an error's number and what is left at its place. -/
inductive Res (α : Type) where
  | ok (a : α) (l : B)
  | err (k : Nat) (l : B)
/-- The byte that comes next, or 0. -/
def nx (l : B) : UInt8 := l.headD 0
def skip (some : B) : B → Option B
  | [] => none
  | c :: l => if some.contains c then .some l else none
/-- Behind all bytes that are among some. -/
def skips (some : B) : B → B
  | [] => []
  | c :: l => if some.contains c then skips some l else c :: l
def blanksL : B := [32, 9, 10, 13]
def digitsL : B := [48, 49, 50, 51, 52, 53, 54, 55, 56, 57]
abbrev blanks (l : B) : B := skips blanksL l
/-- A word that must stand there. -/
def word : B → B → Res Unit
  | [], l => .ok () l
  | c :: ws, l => match l with
    | [] => .err 3 []
    | x :: t => if x = c then word ws t else .err 3 (x :: t)
def digits (l : B) : Res Unit := match skip digitsL l with
  | none => .err 3 l
  | some t => .ok () (skips digitsL t)
/-- Behind the next byte, if it is one of some. -/
def skipD (some : B) (l : B) : B := (skip some l).getD l
def numExp (l : B) : Res Unit := match skip [101, 69] l with
  | none => .ok () l
  | some t => digits (skipD [43, 45] t)
def numFrac (l : B) : Res Unit := match skip [46] l with
  | none => numExp l
  | some t => match digits t with
    | .ok _ u => numExp u
    | .err k u => .err k u
def numHead (l : B) : Res Unit := match skip [48] l with
  | none => match digits l with
    | .ok _ u => numFrac u
    | .err k u => .err k u
  | some t => numFrac t
def numParts (l : B) : Res Unit := numHead (skipD [45] l)
def Res.left {α : Type} : Res α → B
  | .ok _ l => l
  | .err _ l => l
/-- A number: of one that is too long the first byte too many is the place. -/
def number (l : B) : Res Unit := if 64 < l.length - (numParts l).left.length then .err 3 (l.drop 64) else numParts l
/-- What may go on UTF-8 behind its first byte: the least, the greatest, how many in all. -/
def lead (c : Nat) : Nat × Nat × Nat :=
  if 194 ≤ c ∧ c ≤ 223 then (128, 191, 1) else if c = 224 then (160, 191, 2) else if c = 237 then (128, 159, 2) else if 225 ≤ c ∧ c ≤ 239 then (128, 191, 2)
  else if c = 240 then (144, 191, 3) else if 241 ≤ c ∧ c ≤ 243 then (128, 191, 3) else if c = 244 then (128, 143, 3) else (0, 0, 0)
/-- The first of n bytes that can't go on. -/
def tailBad : Nat → Nat → Nat → B → Nat → Option Nat
  | 0, _, _, _, _ => none
  | _ + 1, _, _, [], i => some i
  | n + 1, lo, hi, x :: t, i => if x.toNat < lo ∨ hi < x.toNat then some i else tailBad n 128 191 t (i + 1)
/-- How many bytes are one character of UTF-8; or 0 and the place of the byte that can't go on. -/
def uni : B → Nat × Nat
  | [] => (0, 0)
  | c :: t => if c.toNat < 128 then (1, 0) else if (lead c.toNat).2.2 = 0 then (0, 0) else
    match tailBad (lead c.toNat).2.2 (lead c.toNat).1 (lead c.toNat).2.1 t 1 with
    | none => ((lead c.toNat).2.2 + 1, 0)
    | some i => (0, i)
def hexL : B := [48, 49, 50, 51, 52, 53, 54, 55, 56, 57, 97, 98, 99, 100, 101, 102, 65, 66, 67, 68, 69, 70]
/-- A hexadecimal digit's value. -/
def hexv (c : UInt8) : Option Nat :=
  if 48 ≤ c.toNat ∧ c.toNat ≤ 57 then some (c.toNat - 48) else if 97 ≤ c.toNat ∧ c.toNat ≤ 102 then some (c.toNat - 87) else if 65 ≤ c.toNat ∧ c.toNat ≤ 70 then some (c.toNat - 55) else none
/-- So many hexadecimal digits behind others that make a. -/
def four : Nat → Nat → B → Res Nat
  | 0, a, l => .ok a l
  | _ + 1, _, [] => .err 3 []
  | k + 1, a, c :: t => match hexv c with
    | none => .err 3 (c :: t)
    | some v => four k (a * 16 + v) t
def seqSkip : List B → B → Res Unit
  | [], l => .ok () l
  | S :: T, l => match skip S l with
    | none => .err 3 l
    | some t => seqSkip T t
def lowL : List B := [[92], [117], [100, 68], [99, 100, 101, 102, 67, 68, 69, 70]]
/-- The other half of a pair. -/
def lowHalf (l : B) : Res Nat := match seqSkip lowL l with
  | .err k u => .err k u
  | .ok _ _ => four 4 0 (l.drop 2)
/-- What stands behind a backslash and a u. -/
def code (l : B) : Res Nat := match four 4 0 l with
  | .err k u => .err k u
  | .ok c u => if 56320 ≤ c ∧ c < 57344 then .err 3 (l.drop 3) else if 55296 ≤ c ∧ c < 56320 then
      match lowHalf u with
      | .err k v => .err k v
      | .ok m v => .ok (65536 + (c - 55296) * 1024 + (m - 56320)) v
    else .ok c u
/-- What stands behind a backslash. -/
def escape : B → Res Nat
  | [] => .err 3 []
  | c :: t => if c = 34 ∨ c = 92 ∨ c = 47 then .ok c.toNat t else if c = 98 then .ok 8 t else if c = 102 then .ok 12 t else if c = 110 then .ok 10 t
    else if c = 114 then .ok 13 t else if c = 116 then .ok 9 t else if c = 117 then code t else .err 3 (c :: t)
/-- One character of a text: its bytes. -/
def char : B → Res B
  | [] => .err 3 []
  | c :: t => if c.toNat < 32 then .err 3 (c :: t) else if c = 92 then
      match escape t with
      | .err k u => .err k u
      | .ok r u => .ok (Lib.encodeRune r) u
    else if (uni (c :: t)).1 = 0 then .err 3 ((c :: t).drop (uni (c :: t)).2) else .ok ((c :: t).take (uni (c :: t)).1) ((c :: t).drop (uni (c :: t)).1)
def chars : Nat → B → Res B
  | 0, l => .err 0 l
  | f + 1, l => if nx l = 34 then .ok [] (l.drop 1) else match char l with
    | .err k u => .err k u
    | .ok bs u => match chars f u with
      | .err k v => .err k v
      | .ok cs v => .ok (bs ++ cs) v
/-- A text from its first quotation mark on. -/
def text (l : B) : Res B := chars l.length (l.drop 1)
end Go.Proofs.YtkoeihliaandeaaGreatDoor
namespace Go.Proofs.YtkoeihliaandeaaGreatDoor
/-- A value: its kind, truth, text, whole number, whether it is whole, its parts, its names. -/
inductive JV where
  | mk (kind : Int) (bool : Bool) (text : B) (int : Int) (whole : Bool) (list : List JV) (names : List B)
def JV.zero : JV := .mk 0 false [] 0 false [] []
/-- The value of a text that is a number. -/
def numV (t : B) : JV := match Lib.atoiAll t with
  | .ok v => .mk 3 false t v true [] []
  | _ => .mk 3 false t 0 false [] []
abbrev St := List B × List JV
section
variable {σ : Type}
def partsF (step : σ → B → Res σ) (ends : B) : Nat → σ → B → Res σ
  | 0, _, l => .err 0 l
  | f + 1, x, l => match step x l with
    | .err k u => .err k u
    | .ok y u => match skip ends (blanks u) with
      | some t => .ok y t
      | none => match skip [44] (blanks u) with
        | none => .err 3 (blanks u)
        | some t => partsF step ends f y (blanks t)
/-- A list or an object behind its first byte. -/
def nestedS (step : σ → B → Res σ) (ends : B) (x : σ) (l : B) : Res σ := match skip ends (blanks l) with
  | some t => .ok x t
  | none => partsF step ends ((blanks l).length + 1) x (blanks l)
end
def nameS (names : List B) (l : B) : Res B := if nx l ≠ 34 then .err 3 l else match text l with
  | .err k u => .err k u
  | .ok nm u => if names.contains nm then .err 6 l else match skip [58] (blanks u) with
    | none => .err 3 (blanks u)
    | some t => .ok nm (blanks t)
def listStep (inner : B → Res JV) (x : List B × List JV) (l : B) : Res (List B × List JV) := match inner l with
  | .err k u => .err k u
  | .ok v u => .ok (x.1, x.2 ++ [v]) u
def objStep (inner : B → Res JV) (x : List B × List JV) (l : B) : Res (List B × List JV) := match nameS x.1 l with
  | .err k u => .err k u
  | .ok nm u => match inner u with
    | .err k t => .err k t
    | .ok v t => .ok (x.1 ++ [nm], x.2 ++ [v]) t
def wordS (w : B) (v : JV) (l : B) : Res JV := match word w l with
  | .err k u => .err k u
  | .ok _ u => .ok v u
/-- A value; inner: what stands in lists and objects, if they may be. -/
def valWith (inner : Option (B → Res JV)) (l : B) : Res JV :=
  if nx l = 110 then wordS [110, 117, 108, 108] (.mk 1 false [] 0 false [] []) l
  else if nx l = 116 then wordS [116, 114, 117, 101] (.mk 2 true [] 0 false [] []) l
  else if nx l = 102 then wordS [102, 97, 108, 115, 101] (.mk 2 false [] 0 false [] []) l
  else if nx l = 34 then match text l with
    | .err k u => .err k u
    | .ok bs u => .ok (.mk 4 false bs 0 false [] []) u
  else if nx l = 91 then match inner with
    | none => .err 5 l
    | some f => match nestedS (listStep f) [93] ([], []) (l.drop 1) with
      | .err k u => .err k u
      | .ok x u => .ok (.mk 5 false [] 0 false x.2 x.1) u
  else if nx l = 123 then match inner with
    | none => .err 5 l
    | some f => match nestedS (objStep f) [125] ([], []) (l.drop 1) with
      | .err k u => .err k u
      | .ok x u => .ok (.mk 6 false [] 0 false x.2 x.1) u
  else match number l with
    | .err k u => .err k u
    | .ok _ u => .ok (numV (l.take (l.length - u.length))) u
def val : Nat → B → Res JV
  | 0 => valWith none
  | n + 1 => valWith (some (val n))
def whole (l : B) : Res JV := match val 32 (blanks l) with
  | .err k u => .err k u
  | .ok v u => if blanks u = [] then .ok v [] else .err 3 (blanks u)
/-- The value of a text, the place, the error's number. -/
def parse (l : B) : JV × Nat × Nat := if 1048576 < l.length then (.zero, 0, 2) else match whole l with
  | .ok v _ => (v, l.length, 0)
  | .err k u => (.zero, l.length - u.length, k)
end Go.Proofs.YtkoeihliaandeaaGreatDoor
namespace Go.Proofs.YtkoeihliaandeaaGreatDoor
def hexD (n : Nat) : UInt8 := UInt8.ofNat (if n < 10 then 48 + n else 87 + n)
/-- A byte in quotation marks. -/
def esc (c : UInt8) : B :=
  if c = 34 ∨ c = 92 then [92, c] else if c = 10 then [92, 110] else if c = 13 then [92, 114] else if c = 9 then [92, 116]
  else if c.toNat < 32 then [92, 117, 48, 48, hexD (c.toNat / 16), hexD (c.toNat % 16)] else [c]
def escs : B → B
  | [] => []
  | c :: l => esc c ++ escs l
def quoteB (s : B) : B := 34 :: (escs s ++ [34])
mutual
def sameV : JV → JV → Bool
  | .mk k b t n h ls ns, .mk k' b' t' n' h' ls' ns' => k == k' && (b == b' && (t == t' && (n == n' && (h == h' && (ns == ns' && sameL ls ls')))))
def sameL : List JV → List JV → Bool
  | [], [] => true
  | x :: xs, y :: ys => sameV x y && sameL xs ys
  | [], _ :: _ => false
  | _ :: _, [] => false
end
mutual
theorem sameV_iff : ∀ a b : JV, sameV a b = true ↔ a = b
  | .mk k b t n h ls ns, .mk k' b' t' n' h' ls' ns' => by
    simp only [sameV, Bool.and_eq_true, beq_iff_eq, JV.mk.injEq, sameL_iff ls ls']
    constructor
    · rintro ⟨h1, h2, h3, h4, h5, h6, h7⟩
      exact ⟨h1, h2, h3, h4, h5, h7, h6⟩
    · rintro ⟨h1, h2, h3, h4, h5, h7, h6⟩
      exact ⟨h1, h2, h3, h4, h5, h6, h7⟩
theorem sameL_iff : ∀ a b : List JV, sameL a b = true ↔ a = b
  | [], [] => by simp [sameL]
  | x :: xs, y :: ys => by simp only [sameL, Bool.and_eq_true, sameV_iff x y, sameL_iff xs ys, List.cons.injEq]
  | [], y :: ys => by simp [sameL]
  | x :: xs, [] => by simp [sameL]
end
theorem sameV_refl (a : JV) : sameV a a = true := (sameV_iff a a).2 rfl
/-- How deep a value is nested, up to a number. -/
def depthN : Nat → JV → Nat
  | 0, _ => 0
  | m + 1, .mk k _ _ _ _ ls _ => if k = 5 ∨ k = 6 then (ls.map (depthN m)).foldl max 0 + 1 else 0
/-- Is a text a number? -/
def isNum (t : B) : Bool := match number t with
  | .ok _ [] => true
  | _ => false
/-- May a value be but for its parts and for names that are there twice? -/
def formed : JV → Bool
  | .mk k b t n h ls ns =>
    if k = 1 then sameV (.mk k b t n h ls ns) (.mk k false [] 0 false [] [])
    else if k = 2 then sameV (.mk k b t n h ls ns) (.mk k b [] 0 false [] [])
    else if k = 3 then isNum t && sameV (.mk k b t n h ls ns) (numV t)
    else if k = 4 then Lib.validD t && sameV (.mk k b t n h ls ns) (.mk k false t 0 false [] [])
    else if k = 5 then sameV (.mk k b t n h [] ns) (.mk k false [] 0 false [] [])
    else if k = 6 then decide (ns.length = ls.length) && (ns.all Lib.validD && sameV (.mk k b t n h [] []) (.mk k false [] 0 false [] []))
    else false
/-- The names, each but once. -/
def once : List B → List B → List B
  | seen, [] => seen
  | seen, x :: l => once (if seen.contains x then seen else seen ++ [x]) l
def twice (ns : List B) : Bool := decide ((once [] ns).length < ns.length)
mutual
/-- What is wrong with a value: 0, 3 or 6. -/
def fault : JV → Nat
  | .mk k b t n h ls ns => if formed (.mk k b t n h ls ns) = false then 3 else faults (if twice ns then 6 else 0) ls
def faults : Nat → List JV → Nat
  | found, [] => found
  | found, x :: xs => if fault x = 3 then 3 else faults (if fault x = 0 then found else fault x) xs
end
def validN (v : JV) : Nat := if 32 < depthN 33 v then 5 else fault v
mutual
def printV : JV → B
  | .mk k b t _ _ ls ns =>
    if k = 1 then [110, 117, 108, 108]
    else if k = 2 then (if b then [116, 114, 117, 101] else [102, 97, 108, 115, 101])
    else if k = 3 then t
    else if k = 4 then quoteB t
    else if k = 5 then 91 :: (printL false true ls ns ++ [93])
    else if k = 6 then 123 :: (printL true true ls ns ++ [125])
    else []
def printL (o first : Bool) : List JV → List B → B
  | [], _ => []
  | x :: xs, ns => (if first then [] else [44]) ++ ((if o then quoteB (ns.headD []) ++ [58] else []) ++ (printV x ++ printL o false xs ns.tail))
end
/-- A value's text, or an error's number. -/
def printS (v : JV) : B × Nat := if validN v ≠ 0 then ([], validN v) else if 1048576 < (printV v).length then ([], 2) else (printV v, 0)
end Go.Proofs.YtkoeihliaandeaaGreatDoor
