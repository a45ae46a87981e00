/- The program's reader of a head, as plain functions. -/
import Derived.Test.YtnlmjlfoeodleaaGreatDoorHByte
import Derived.Test.YtnlmjlfoeodleaaGreatDoorCTrim
import Derived.Test.YtnlmjlfoeodleaaGreatDoorCNum
namespace Go.Proofs.YtnlmjlfoeodleaaGreatDoor

/-- A reader of a head. -/
structure PS where
  resp : Bool
  most : Int
  taken : Nat
  err : Nat
  st : Nat
  part : B
  fn : B
  fv : B
  method : B
  target : B
  reason : B
  minor : Int
  status : Int
  fields : List (B × B)
def spoilP (t e : Nat) : PS := ⟨false, 0, t, e, 0, [], [], [], [], [], [], 0, 0, []⟩
def faultN (st : Nat) : Nat := if st ≤ 6 then 20 else 21
def minorOf (t : B) : Int := ((((t.getD 7 48).toNat + 208) % 256 : Nat) : Int)
def statusOf (t : B) : Int := numN 10 599 ⟨t.toArray⟩
def keepP (s : PS) : PS :=
  if s.st = 0 then { s with part := [], method := s.part }
  else if s.st = 1 then { s with part := [], target := s.part }
  else if s.st = 2 ∨ s.st = 3 then { s with part := [], minor := minorOf s.part }
  else if s.st = 4 then { s with part := [], status := statusOf s.part }
  else if s.st = 5 then { s with part := [], reason := s.part }
  else if s.st = 7 then { s with part := [], fn := s.part }
  else if s.st = 8 then { s with part := [], fv := trimL s.part }
  else { s with part := [] }
def rowP (s : PS) (c : UInt8) (may : Bool) (x : UInt8) (done : Bool) (next : Nat) : Option PS :=
  if c = x ∧ done = true then some { keepP s with st := next }
  else if may = true then some { s with part := s.part ++ [c] } else none
def endP (s : PS) (c : UInt8) (next : Nat) : Option PS :=
  if c = 10 then some { s with fields := if s.st = 9 then s.fields ++ [(s.fn, s.fv)] else s.fields, st := next } else none
def verAt (n : Nat) (c : UInt8) : Bool := if n < 7 then decide (ver0[n]? = some c) else decide (n < 8) && (decide (c = 48) || decide (c = 49))
def staAt (n : Nat) (c : UInt8) : Bool := if n = 0 then decide (49 ≤ c.toNat ∧ c.toNat ≤ 53) else decide (n < 3) && digB (c.toNat : Int)
def stepP (s : PS) (c : UInt8) : Option PS :=
  if s.st = 0 then rowP s c (clsB 0 c) 32 (decide (0 < s.part.length)) 1
  else if s.st = 1 then rowP s c (clsB 1 c) 32 (decide (0 < s.part.length)) 2
  else if s.st = 2 then rowP s c (verAt s.part.length c) 13 (decide (s.part.length = 8)) 6
  else if s.st = 3 then rowP s c (verAt s.part.length c) 32 (decide (s.part.length = 8)) 4
  else if s.st = 4 then rowP s c (staAt s.part.length c) 32 (decide (s.part.length = 3)) 5
  else if s.st = 5 then rowP s c (clsB 2 c) 13 true 6
  else if s.st = 6 then endP s c 7
  else if s.st = 7 then (if s.part.length = 0 ∧ c = 13 then some { s with st := 10 } else rowP s c (clsB 0 c) 58 (decide (0 < s.part.length)) 8)
  else if s.st = 8 then rowP s c (clsB 2 c) 13 true 9
  else if s.st = 9 then endP s c 7
  else if s.st = 10 then endP s c 11
  else none
def takeP (s : PS) (c : UInt8) : PS :=
  if s.most < (s.taken : Int) + 1 then spoilP (s.taken + 1) 22
  else match stepP { s with taken := s.taken + 1 } c with
    | none => spoilP (s.taken + 1) (faultN s.st)
    | some s' => if 64 < s'.fields.length then spoilP (s.taken + 1) 22 else s'
def endedP (s : PS) : Bool := decide (s.st = 11) || decide (s.err ≠ 0)
def feedP (s : PS) : B → PS
  | [] => s
  | c :: l => if endedP s = true then s else feedP (takeP s c) l
/-- How many bytes are taken. -/
def feedN (s : PS) : B → Nat
  | [] => 0
  | c :: l => if endedP s = true then 0 else feedN (takeP s c) l + 1
def newP (resp : Bool) (most : Int) : PS := ⟨resp, most, 0, 0, if resp then 3 else 0, [], [], [], [], [], [], 0, 0, []⟩
end Go.Proofs.YtnlmjlfoeodleaaGreatDoor
