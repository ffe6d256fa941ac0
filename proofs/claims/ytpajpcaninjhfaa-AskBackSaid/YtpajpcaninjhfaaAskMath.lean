/- Layer 2's answers as plain functions: requests, their bytes, packed bits. No program in sight. -/
namespace Go.Proofs.Ytpajpcaninjhfaa.Ask
/-- A request. -/
structure Req where
  f : Nat
  at' : Nat
  many : Nat
  to : Nat
  words : List Nat
  bits : List Bool
deriving DecidableEq
structure Req.Wf (r : Req) : Prop where
  f : r.f < 256
  at' : r.at' < 65536
  many : r.many < 65536
  to : r.to < 65536
  words : ∀ x ∈ r.words, x < 65536
/-- A request of a function alone. -/
def bare (f : Nat) : Req := ⟨f, 0, 0, 0, [], []⟩
/-- What the requests of a function have. -/
structure Fld where
  many : Nat
  to : Bool
  bits : Nat
  words : Nat
def fld (f : Nat) : Option Fld :=
  if f = 1 ∨ f = 2 then some ⟨2000, false, 0, 0⟩
  else if f = 3 ∨ f = 4 then some ⟨125, false, 0, 0⟩
  else if f = 5 then some ⟨0, false, 1, 0⟩
  else if f = 6 then some ⟨0, false, 0, 1⟩
  else if f = 15 then some ⟨1968, false, 2, 0⟩
  else if f = 16 then some ⟨123, false, 0, 2⟩
  else if f = 23 then some ⟨125, true, 0, 3⟩
  else none
def fits (l n many : Nat) : Bool := if l = 1 then n == 1 else if l = 2 then n == many else if l = 3 then decide (1 ≤ n ∧ n ≤ 121) else n == 0
def Fld.right (f : Fld) (r : Req) : Bool := !(decide (f.many < r.many) || (r.many == 0 && decide (0 < f.many))) && ((f.to || r.to == 0) && fits f.bits r.bits.length r.many && fits f.words r.words.length r.many)
/-- Is a request right? -/
def right (r : Req) : Bool := match fld r.f with | some f => f.right r | none => false
def Fld.counted (f : Fld) : Bool := decide (2 ≤ f.bits) || decide (2 ≤ f.words)
end Go.Proofs.Ytpajpcaninjhfaa.Ask
