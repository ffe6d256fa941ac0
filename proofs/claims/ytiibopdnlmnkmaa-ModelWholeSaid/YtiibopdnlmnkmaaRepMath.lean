/- Layer 3's answers as plain functions: replies, their kinds, their bytes. No program in sight. -/
import Derived.Test.YtiibopdnlmnkmaaAG8
namespace Go.Proofs.Ytiibopdnlmnkmaa.AskW
open Go.RowKit Go.Proofs.Ytiibopdnlmnkmaa Go.Proofs.Ytiibopdnlmnkmaa.Ask
/-- A reply. -/
structure Rep where
  f : Nat
  x : Nat
  bits : List Bool
  words : List Nat
  at' : Nat
  many : Nat
deriving DecidableEq
structure Rep.Wf (r : Rep) : Prop where
  f : r.f < 256
  x : r.x < 256
  words : ∀ y ∈ r.words, y < 65536
  at' : r.at' < 65536
  many : r.many < 65536
def rep0 : Rep := ⟨0, 0, [], [], 0, 0⟩
/-- The kinds of replies. -/
inductive Kd
  | exc | bitsR | wordsR | bitW | wordW
  | manyW (most : Nat)
deriving DecidableEq
def kdBy (f : Nat) : Option Kd :=
  if 128 ≤ f then some .exc
  else if f = 1 ∨ f = 2 then some .bitsR
  else if f = 3 ∨ f = 4 ∨ f = 23 then some .wordsR
  else if f = 5 then some .bitW
  else if f = 6 then some .wordW
  else if f = 15 then some (.manyW 1968)
  else if f = 16 then some (.manyW 123)
  else none
def kdOf (r : Rep) : Option Kd := if r.x ≠ 0 then some .exc else kdBy r.f
def Kd.right (k : Kd) (r : Rep) : Bool :=
  match k with
  | .exc => decide (r.f < 128) && (decide (1 ≤ r.x) && (decide (r.x ≤ 4) && (r.at' == 0 && (r.many == 0 && (r.bits == [] && r.words == [])))))
  | .bitsR => decide (8 ≤ r.bits.length) && (decide (r.bits.length ≤ 2000) && (r.bits.length % 8 == 0 && (r.x == 0 && (r.at' == 0 && (r.many == 0 && r.words == [])))))
  | .wordsR => decide (1 ≤ r.words.length) && (decide (r.words.length ≤ 125) && (r.x == 0 && (r.at' == 0 && (r.many == 0 && r.bits == []))))
  | .bitW => r.bits.length == 1 && (r.x == 0 && (r.many == 0 && r.words == []))
  | .wordW => r.words.length == 1 && (r.x == 0 && (r.many == 0 && r.bits == []))
  | .manyW most => decide (1 ≤ r.many) && (decide (r.many ≤ most) && (r.x == 0 && (r.bits == [] && r.words == [])))
/-- Is a reply right? -/
def rright (r : Rep) : Bool := match kdOf r with | some k => k.right r | none => false
def Kd.bytes (k : Kd) (r : Rep) : List Nat :=
  match k with
  | .exc => [(r.f + 128) % 256, r.x]
  | .bitsR => r.f :: (pack r.bits).length % 256 :: pack r.bits
  | .wordsR => r.f :: (twos r.words).length % 256 :: twos r.words
  | .bitW => r.f :: (two r.at' ++ two (if r.bits[0]?.getD false then 65280 else 0))
  | .wordW => r.f :: (two r.at' ++ two (r.words[0]?.getD 0))
  | .manyW _ => r.f :: (two r.at' ++ two r.many)
def rbytes (r : Rep) : List Nat := match kdOf r with | some k => k.bytes r | none => []
/-- The bytes, or the error. -/
def rbytesE (r : Rep) : List Nat × Int := if rright r then (rbytes r, 0) else ([], 13)
def Kd.read (k : Kd) (xs : List Nat) : Rep :=
  let f := xs[0]?.getD 0
  match k with
  | .exc => ⟨(f + 128) % 256, xs[1]?.getD 0, [], [], 0, 0⟩
  | .bitsR => ⟨f, 0, unpack (xs.drop 2), [], 0, 0⟩
  | .wordsR => ⟨f, 0, [], pairs (xs.drop 2), 0, 0⟩
  | .bitW => ⟨f, 0, [atF xs 3 == 65280], [], atF xs 1, 0⟩
  | .wordW => ⟨f, 0, [], [atF xs 3], atF xs 1, 0⟩
  | .manyW _ => ⟨f, 0, [], [], atF xs 1, atF xs 3⟩
/-- What bytes say. -/
def rparse (xs : List Nat) : Rep × Int :=
  if xs.length = 0 ∨ 253 < xs.length then (rep0, 13)
  else match kdBy (xs[0]?.getD 0) with
    | none => (rep0, 13)
    | some k => if k.right (k.read xs) && k.bytes (k.read xs) == xs then (k.read xs, 0) else (rep0, 13)
end Go.Proofs.Ytiibopdnlmnkmaa.AskW
