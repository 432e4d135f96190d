/- Plain functions on lists of bytes: the head of an element, numbers of several bytes. Nothing of the program is used here. -/
import Derived.Lib.Strings
namespace Go.Proofs.Ytiaghkngafajgaa
namespace Sp

/-- The number whose bytes these are, the highest first. -/
def num (l : List UInt8) : Nat := l.foldl (fun n b => 256 * n + b.toNat) 0

/-- P1.1: how many bytes tag and length are, how long the body is, the error. -/
def hd : List UInt8 → Nat × Nat × Nat
  | [] => (0, 0, 10)
  | t :: r =>
    if t.toNat % 32 = 31 then (0, 0, 14) else
    match r with
    | [] => (0, 0, 10)
    | b :: r =>
      if b.toNat < 128 then (2, b.toNat, 0)
      else if b.toNat = 128 ∨ 132 < b.toNat then (0, 0, 11)
      else if r.length < b.toNat - 128 then (0, 0, 10)
      else if 4000 < num (r.take (b.toNat - 128)) then (0, 0, 13)
      else (2 + (b.toNat - 128), num (r.take (b.toNat - 128)), 0)

end Sp
end Go.Proofs.Ytiaghkngafajgaa
