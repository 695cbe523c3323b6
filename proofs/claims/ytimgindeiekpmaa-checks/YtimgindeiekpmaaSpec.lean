import GoSem.Core.Value
namespace Go.Proofs.Ytimgindeiekpmaa.Wv

/-- The byte at place i, as a number; -1 at the end and behind it. -/
def pk (s : ByteArray) (i : Nat) : Int := if h : i < s.size then ((s[i]'h).toNat : Int) else -1

/-- Of a form (its letter in the text): the first and the last byte. -/
def klo (f : Int) : Int := if f = 110 then 97 else if f = 99 then 120 else if f = 107 then 109 else 48
def khi (f : Int) : Int := if f = 110 then 100 else if f = 99 then 122 else if f = 107 then 110 else 57
def kin (f c : Int) : Bool := decide (klo f ≤ c ∧ c ≤ khi f)
/-- What c is as that form; -1: it is none. -/
def letv (f c : Int) : Int := if kin f c then c - klo f else -1

/-- Of a sign: the forms that stand behind it. -/
def frm (c : Int) : List UInt8 :=
  if c = 61 ∨ c = 122 then [110, 100] else if c = 43 ∨ c = 45 then [110, 110] else if c = 114 then [110, 99] else if c = 119 then [99, 110]
  else if c = 108 ∨ c = 117 then [107] else if c = 106 then [100] else if c = 33 then [110] else []

/-- The place of the first byte that does not fit its form. -/
def scan (s : ByteArray) : List UInt8 → Nat → Option Nat
  | [], _ => none
  | f :: fs, i => if kin f.toNat (pk s i) then scan s fs (i + 1) else some i

/-- The place at which the step at i cannot go on. -/
def stepBad (s : ByteArray) (i : Nat) : Option Nat := if frm (pk s i) = [] then some i else scan s (frm (pk s i)) (i + 1)

def f0 (c : Int) : Int := ((frm c)[0]?.getD 0).toNat
def f1 (c : Int) : Int := ((frm c)[1]?.getD 0).toNat
/-- The step at i: what stands behind its sign, and the place of its last sign. -/
def stepA (s : ByteArray) (i : Nat) : Int := pk s (i + 1) - klo (f0 (pk s i))
def stepB (s : ByteArray) (i : Nat) : Int := if (frm (pk s i)).length = 2 then pk s (i + 2) - klo (f1 (pk s i)) else 0
def stepAt (s : ByteArray) (i : Nat) : Nat := i + (frm (pk s i)).length

/-- The step at i as the program keeps it: number, second, cell, lock, digit, place. -/
def cNum (s : ByteArray) (i : Nat) : Int :=
  if pk s i = 61 ∨ pk s i = 122 ∨ pk s i = 43 ∨ pk s i = 45 ∨ pk s i = 114 ∨ pk s i = 33 then stepA s i else if pk s i = 119 then stepB s i else 0
def cSec (s : ByteArray) (i : Nat) : Int := if pk s i = 43 ∨ pk s i = 45 then stepB s i else 0
def cCell (s : ByteArray) (i : Nat) : Int := if pk s i = 114 then stepB s i else if pk s i = 119 then stepA s i else 0
def cLock (s : ByteArray) (i : Nat) : Int := if pk s i = 108 ∨ pk s i = 117 then stepA s i else 0
def cDig (s : ByteArray) (i : Nat) : Int := if pk s i = 61 ∨ pk s i = 122 then stepB s i else if pk s i = 106 then stepA s i else 0
def cPl (s : ByteArray) (i : Nat) : Int := if pk s i = 61 ∨ pk s i = 122 ∨ pk s i = 106 then (stepAt s i : Int) else 0
def ccells (s : ByteArray) (i : Nat) : List Value :=
  [.int .u8 (pk s i), .int .u8 (cNum s i), .int .u8 (cSec s i), .int .u8 (cCell s i), .int .u8 (cLock s i), .int .u8 (cDig s i), .int .i64 (cPl s i)]
/-- .. and as the document's answer keeps it. -/
def rcells (s : ByteArray) (i : Nat) : List Value := [.int .u8 (pk s i), .int .i64 (stepA s i), .int .i64 (stepB s i), .int .i64 (stepAt s i : Int)]

/-- A thread's steps, as places; and the place behind them. n: how many more than one there may be. -/
def thr (s : ByteArray) : Nat → Nat → List Nat → Except Nat (List Nat × Nat)
  | 0, i, l =>
    match stepBad s i with
    | some p => .error p
    | none => if pk s (stepAt s i + 1) = -1 ∨ pk s (stepAt s i + 1) = 124 then .ok (l ++ [i], stepAt s i + 1) else .error (stepAt s i + 1)
  | n + 1, i, l =>
    match stepBad s i with
    | some p => .error p
    | none => if pk s (stepAt s i + 1) = -1 ∨ pk s (stepAt s i + 1) = 124 then .ok (l ++ [i], stepAt s i + 1)
      else if pk s (stepAt s i + 1) = 59 then thr s n (stepAt s i + 2) (l ++ [i]) else .error (stepAt s i + 1)

def thread (s : ByteArray) (i : Nat) : Except Nat (List Nat × Nat) := if pk s i = -1 ∨ pk s i = 124 then .ok ([], i) else thr s 7 i []

/-- The threads from place i on. n: how many more than one there may be. -/
def rd (s : ByteArray) : Nat → Nat → List (List Nat) → Except Nat (List (List Nat))
  | 0, i, L =>
    match thread s i with
    | .error p => .error p
    | .ok (l, j) => if pk s j = -1 then .ok (L ++ [l]) else .error j
  | n + 1, i, L =>
    match thread s i with
    | .error p => .error p
    | .ok (l, j) => if pk s j = -1 then .ok (L ++ [l]) else rd s n (j + 1) (L ++ [l])

def jumpBad (s : ByteArray) (len : Nat) (i : Nat) : Bool := (pk s i == 106 && decide ((len : Int) < stepA s i)) || (pk s i == 122 && decide ((len : Int) < stepB s i))
def jump1 (s : ByteArray) (len : Nat) : List Nat → Option Nat
  | [] => none
  | i :: r => if jumpBad s len i then some (stepAt s i) else jump1 s len r
def jumps (s : ByteArray) : List (List Nat) → Option Nat
  | [] => none
  | l :: r => match jump1 s l.length l with
    | some p => some p
    | none => jumps s r

/-- P3: the error's number and its place. -/
def chk (s : ByteArray) : Int × Nat :=
  if 150 < s.size then (1, 0) else
  match rd s 2 0 [] with
  | .error p => (2, p)
  | .ok L => match jumps s L with
    | some p => (3, p)
    | none => (0, 0)

end Go.Proofs.Ytimgindeiekpmaa.Wv
