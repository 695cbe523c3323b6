import GoSem.Core.Value
import Derived.Test.YtifidfgihpkgcaaRows
import Derived.WalkKit
import Derived.WalkSpells
import Derived.WalkLawsBesides
import Derived.BigQuiet
import Derived.BigRegion
import Derived.Laws.Closers25
import Derived.Deep.RegionWith
namespace Go.Proofs.Ytifidfgihpkgcaa.Wv

/-- The byte at place i, as a number; -1 at the end and behind it. -/
def pk (s : ByteArray) (i : Nat) : Int := if h : i < s.size then ((s[i]'h).toNat : Int) else -1

/-- Of a form (its letter in the text): the first and the last byte. -/
def klo (f : Int) : Int := if f = 110 then 97 else if f = 99 then 120 else if f = 107 then 109 else 48
def khi (f : Int) : Int := if f = 110 then 100 else if f = 99 then 122 else if f = 107 then 110 else 57
def kin (f c : Int) : Bool := decide (klo f ≤ c ∧ c ≤ khi f)
/-- What c is as that form; -1: it is none. -/
def letv (f c : Int) : Int := if kin f c then c - klo f else -1

/-- Of a sign: the forms that stand behind it. -/
def frm (c : Int) : List UInt8 :=
  if c = 61 ∨ c = 122 then [110, 100] else if c = 43 ∨ c = 45 then [110, 110] else if c = 114 then [110, 99] else if c = 119 then [99, 110]
  else if c = 108 ∨ c = 117 then [107] else if c = 106 then [100] else if c = 33 then [110] else []

/-- The place of the first byte that does not fit its form. -/
def scan (s : ByteArray) : List UInt8 → Nat → Option Nat
  | [], _ => none
  | f :: fs, i => if kin f.toNat (pk s i) then scan s fs (i + 1) else some i

/-- The place at which the step at i cannot go on. -/
def stepBad (s : ByteArray) (i : Nat) : Option Nat := if frm (pk s i) = [] then some i else scan s (frm (pk s i)) (i + 1)

def f0 (c : Int) : Int := ((frm c)[0]?.getD 0).toNat
def f1 (c : Int) : Int := ((frm c)[1]?.getD 0).toNat
/-- The step at i: what stands behind its sign, and the place of its last sign. -/
def stepA (s : ByteArray) (i : Nat) : Int := pk s (i + 1) - klo (f0 (pk s i))
def stepB (s : ByteArray) (i : Nat) : Int := if (frm (pk s i)).length = 2 then pk s (i + 2) - klo (f1 (pk s i)) else 0
def stepAt (s : ByteArray) (i : Nat) : Nat := i + (frm (pk s i)).length

/-- The step at i as the program keeps it: number, second, cell, lock, digit, place. -/
def cNum (s : ByteArray) (i : Nat) : Int :=
  if pk s i = 61 ∨ pk s i = 122 ∨ pk s i = 43 ∨ pk s i = 45 ∨ pk s i = 114 ∨ pk s i = 33 then stepA s i else if pk s i = 119 then stepB s i else 0
def cSec (s : ByteArray) (i : Nat) : Int := if pk s i = 43 ∨ pk s i = 45 then stepB s i else 0
def cCell (s : ByteArray) (i : Nat) : Int := if pk s i = 114 then stepB s i else if pk s i = 119 then stepA s i else 0
def cLock (s : ByteArray) (i : Nat) : Int := if pk s i = 108 ∨ pk s i = 117 then stepA s i else 0
def cDig (s : ByteArray) (i : Nat) : Int := if pk s i = 61 ∨ pk s i = 122 then stepB s i else if pk s i = 106 then stepA s i else 0
def cPl (s : ByteArray) (i : Nat) : Int := if pk s i = 61 ∨ pk s i = 122 ∨ pk s i = 106 then (stepAt s i : Int) else 0
def ccells (s : ByteArray) (i : Nat) : List Value :=
  [.int .u8 (pk s i), .int .u8 (cNum s i), .int .u8 (cSec s i), .int .u8 (cCell s i), .int .u8 (cLock s i), .int .u8 (cDig s i), .int .i64 (cPl s i)]
/-- .. and as the document's answer keeps it. -/
def rcells (s : ByteArray) (i : Nat) : List Value := [.int .u8 (pk s i), .int .i64 (stepA s i), .int .i64 (stepB s i), .int .i64 (stepAt s i : Int)]

/-- A thread's steps, as places; and the place behind them. n: how many more than one there may be. -/
def thr (s : ByteArray) : Nat → Nat → List Nat → Except Nat (List Nat × Nat)
  | 0, i, l =>
    match stepBad s i with
    | some p => .error p
    | none => if pk s (stepAt s i + 1) = -1 ∨ pk s (stepAt s i + 1) = 124 then .ok (l ++ [i], stepAt s i + 1) else .error (stepAt s i + 1)
  | n + 1, i, l =>
    match stepBad s i with
    | some p => .error p
    | none => if pk s (stepAt s i + 1) = -1 ∨ pk s (stepAt s i + 1) = 124 then .ok (l ++ [i], stepAt s i + 1)
      else if pk s (stepAt s i + 1) = 59 then thr s n (stepAt s i + 2) (l ++ [i]) else .error (stepAt s i + 1)

def thread (s : ByteArray) (i : Nat) : Except Nat (List Nat × Nat) := if pk s i = -1 ∨ pk s i = 124 then .ok ([], i) else thr s 7 i []

/-- The threads from place i on. n: how many more than one there may be. -/
def rd (s : ByteArray) : Nat → Nat → List (List Nat) → Except Nat (List (List Nat))
  | 0, i, L =>
    match thread s i with
    | .error p => .error p
    | .ok (l, j) => if pk s j = -1 then .ok (L ++ [l]) else .error j
  | n + 1, i, L =>
    match thread s i with
    | .error p => .error p
    | .ok (l, j) => if pk s j = -1 then .ok (L ++ [l]) else rd s n (j + 1) (L ++ [l])

def jumpBad (s : ByteArray) (len : Nat) (i : Nat) : Bool := (pk s i == 106 && decide ((len : Int) < stepA s i)) || (pk s i == 122 && decide ((len : Int) < stepB s i))
def jump1 (s : ByteArray) (len : Nat) : List Nat → Option Nat
  | [] => none
  | i :: r => if jumpBad s len i then some (stepAt s i) else jump1 s len r
def jumps (s : ByteArray) : List (List Nat) → Option Nat
  | [] => none
  | l :: r => match jump1 s l.length l with
    | some p => some p
    | none => jumps s r

/-- P3: the error's number and its place. -/
def chk (s : ByteArray) : Int × Nat :=
  if 150 < s.size then (1, 0) else
  match rd s 2 0 [] with
  | .error p => (2, p)
  | .ok L => match jumps s L with
    | some p => (3, p)
    | none => (0, 0)

end Go.Proofs.Ytifidfgihpkgcaa.Wv

set_option linter.unusedSimpArgs false
set_option linter.unusedVariables false
namespace Go.Proofs.Ytifidfgihpkgcaa
open Go.RowKit Wv

theorem letv_yes {f c lo hi : Int} (h1 : klo f = lo) (h2 : khi f = hi) (a : lo ≤ c) (b : c ≤ hi) : letv f c = c - lo := by
  subst h1; subst h2; simp [letv, kin, a, b]
theorem letv_lo {f c lo : Int} (h1 : klo f = lo) (a : ¬ lo ≤ c) : letv f c = -1 := by
  subst h1; simp [letv, kin, a]
theorem letv_hi {f c hi : Int} (h2 : khi f = hi) (b : ¬ c ≤ hi) : letv f c = -1 := by
  subst h2; simp [letv, kin, b]

set_option maxHeartbeats 1000000 in
theorem letter_any (f c : Int) (w : World) (h0 : 0 ≤ f) (h1 : f < 256) (h2 : 0 ≤ c) (h3 : c < 256) :
    Calls Try.prog 58 #[.int .u8 f, .int .u8 c] w fun e w' => e = .returned (.int .i64 (letv f c)) ∧ w' = w := by
  by_cases e : f = 110
  · subst e
    by_cases hlo : 97 ≤ c
    · by_cases hhi : c ≤ 100
      · rw [letv_yes (f := 110) rfl rfl hlo hhi]
        go_enter Try.func58, Try.ntmps58
        go_wp2
        go_ret
        exact ⟨rfl, rfl⟩
      · rw [letv_hi (f := 110) rfl hhi]
        go_enter Try.func58, Try.ntmps58
        go_wp2
        go_ret
        exact ⟨rfl, rfl⟩
    · rw [letv_lo (f := 110) rfl hlo]
      go_enter Try.func58, Try.ntmps58
      go_wp2
      go_ret
      exact ⟨rfl, rfl⟩
  have g110 : (f == 110) = false := by simpa using e
  have k110 := e
  clear e
  by_cases e : f = 99
  · subst e
    by_cases hlo : 120 ≤ c
    · by_cases hhi : c ≤ 122
      · rw [letv_yes (f := 99) rfl rfl hlo hhi]
        go_enter Try.func58, Try.ntmps58
        go_wp2
        go_ret
        exact ⟨rfl, rfl⟩
      · rw [letv_hi (f := 99) rfl hhi]
        go_enter Try.func58, Try.ntmps58
        go_wp2
        go_ret
        exact ⟨rfl, rfl⟩
    · rw [letv_lo (f := 99) rfl hlo]
      go_enter Try.func58, Try.ntmps58
      go_wp2
      go_ret
      exact ⟨rfl, rfl⟩
  have g99 : (f == 99) = false := by simpa using e
  have k99 := e
  clear e
  by_cases e : f = 107
  · subst e
    by_cases hlo : 109 ≤ c
    · by_cases hhi : c ≤ 110
      · rw [letv_yes (f := 107) rfl rfl hlo hhi]
        go_enter Try.func58, Try.ntmps58
        go_wp2
        go_ret
        exact ⟨rfl, rfl⟩
      · rw [letv_hi (f := 107) rfl hhi]
        go_enter Try.func58, Try.ntmps58
        go_wp2
        go_ret
        exact ⟨rfl, rfl⟩
    · rw [letv_lo (f := 107) rfl hlo]
      go_enter Try.func58, Try.ntmps58
      go_wp2
      go_ret
      exact ⟨rfl, rfl⟩
  have g107 : (f == 107) = false := by simpa using e
  have k107 := e
  clear e
  have k1 : klo f = 48 := by simp [klo, k110, k99, k107]
  have k2 : khi f = 57 := by simp [khi, k110, k99, k107]
  clear k110 k99 k107
  by_cases hlo : 48 ≤ c
  · by_cases hhi : c ≤ 57
    · rw [letv_yes k1 k2 hlo hhi]
      clear k1 k2
      go_enter Try.func58, Try.ntmps58
      go_wp2
      go_ret
      exact ⟨rfl, rfl⟩
    · rw [letv_hi k2 hhi]
      clear k1 k2
      go_enter Try.func58, Try.ntmps58
      go_wp2
      go_ret
      exact ⟨rfl, rfl⟩
  · rw [letv_lo k1 hlo]
    clear k1 k2
    go_enter Try.func58, Try.ntmps58
    go_wp2
    go_ret
    exact ⟨rfl, rfl⟩

set_option maxHeartbeats 400000 in
theorem forms_any (c : Int) (w : World) :
    Calls Try.prog 57 #[.int .u8 c] w fun e w' => e = .returned (.string ⟨(frm c).toArray⟩) ∧ w' = w := by
  go_enter Try.func57, Try.ntmps57
  go_wp2
  all_goals
    go_ret
    simp_all [frm]

set_option maxHeartbeats 400000 in
theorem num_any (n : Int) (w : World) :
    Calls Try.prog 8 #[.int .i64 n] w fun e w' => e = .returned (.int .i64 n) ∧ w' = w := by
  go_enter Try.func8, Try.ntmps8
  go_wp2
  go_ret
  exact ⟨rfl, rfl⟩

end Go.Proofs.Ytifidfgihpkgcaa

set_option linter.unusedSimpArgs false
set_option linter.unusedVariables false
namespace Go.Proofs.Ytifidfgihpkgcaa
open Go.RowKit Wv

/-- The reader's block: the text and the place. -/
structure RdAt (w : World) (b : Nat) (s : ByteArray) (i : Nat) : Prop where
  blk : w.heap[b]? = some (.cells #[.string s, .int .i64 (i : Int)] 86 (0, 0))

theorem RdAt.c0 {w : World} {b : Nat} {s : ByteArray} {i : Nat} (h : RdAt w b s i) : w.cell? ⟨b, 0, none⟩ = some (.string s) := by simp [World.cell?, h.blk]
theorem RdAt.c1 {w : World} {b : Nat} {s : ByteArray} {i : Nat} (h : RdAt w b s i) : w.cell? ⟨b, 1, none⟩ = some (.int .i64 (i : Int)) := by simp [World.cell?, h.blk]
theorem RdAt.f1 {w : World} {b : Nat} {s : ByteArray} {i : Nat} (h : RdAt w b s i) : w.frozen? ⟨b, 1, none⟩ = false := by simp [World.frozen?, h.blk]
theorem RdAt.lt {w : World} {b : Nat} {s : ByteArray} {i : Nat} (h : RdAt w b s i) : b < w.heap.size := lt_of_block h.blk

theorem pk_in {s : ByteArray} {i : Nat} (h : i < s.size) : pk s i = ((s[i]'h).toNat : Int) := by simp [pk, h]
theorem pk_out {s : ByteArray} {i : Nat} (h : ¬ i < s.size) : pk s i = -1 := by simp [pk, h]
theorem pk_range (s : ByteArray) (i : Nat) : -1 ≤ pk s i ∧ pk s i ≤ 255 := by
  by_cases h : i < s.size
  · rw [pk_in h]; have := (s[i]'h).toNat_lt; omega
  · rw [pk_out h]; omega

theorem drewN_two (w : World) (a b : Nat) : (w.drewN a).drewN b = w.drewN (a + b) := by simp [World.drewN, Nat.add_assoc]

set_option maxHeartbeats 400000 in
theorem peek_any (s : ByteArray) (i b : Nat) (w : World) (hb : RdAt w b s i) (hi : i ≤ s.size) (hs : s.size ≤ 150) :
    Calls Try.prog 39 #[.pointer (some ⟨b, 0, none⟩)] w fun e w' => e = .returned (.int .i64 (pk s i)) ∧ ∃ n, w' = w.drewN n := by
  have c0 := hb.c0
  have c1 := hb.c1
  clear hb
  by_cases hlt : i < s.size
  · have hne : (((i : Int)) == (s.size : Int)) = false := by simp; omega
    rw [pk_in hlt]
    go_enter Try.func39, Try.ntmps39
    go_wp2
    go_quiet (fail)
    go_wp2
    go_quiet (fail)
    go_wp2
    go_ret
    exact ⟨congrArg (fun x => Ending.returned (.int .i64 x)) (IntWalk.wrap64_in _ (by have := (s[i]'hlt).toNat_lt; omega)), _, drewN_two _ _ _⟩
  · have hne : (((i : Int)) == (s.size : Int)) = true := by simp; omega
    rw [pk_out hlt]
    go_enter Try.func39, Try.ntmps39
    go_wp2
    go_quiet (fail)
    go_wp2
    go_ret
    exact ⟨rfl, _, rfl⟩

/-- What the reader gives up with. -/
def refusal (e p : Int) : List PanicEntry := [{ v := .iface 83 (.agg #[.int .i64 e, .int .i64 p]), recovered := false }]

theorem grownBy_refl (w : World) (r : Option Nat) : w.grownBy w r := ⟨rfl, rfl, rfl, Nat.le_refl _, fun _ _ _ => rfl⟩
theorem grownBy_trans {w1 w2 w3 : World} {r : Option Nat} (a : w1.grownBy w2 r) (b : w2.grownBy w3 r) : w1.grownBy w3 r :=
  ⟨b.os.trans a.os, b.tape.trans a.tape, b.output.trans a.output, Nat.le_trans a.size b.size, fun k hk hr => (b.block k (Nat.lt_of_lt_of_le hk a.size) hr).trans (a.block k hk hr)⟩
theorem grownBy_drewN (w : World) (n : Nat) (r : Option Nat) : w.grownBy (w.drewN n) r := ⟨rfl, rfl, rfl, Nat.le_refl _, fun _ _ _ => rfl⟩
theorem grownBy_setCell (w : World) (b o : Nat) (v : Value) : w.grownBy (w.setCell ⟨b, o, none⟩ v) (some b) := by
  refine ⟨rfl, rfl, rfl, by simp [World.setCell], fun k hk hr => ?_⟩
  have : b ≠ k := fun e => hr (by rw [e])
  simp [World.setCell, Array.getElem?_modify, this]
theorem RdAt.set {w : World} {b : Nat} {s : ByteArray} {i : Nat} (h : RdAt w b s i) (j : Nat) (v : Int) (hv : v = j) : RdAt (w.setCell ⟨b, 1, none⟩ (.int .i64 v)) b s j := by
  subst hv
  exact ⟨by simp [World.setCell, Array.getElem?_modify, h.blk]⟩
theorem RdAt.kept {w w' : World} {b r : Nat} {s : ByteArray} {i : Nat} (h : RdAt w b s i) (hg : w.grownBy w' (some r)) (hne : b ≠ r) : RdAt w' b s i :=
  ⟨(hg.block b h.lt (fun e => hne (Option.some.inj e))).trans h.blk⟩
theorem RdAt.alloc {w : World} {b : Nat} {s : ByteArray} {i : Nat} (h : RdAt w b s i) (o : Obj) : RdAt (w.alloc o) b s i := ⟨(heap_alloc_old w o h.lt).trans h.blk⟩
theorem RdAt.drewN {w : World} {b : Nat} {s : ByteArray} {i : Nat} (h : RdAt w b s i) (n : Nat) : RdAt (w.drewN n) b s i := ⟨h.blk⟩

set_option maxHeartbeats 400000 in
theorem take_no (s : ByteArray) (i b : Nat) (lo hi : Int) (w : World) (hb : RdAt w b s i) (hi1 : i ≤ s.size) (hs : s.size ≤ 150) (h0 : 0 ≤ lo) (h1 : lo ≤ hi) (h2 : hi < 256)
    (hno : pk s i < lo ∨ hi < pk s i) :
    Calls Try.prog 66 #[.pointer (some ⟨b, 0, none⟩), .int .u8 lo, .int .u8 hi] w fun e w' => e = .panicked (refusal 2 i) ∧ w.grownBy w' (some b) := by
  have c0 := hb.c0
  have c1 := hb.c1
  have hr := pk_range s i
  have hp := peek_any s i b w hb hi1 hs
  generalize pk s i = p at *
  have HP : Hid _ := hp
  clear hp hb
  rcases hno with hno | hno
  · go_enter Try.func66, Try.ntmps66
    go_wp2_with (go_at_call 39; go_must (refine Calls.mono HP.out ?_; rintro e w1 ⟨rfl, n, rfl⟩))
    exact ⟨rfl, rfl, grownBy_drewN _ _ _⟩
  · go_enter Try.func66, Try.ntmps66
    go_wp2_with (go_at_call 39; go_must (refine Calls.mono HP.out ?_; rintro e w1 ⟨rfl, n, rfl⟩))
    exact ⟨rfl, rfl, grownBy_drewN _ _ _⟩

set_option maxHeartbeats 400000 in
theorem take_yes (s : ByteArray) (i b : Nat) (lo hi : Int) (w : World) (hb : RdAt w b s i) (hi1 : i ≤ s.size) (hs : s.size ≤ 150) (h0 : 0 ≤ lo) (h1 : lo ≤ hi) (h2 : hi < 256)
    (hlo : lo ≤ pk s i) (hhi : pk s i ≤ hi) :
    Calls Try.prog 66 #[.pointer (some ⟨b, 0, none⟩), .int .u8 lo, .int .u8 hi] w fun e w' => e = .returned (.int .u8 (pk s i - lo)) ∧ RdAt w' b s (i + 1) ∧ w.grownBy w' (some b) := by
  have c0 := hb.c0
  have c1 := hb.c1
  have fz := hb.f1
  have hr := pk_range s i
  have hp := peek_any s i b w hb hi1 hs
  generalize pk s i = p at *
  have HP : Hid _ := hp
  clear hp
  have HB : Hid _ := hb
  clear hb
  go_enter Try.func66, Try.ntmps66
  go_wp2_with (go_at_call 39; go_must (refine Calls.mono HP.out ?_; rintro e w1 ⟨rfl, n, rfl⟩))
  go_ret
  exact ⟨rfl, (HB.out.drewN n).set (i + 1) _ (by omega), grownBy_trans (grownBy_drewN _ n _) (grownBy_setCell _ _ _ _)⟩

set_option maxHeartbeats 400000 in
theorem takeNumber_no (s : ByteArray) (i b : Nat) (w : World) (hb : RdAt w b s i) (hi1 : i ≤ s.size) (hs : s.size ≤ 150) (hno : pk s i < 97 ∨ 100 < pk s i) :
    Calls Try.prog 59 #[.pointer (some ⟨b, 0, none⟩)] w fun e w' => e = .panicked (refusal 2 i) ∧ w.grownBy w' (some b) := by
  have HP : Hid _ := take_no s i b 97 100 w hb hi1 hs (by omega) (by omega) (by omega) hno
  clear hb hno
  go_enter Try.func59, Try.ntmps59
  go_wp2_with (go_at_call 66; go_must (refine Calls.mono HP.out ?_; rintro e w1 ⟨rfl, hg⟩))
  exact ⟨rfl, rfl, hg⟩

set_option maxHeartbeats 400000 in
theorem takeNumber_yes (s : ByteArray) (i b : Nat) (w : World) (hb : RdAt w b s i) (hi1 : i ≤ s.size) (hs : s.size ≤ 150) (hlo : 97 ≤ pk s i) (hhi : pk s i ≤ 100) :
    Calls Try.prog 59 #[.pointer (some ⟨b, 0, none⟩)] w fun e w' => e = .returned (.int .u8 (pk s i - 97)) ∧ RdAt w' b s (i + 1) ∧ w.grownBy w' (some b) := by
  have HP : Hid _ := take_yes s i b 97 100 w hb hi1 hs (by omega) (by omega) (by omega) hlo hhi
  clear hb hlo hhi
  generalize pk s i = p at *
  go_enter Try.func59, Try.ntmps59
  go_wp2_with (go_at_call 66; go_must (refine Calls.mono HP.out ?_; rintro e w1 ⟨rfl, hr, hg⟩))
  go_ret
  exact ⟨rfl, hr, hg⟩

set_option maxHeartbeats 400000 in
theorem takeCell_no (s : ByteArray) (i b : Nat) (w : World) (hb : RdAt w b s i) (hi1 : i ≤ s.size) (hs : s.size ≤ 150) (hno : pk s i < 120 ∨ 122 < pk s i) :
    Calls Try.prog 61 #[.pointer (some ⟨b, 0, none⟩)] w fun e w' => e = .panicked (refusal 2 i) ∧ w.grownBy w' (some b) := by
  have HP : Hid _ := take_no s i b 120 122 w hb hi1 hs (by omega) (by omega) (by omega) hno
  clear hb hno
  go_enter Try.func61, Try.ntmps61
  go_wp2_with (go_at_call 66; go_must (refine Calls.mono HP.out ?_; rintro e w1 ⟨rfl, hg⟩))
  exact ⟨rfl, rfl, hg⟩

set_option maxHeartbeats 400000 in
theorem takeCell_yes (s : ByteArray) (i b : Nat) (w : World) (hb : RdAt w b s i) (hi1 : i ≤ s.size) (hs : s.size ≤ 150) (hlo : 120 ≤ pk s i) (hhi : pk s i ≤ 122) :
    Calls Try.prog 61 #[.pointer (some ⟨b, 0, none⟩)] w fun e w' => e = .returned (.int .u8 (pk s i - 120)) ∧ RdAt w' b s (i + 1) ∧ w.grownBy w' (some b) := by
  have HP : Hid _ := take_yes s i b 120 122 w hb hi1 hs (by omega) (by omega) (by omega) hlo hhi
  clear hb hlo hhi
  generalize pk s i = p at *
  go_enter Try.func61, Try.ntmps61
  go_wp2_with (go_at_call 66; go_must (refine Calls.mono HP.out ?_; rintro e w1 ⟨rfl, hr, hg⟩))
  go_ret
  exact ⟨rfl, hr, hg⟩

set_option maxHeartbeats 400000 in
theorem takeLock_no (s : ByteArray) (i b : Nat) (w : World) (hb : RdAt w b s i) (hi1 : i ≤ s.size) (hs : s.size ≤ 150) (hno : pk s i < 109 ∨ 110 < pk s i) :
    Calls Try.prog 62 #[.pointer (some ⟨b, 0, none⟩)] w fun e w' => e = .panicked (refusal 2 i) ∧ w.grownBy w' (some b) := by
  have HP : Hid _ := take_no s i b 109 110 w hb hi1 hs (by omega) (by omega) (by omega) hno
  clear hb hno
  go_enter Try.func62, Try.ntmps62
  go_wp2_with (go_at_call 66; go_must (refine Calls.mono HP.out ?_; rintro e w1 ⟨rfl, hg⟩))
  exact ⟨rfl, rfl, hg⟩

set_option maxHeartbeats 400000 in
theorem takeLock_yes (s : ByteArray) (i b : Nat) (w : World) (hb : RdAt w b s i) (hi1 : i ≤ s.size) (hs : s.size ≤ 150) (hlo : 109 ≤ pk s i) (hhi : pk s i ≤ 110) :
    Calls Try.prog 62 #[.pointer (some ⟨b, 0, none⟩)] w fun e w' => e = .returned (.int .u8 (pk s i - 109)) ∧ RdAt w' b s (i + 1) ∧ w.grownBy w' (some b) := by
  have HP : Hid _ := take_yes s i b 109 110 w hb hi1 hs (by omega) (by omega) (by omega) hlo hhi
  clear hb hlo hhi
  generalize pk s i = p at *
  go_enter Try.func62, Try.ntmps62
  go_wp2_with (go_at_call 66; go_must (refine Calls.mono HP.out ?_; rintro e w1 ⟨rfl, hr, hg⟩))
  go_ret
  exact ⟨rfl, hr, hg⟩

set_option maxHeartbeats 400000 in
theorem takeDigit_no (s : ByteArray) (i b : Nat) (w : World) (hb : RdAt w b s i) (hi1 : i ≤ s.size) (hs : s.size ≤ 150) (hno : pk s i < 48 ∨ 57 < pk s i) :
    Calls Try.prog 60 #[.pointer (some ⟨b, 0, none⟩)] w fun e w' => e = .panicked (refusal 2 i) ∧ w.grownBy w' (some b) := by
  have HP : Hid _ := take_no s i b 48 57 w hb hi1 hs (by omega) (by omega) (by omega) hno
  clear hb hno
  go_enter Try.func60, Try.ntmps60
  go_wp2_with (go_at_call 66; go_must (refine Calls.mono HP.out ?_; rintro e w1 ⟨rfl, hg⟩))
  exact ⟨rfl, rfl, hg⟩

set_option maxHeartbeats 400000 in
theorem takeDigit_yes (s : ByteArray) (i b : Nat) (w : World) (hb : RdAt w b s i) (hi1 : i ≤ s.size) (hs : s.size ≤ 150) (hlo : 48 ≤ pk s i) (hhi : pk s i ≤ 57) :
    Calls Try.prog 60 #[.pointer (some ⟨b, 0, none⟩)] w fun e w' => e = .returned (.int .u8 (pk s i - 48)) ∧ RdAt w' b s (i + 1) ∧ w.grownBy w' (some b) := by
  have HP : Hid _ := take_yes s i b 48 57 w hb hi1 hs (by omega) (by omega) (by omega) hlo hhi
  clear hb hlo hhi
  generalize pk s i = p at *
  go_enter Try.func60, Try.ntmps60
  go_wp2_with (go_at_call 66; go_must (refine Calls.mono HP.out ?_; rintro e w1 ⟨rfl, hr, hg⟩))
  go_ret
  exact ⟨rfl, hr, hg⟩

end Go.Proofs.Ytifidfgihpkgcaa

namespace Go.Proofs.Ytifidfgihpkgcaa.Wv

/-- What comes of a thread that was read: the threads behind it. -/
def aft (s : ByteArray) (n : Nat) (L : List (List Nat)) : Except Nat (List Nat × Nat) → Except Nat (List (List Nat))
  | .error p => .error p
  | .ok (l, j) => if pk s j = -1 then .ok (L ++ [l]) else match n with
    | 0 => .error j
    | n + 1 => rd s n (j + 1) (L ++ [l])
/-- .. of the place behind a thread's steps, whatever stands there. -/
def beh (s : ByteArray) (n : Nat) (L : List (List Nat)) (l : List Nat) (j : Nat) : Except Nat (List (List Nat)) :=
  if pk s j = -1 then .ok (L ++ [l]) else if pk s j = 124 then match n with
    | 0 => .error j
    | n + 1 => rd s n (j + 1) (L ++ [l])
  else .error j

theorem rd_aft (s : ByteArray) (n i : Nat) (L : List (List Nat)) : rd s n i L = aft s n L (thread s i) := by
  cases n with
  | zero => rw [rd]; cases thread s i with
    | error p => rfl
    | ok x => rfl
  | succ n => rw [rd]; cases thread s i with
    | error p => rfl
    | ok x => rfl

theorem rd_none {s : ByteArray} {n i : Nat} {L : List (List Nat)} (h : pk s i = -1 ∨ pk s i = 124) : rd s n i L = beh s n L [] i := by
  rw [rd_aft, thread, if_pos h]
  rcases h with h | h
  · simp [aft, beh, h]
  · simp [aft, beh, h]
theorem rd_some {s : ByteArray} {n i : Nat} {L : List (List Nat)} (h : ¬ (pk s i = -1 ∨ pk s i = 124)) : rd s n i L = aft s n L (thr s 7 i []) := by
  rw [rd_aft, thread, if_neg h]

theorem thr_bad {s : ByteArray} {m i p : Nat} {l : List Nat} (h : stepBad s i = some p) : thr s m i l = .error p := by
  cases m <;> simp [thr, h]
theorem thr_go {s : ByteArray} {m i : Nat} {l : List Nat} (h : stepBad s i = none) (hp : pk s (stepAt s i + 1) = 59) : thr s (m + 1) i l = thr s m (stepAt s i + 2) (l ++ [i]) := by
  simp [thr, h, hp]
theorem aft_beh {s : ByteArray} {m n i : Nat} {l : List Nat} {L : List (List Nat)} (h : stepBad s i = none) (hp : pk s (stepAt s i + 1) ≠ 59 ∨ m = 0) :
    aft s n L (thr s m i l) = beh s n L (l ++ [i]) (stepAt s i + 1) := by
  by_cases h1 : pk s (stepAt s i + 1) = -1
  · cases m <;> simp [thr, h, h1, aft, beh]
  by_cases h2 : pk s (stepAt s i + 1) = 124
  · cases m <;> simp [thr, h, h2, aft, beh] <;> rfl
  have e : thr s m i l = .error (stepAt s i + 1) := by
    rcases hp with hp | hp
    · cases m <;> simp [thr, h, h1, h2, hp]
    · subst hp; simp [thr, h, h1, h2]
  rw [e]
  simp [aft, beh, h1, h2]
theorem beh_end {s : ByteArray} {n j : Nat} {l : List Nat} {L : List (List Nat)} (h : pk s j = -1) : beh s n L l j = .ok (L ++ [l]) := by simp [beh, h]
theorem beh_bar {s : ByteArray} {n j : Nat} {l : List Nat} {L : List (List Nat)} (h : pk s j = 124) : beh s (n + 1) L l j = rd s n (j + 1) (L ++ [l]) := by simp [beh, h]
theorem beh_bar0 {s : ByteArray} {j : Nat} {l : List Nat} {L : List (List Nat)} (h : pk s j = 124) : beh s 0 L l j = .error j := by simp [beh, h]
theorem beh_else {s : ByteArray} {n j : Nat} {l : List Nat} {L : List (List Nat)} (h : pk s j ≠ -1) (h' : pk s j ≠ 124) : beh s n L l j = .error j := by simp [beh, h, h']

theorem scan_le {s : ByteArray} : ∀ {fs : List UInt8} {i : Nat}, scan s fs i = none → ∀ k, k < fs.length → 0 ≤ pk s (i + k)
  | [], _, _, k, hk => by simp at hk
  | f :: fs, i, h, k, hk => by
    simp only [scan] at h
    split at h
    · rename_i hin
      cases k with
      | zero =>
        simp [kin] at hin
        have : 48 ≤ klo f.toNat := by unfold klo; split <;> (try split) <;> (try split) <;> omega
        simp; omega
      | succ k =>
        have := scan_le h k (by simpa using hk)
        rw [show i + (k + 1) = i + 1 + k from by omega]; exact this
    · cases h

end Go.Proofs.Ytifidfgihpkgcaa.Wv

namespace Go.Proofs.Ytifidfgihpkgcaa.Wv

theorem flatMap_get {cel : Nat → List Value} {sz : Nat} (hlen : ∀ i, (cel i).length = sz) : ∀ (l : List Nat) (k : Nat) (hk : k < l.length) (j : Nat), j < sz → (l.flatMap cel)[k * sz + j]? = (cel l[k])[j]?
  | [], k, hk, _, _ => by simp at hk
  | x :: l, 0, hk, j, hj => by simp only [List.flatMap_cons]; rw [List.getElem?_append_left (by rw [hlen]; omega)]; simp
  | x :: l, k + 1, hk, j, hj => by
    simp only [List.flatMap_cons]
    rw [List.getElem?_append_right (by rw [hlen, Nat.add_mul]; omega), hlen]
    rw [show (k + 1) * sz + j - sz = k * sz + j from by rw [Nat.add_mul]; omega]
    rw [flatMap_get hlen l k (by simpa using hk) j hj]
    simp

theorem kdiff {f c : Int} (h : kin f c = true) : 0 ≤ c - klo f ∧ c - klo f ≤ 9 := by
  simp [kin] at h
  have : khi f - klo f ≤ 9 := by unfold khi klo; split <;> (try split) <;> (try split) <;> omega
  omega

theorem scan0 {s : ByteArray} {f : UInt8} {fs : List UInt8} {i : Nat} (h : scan s (f :: fs) i = none) : kin f.toNat (pk s i) = true ∧ scan s fs (i + 1) = none := by
  simp only [scan] at h
  split at h
  · exact ⟨by assumption, h⟩
  · cases h

/-- A step that was read: its numbers are digits. -/
theorem good_bounds {s : ByteArray} {i : Nat} (h : stepBad s i = none) : (0 ≤ stepA s i ∧ stepA s i ≤ 9) ∧ (0 ≤ stepB s i ∧ stepB s i ≤ 9) := by
  unfold stepBad at h
  split at h
  · cases h
  · unfold stepA stepB f0 f1
    cases hf : frm (pk s i) with
    | nil => rename_i hne; exact absurd hf hne
    | cons f fs =>
      rw [hf] at h
      obtain ⟨h1, h2⟩ := scan0 h
      refine ⟨?_, ?_⟩
      · simpa using kdiff h1
      · cases fs with
        | nil => simp
        | cons g gs =>
          obtain ⟨h3, h4⟩ := scan0 h2
          cases gs with
          | nil => simpa using kdiff h3
          | cons _ _ => simp
theorem good_dig {s : ByteArray} {i : Nat} (h : stepBad s i = none) : 0 ≤ cDig s i ∧ cDig s i ≤ 9 := by
  have := good_bounds h
  unfold cDig
  split
  · omega
  · split <;> omega

theorem thr_good {s : ByteArray} : ∀ {m i j : Nat} {l l' : List Nat}, thr s m i l = .ok (l', j) → (∀ x ∈ l, stepBad s x = none) → (∀ x ∈ l', stepBad s x = none) ∧ l'.length ≤ l.length + m + 1
  | m, i, j, l, l', h, hl => by
    cases hb : stepBad s i with
    | some p => cases m <;> simp [thr, hb] at h
    | none =>
      have hl' : ∀ x ∈ l ++ [i], stepBad s x = none := by
        intro x hx
        rcases List.mem_append.1 hx with hx | hx
        · exact hl x hx
        · simp at hx; subst hx; exact hb
      cases m with
      | zero =>
        simp only [thr, hb] at h
        split at h
        · simp at h; rw [← h.1]; exact ⟨hl', by simp⟩
        · cases h
      | succ m =>
        simp only [thr, hb] at h
        split at h
        · simp at h; rw [← h.1]; exact ⟨hl', by simp <;> omega⟩
        · split at h
          · have := thr_good (m := m) h hl'
            refine ⟨this.1, ?_⟩
            have h2 := this.2
            simp at h2
            omega
          · cases h

theorem thread_good {s : ByteArray} {i j : Nat} {l : List Nat} (h : thread s i = .ok (l, j)) : (∀ x ∈ l, stepBad s x = none) ∧ l.length ≤ 8 := by
  unfold thread at h
  split at h
  · simp at h; rw [h.1]; simp
  · have := thr_good h (by simp)
    simpa using this

theorem rd_good {s : ByteArray} : ∀ {n i : Nat} {L L' : List (List Nat)}, rd s n i L = .ok L' → (∀ l ∈ L, (∀ x ∈ l, stepBad s x = none) ∧ l.length ≤ 8) → (∀ l ∈ L', (∀ x ∈ l, stepBad s x = none) ∧ l.length ≤ 8) ∧ L'.length ≤ L.length + n + 1
  | n, i, L, L', h, hL => by
    cases ht : thread s i with
    | error p => cases n <;> simp [rd, ht] at h
    | ok x =>
      obtain ⟨l, j⟩ := x
      have hg := thread_good ht
      have hL' : ∀ m ∈ L ++ [l], (∀ x ∈ m, stepBad s x = none) ∧ m.length ≤ 8 := by
        intro m hm
        rcases List.mem_append.1 hm with hm | hm
        · exact hL m hm
        · simp at hm; subst hm; exact hg
      cases n with
      | zero =>
        simp only [rd, ht] at h
        split at h
        · simp at h; rw [← h]; exact ⟨hL', by simp⟩
        · cases h
      | succ n =>
        simp only [rd, ht] at h
        split at h
        · simp at h; rw [← h]; exact ⟨hL', by simp <;> omega⟩
        · have := rd_good (n := n) h hL'
          refine ⟨this.1, ?_⟩
          have h2 := this.2
          simp at h2
          omega

end Go.Proofs.Ytifidfgihpkgcaa.Wv

namespace Go.Proofs.Ytifidfgihpkgcaa.Wv

def Mid (s : ByteArray) (i m : Nat) (A B At : Int) : Prop :=
  (m = 0 ∧ A = 0 ∧ B = 0 ∧ At = 0) ∨ (m = 1 ∧ kin (f0 (pk s i)) (pk s (i + 1)) = true ∧ A = pk s (i + 1) - klo (f0 (pk s i)) ∧ B = 0 ∧ At = (i : Int) + 1) ∨
  (m = 2 ∧ kin (f0 (pk s i)) (pk s (i + 1)) = true ∧ kin (f1 (pk s i)) (pk s (i + 2)) = true ∧ A = pk s (i + 1) - klo (f0 (pk s i)) ∧ B = pk s (i + 2) - klo (f1 (pk s i)) ∧ At = (i : Int) + 2)

theorem frm_shape (c : Int) : frm c = [] ∨ (∃ a, frm c = [a]) ∨ ∃ a b, frm c = [a, b] := by
  unfold frm
  split
  · exact .inr (.inr ⟨_, _, rfl⟩)
  split
  · exact .inr (.inr ⟨_, _, rfl⟩)
  split
  · exact .inr (.inr ⟨_, _, rfl⟩)
  split
  · exact .inr (.inr ⟨_, _, rfl⟩)
  split
  · exact .inr (.inl ⟨_, rfl⟩)
  split
  · exact .inr (.inl ⟨_, rfl⟩)
  split
  · exact .inr (.inl ⟨_, rfl⟩)
  exact .inl rfl

section
variable {s : ByteArray} {i : Nat} {F : ByteArray}
theorem frm_size (hF : F = ⟨(frm (pk s i)).toArray⟩) (hf : frm (pk s i) ≠ []) : 0 < F.size ∧ F.size ≤ 2 ∧ F.size = (frm (pk s i)).length := by
  have hl : F.size = (frm (pk s i)).length := by rw [hF]; rfl
  have hp := List.length_pos_iff.2 hf
  rcases frm_shape (pk s i) with h | ⟨a, h⟩ | ⟨a, b, h⟩
  · exact absurd h hf
  · rw [h] at hl hF; subst hF; exact ⟨by simp [hl], by simp [hl], by rw [h]; exact hl⟩
  · rw [h] at hl hF; subst hF; exact ⟨by simp [hl], by simp [hl], by rw [h]; exact hl⟩
theorem pk_list (fs : List UInt8) (m : Nat) (hm : m < fs.length) : pk ⟨fs.toArray⟩ m = ((fs[m]?.getD 0).toNat : Int) := by
  unfold pk
  rw [dif_pos (show m < (⟨fs.toArray⟩ : ByteArray).size from hm)]
  show (((fs.toArray[m]'(by simpa using hm)).toNat : Nat) : Int) = _
  rw [List.getElem_toArray, List.getElem?_eq_getElem hm]
  rfl
theorem pkF (hF : F = ⟨(frm (pk s i)).toArray⟩) (m : Nat) (hm : m < F.size) : pk F m = (((frm (pk s i))[m]?.getD 0).toNat : Int) := by
  have hl : F.size = (frm (pk s i)).length := by rw [hF]; rfl
  rw [hF]
  exact pk_list _ m (by omega)

theorem stepBad_one {a : UInt8} (h : frm (pk s i) = [a]) : stepBad s i = if kin a.toNat (pk s (i + 1)) then none else some (i + 1) := by
  unfold stepBad; rw [h]; simp [scan]
theorem stepBad_two {a b : UInt8} (h : frm (pk s i) = [a, b]) : stepBad s i = if kin a.toNat (pk s (i + 1)) then (if kin b.toNat (pk s (i + 2)) then none else some (i + 2)) else some (i + 1) := by
  unfold stepBad; rw [h]; simp [scan]

theorem mid_fail {m : Nat} {A B At : Int} (hF : F = ⟨(frm (pk s i)).toArray⟩) (hf : frm (pk s i) ≠ []) (h : Mid s i m A B At) (hm : m < F.size) (hk : kin (pk F m) (pk s (i + m + 1)) = false) : stepBad s i = some (i + m + 1) := by
  have hg := pkF hF m hm
  have hsz := (frm_size hF hf).2.2
  rw [hg] at hk
  rcases h with ⟨rfl, _⟩ | ⟨rfl, h1, _⟩ | ⟨rfl, _⟩
  · rcases frm_shape (pk s i) with h | ⟨a, h⟩ | ⟨a, b, h⟩
    · exact absurd h hf
    · rw [stepBad_one h]; rw [h] at hk; simp at hk; simp [hk]
    · rw [stepBad_two h]; rw [h] at hk; simp at hk; simp [hk]
  · rcases frm_shape (pk s i) with h | ⟨a, h⟩ | ⟨a, b, h⟩
    · exact absurd h hf
    · rw [h] at hsz; simp at hsz; omega
    · unfold f0 at h1; rw [h] at h1; rw [stepBad_two h]; rw [h] at hk; simp at hk h1; simp [hk, h1]
  · have := (frm_size hF hf).2.1; omega
theorem mid_next0 {A B At : Int} (hF : F = ⟨(frm (pk s i)).toArray⟩) (hf : frm (pk s i) ≠ []) (h : Mid s i 0 A B At) (hk : kin (pk F 0) (pk s (i + 1)) = true) : Mid s i 1 (pk s (i + 1) - klo (pk F 0)) B ((i : Int) + 1) := by
  have hg := pkF hF 0 (frm_size hF hf).1
  rcases h with ⟨_, _, hB, _⟩ | ⟨h0, _⟩ | ⟨h0, _⟩
  · refine .inr (.inl ⟨rfl, ?_, ?_, hB, rfl⟩)
    · rw [hg] at hk; exact hk
    · rw [hg]; rfl
  · omega
  · omega
theorem mid_next1 {A B At : Int} (hF : F = ⟨(frm (pk s i)).toArray⟩) (hm : 1 < F.size) (h : Mid s i 1 A B At) (hk : kin (pk F 1) (pk s (i + 2)) = true) : Mid s i 2 A (pk s (i + 2) - klo (pk F 1)) ((i : Int) + 2) := by
  have hg := pkF hF 1 hm
  rcases h with ⟨h0, _⟩ | ⟨_, h1, hA, hB, _⟩ | ⟨h0, _⟩
  · omega
  · refine .inr (.inr ⟨rfl, h1, ?_, hA, ?_, rfl⟩)
    · rw [hg] at hk; exact hk
    · rw [hg]; rfl
  · omega
theorem mid_done {A B At : Int} (hF : F = ⟨(frm (pk s i)).toArray⟩) (hf : frm (pk s i) ≠ []) (h : Mid s i F.size A B At) : stepBad s i = none ∧ A = stepA s i ∧ B = stepB s i ∧ At = (stepAt s i : Int) ∧ (stepAt s i : Int) = i + F.size := by
  have hsz := (frm_size hF hf).2.2
  have hat : (stepAt s i : Int) = i + F.size := by unfold stepAt; omega
  rcases frm_shape (pk s i) with e | ⟨a, e⟩ | ⟨a, b, e⟩
  · exact absurd e hf
  · rw [e] at hsz
    rcases h with ⟨h0, _⟩ | ⟨_, h1, hA, hB, hAt⟩ | ⟨h0, _⟩
    · simp at hsz; omega
    · refine ⟨?_, hA, ?_, ?_, hat⟩
      · rw [stepBad_one e]; unfold f0 at h1; rw [e] at h1; simp at h1; simp [h1]
      · rw [hB]; unfold stepB; rw [e]; simp
      · rw [hat, hAt, hsz]; simp
    · simp at hsz; omega
  · rw [e] at hsz
    rcases h with ⟨h0, _⟩ | ⟨h0, _⟩ | ⟨_, h1, h2, hA, hB, hAt⟩
    · simp at hsz; omega
    · simp at hsz; omega
    · refine ⟨?_, hA, ?_, ?_, hat⟩
      · rw [stepBad_two e]; unfold f0 at h1; unfold f1 at h2; rw [e] at h1 h2; simp at h1 h2; simp [h1, h2]
      · rw [hB]; unfold stepB; rw [if_pos (by rw [e]; rfl)]
      · rw [hat, hAt, hsz]; simp
theorem letv_neg {g p : Int} (h : letv g p < 0) : kin g p = false := by
  unfold letv at h
  split at h
  · rename_i hk; have := kdiff hk; omega
  · rename_i hk; simpa using hk
theorem letv_pos {g p : Int} (h : ¬ letv g p < 0) : kin g p = true ∧ letv g p = p - klo g := by
  unfold letv at h ⊢
  split at h
  · rename_i hk; exact ⟨hk, by simp [hk]⟩
  · omega
theorem kin_out {g : Int} : kin g (-1) = false := by
  have : 48 ≤ klo g := by unfold klo; split <;> (try split) <;> (try split) <;> omega
  simp [kin]; omega
end
end Go.Proofs.Ytifidfgihpkgcaa.Wv

namespace Go.Proofs.Ytifidfgihpkgcaa

/-- A row of places' cells that lies below block B. -/
structure Inner (w : World) (base te sz : Nat) (cel : Nat → List Value) (B : Nat) (v : Value) (l : List Nat) : Prop where
  own : w.ownsRow base te sz v l.length (l.flatMap cel)
  lt : ∀ g, v.ownBlock = some g → g < B

/-- A row of such rows. -/
structure OwnT (w : World) (base ts te sz : Nat) (cel : Nat → List Value) (B : Nat) (tv : Value) (vs : List Value) (L : List (List Nat)) : Prop where
  out : w.ownsRow base ts 1 tv L.length vs
  inn : ∀ (k : Nat) (l : List Nat), L[k]? = some l → ∃ v, vs[k]? = some v ∧ Inner w base te sz cel B v l

section
variable {w w' : World} {base ts te sz : Nat} {cel : Nat → List Value} {B B' : Nat} {tv : Value} {vs : List Value} {L : List (List Nat)}

theorem Inner.kept {v : Value} {l : List Nat} {row : Option Nat} (h : Inner w base te sz cel B v l) (hg : w.grownBy w' row) (hr : ∀ r, row = some r → r < base ∨ B ≤ r) : Inner w' base te sz cel B v l := by
  refine ⟨h.own.kept hg ?_, h.lt⟩
  cases hv : v.ownBlock with
  | none => exact .inl rfl
  | some g =>
    refine .inr fun e => ?_
    have h1 := h.own.lt g hv
    have h2 := h.lt g hv
    rcases hr g e.symm with h3 | h3 <;> omega
theorem Inner.mono {v : Value} {l : List Nat} (h : Inner w base te sz cel B v l) (hB : B ≤ B') : Inner w base te sz cel B' v l := ⟨h.own, fun g hg => by have := h.lt g hg; omega⟩
/-- A row whose block holds cells of another type is not written through the outer row. -/
theorem Inner.kept_other {v : Value} {l : List Nat} {n : Nat} {xs : List Value} (h : Inner w base te sz cel B v l) (ho : w.ownsRow base ts 1 tv n xs) (hg : w.grownBy w' tv.ownBlock) (hne : te ≠ ts) : Inner w' base te sz cel B v l := by
  refine ⟨h.own.kept hg ?_, h.lt⟩
  cases hv : v.ownBlock with
  | none => exact .inl rfl
  | some g =>
    refine .inr fun e => ?_
    rcases h.own.2 with ⟨rfl, _⟩ | ⟨g1, c1, u1, rfl, _, hh1, _⟩
    · simp [Value.ownBlock] at hv
    rcases ho.2 with ⟨rfl, _⟩ | ⟨g2, c2, u2, rfl, _, hh2, _⟩
    · simp [Value.ownBlock] at e
    simp [Value.ownBlock] at hv e
    subst hv; subst e
    rw [hh1] at hh2
    simp at hh2
    exact hne hh2.2

theorem OwnT.kept {row : Option Nat} (h : OwnT w base ts te sz cel B tv vs L) (hg : w.grownBy w' row) (h1 : tv.ownBlock = none ∨ tv.ownBlock ≠ row) (h2 : ∀ r, row = some r → r < base ∨ B ≤ r) : OwnT w' base ts te sz cel B tv vs L :=
  ⟨h.out.kept hg h1, fun k l hl => let ⟨v, hv, hi⟩ := h.inn k l hl; ⟨v, hv, hi.kept hg h2⟩⟩
theorem OwnT.mono (h : OwnT w base ts te sz cel B tv vs L) (hB : B ≤ B') : OwnT w base ts te sz cel B' tv vs L :=
  ⟨h.out, fun k l hl => let ⟨v, hv, hi⟩ := h.inn k l hl; ⟨v, hv, hi.mono hB⟩⟩
theorem OwnT.len (h : OwnT w base ts te sz cel B tv vs L) : vs.length = L.length := by simpa using h.out.1
theorem OwnT.push {v tv' : Value} {l : List Nat} (h : OwnT w base ts te sz cel B tv vs L) (hi : Inner w base te sz cel B' v l) (hB : B ≤ B') (hne : te ≠ ts)
    (hg : w.grownBy w' tv.ownBlock) (ho : w'.ownsRow base ts 1 tv' (L.length + 1) (vs ++ [v])) : OwnT w' base ts te sz cel B' tv' (vs ++ [v]) (L ++ [l]) := by
  refine ⟨by simpa using ho, fun k m hm => ?_⟩
  have hlen := h.len
  rcases Nat.lt_or_ge k L.length with hk | hk
  · rw [List.getElem?_append_left hk] at hm
    obtain ⟨u, hu, hin⟩ := h.inn k m hm
    exact ⟨u, by rw [List.getElem?_append_left (by omega)]; exact hu, (hin.mono hB).kept_other h.out hg hne⟩
  · rw [List.getElem?_append_right hk] at hm
    have hk' : k = L.length := by
      rcases Nat.eq_or_lt_of_le hk with e | e
      · exact e.symm
      · rw [List.getElem?_eq_none (by simp; omega)] at hm; cases hm
    subst hk'
    simp at hm
    subst hm
    exact ⟨v, by rw [List.getElem?_append_right (by omega)]; simp [hlen], hi.kept_other h.out hg hne⟩
theorem OwnT.nil (w : World) (base ts te sz : Nat) (cel : Nat → List Value) (B : Nat) : OwnT w base ts te sz cel B (.slice none 0 0) [] [] :=
  ⟨World.ownsRow_nil w base ts 1, fun k l hl => by simp at hl⟩

/-- The outer row's block is none that holds cells of another type. -/
theorem ownsRow_ne {n sz' : Nat} {xs : List Value} {c : Array Value} {t r : Nat} {fz : Nat × Nat} (h : w.ownsRow base ts sz' tv n xs) (hb : w.heap[r]? = some (.cells c t fz)) (ht : t ≠ ts) : tv.ownBlock ≠ some r := by
  rcases h.2 with ⟨rfl, _⟩ | ⟨g1, c1, u1, rfl, _, hh1, _⟩
  · simp [Value.ownBlock]
  · simp only [Value.ownBlock]
    intro e
    simp at e
    subst e
    rw [hh1] at hb
    simp at hb
    exact ht hb.2.1.symm
/-- The value of a row that holds something. -/
theorem ownsRow_shape {n sz' : Nat} {xs : List Value} (h : w.ownsRow base ts sz' tv (n + 1) xs) : ∃ g cap, tv = .slice (some ⟨g, 0, none⟩) (n + 1) cap ∧ base ≤ g := by
  rcases h.2 with ⟨_, h0⟩ | ⟨g, cap, cur, hv, hg, _⟩
  · omega
  · exact ⟨g, cap, hv, hg⟩
theorem ownsRow_slice {n sz' : Nat} {xs : List Value} (h : w.ownsRow base ts sz' tv n xs) : ∃ ao cap, tv = .slice ao n cap := by
  rcases h.2 with ⟨h1, h0⟩ | ⟨g, cap, cur, hv, hg, _⟩
  · exact ⟨none, 0, by rw [h1, h0]⟩
  · exact ⟨_, cap, hv⟩
theorem cells_new (w : World) (xs : List Value) (t : TypeId) : ∀ (j : Nat) (u : Value), xs[j]? = some u → (w.alloc (.cells xs.toArray t)).cell? ((⟨w.heap.size, 0, none⟩ : Addr).add j) = some u := by
  intro j u hu
  have hadd : (⟨w.heap.size, 0, none⟩ : Addr).add j = ⟨w.heap.size, j, none⟩ := by unfold Addr.add; split <;> simp_all
  rw [hadd, cell_of_row _ _ j xs.toArray t (0, 0) (heap_alloc_new w _)]
  simpa using hu
theorem ownsRow_base {n sz' : Nat} {xs : List Value} {base' : Nat} (h : w.ownsRow base ts sz' tv n xs) (hb : base' ≤ base) : w.ownsRow base' ts sz' tv n xs := by
  refine ⟨h.1, ?_⟩
  rcases h.2 with h0 | ⟨g, cap, cur, hv, hg, r⟩
  · exact .inl h0
  · exact .inr ⟨g, cap, cur, hv, by omega, r⟩
end
end Go.Proofs.Ytifidfgihpkgcaa

set_option linter.unusedSimpArgs false
set_option linter.unusedVariables false
namespace Go.Proofs.Ytifidfgihpkgcaa
open Go.RowKit Wv

theorem blk4 {w : World} {b : Nat} {v0 v1 v2 v3 : Value} {t : TypeId} (h : w.heap[b]? = some (.cells #[v0, v1, v2, v3] t (0, 0))) :
    w.cell? ⟨b, 0, none⟩ = some v0 ∧ w.cell? ⟨b, 1, none⟩ = some v1 ∧ w.cell? ⟨b, 2, none⟩ = some v2 ∧ w.cell? ⟨b, 3, none⟩ = some v3 ∧ ∀ o, w.frozen? ⟨b, o, none⟩ = false := by
  refine ⟨?_, ?_, ?_, ?_, fun o => ?_⟩ <;> simp [World.cell?, World.frozen?, h]

theorem run_index_pk (s : ByteArray) (j : Int) (k : Nat) (hj : j = k) (hk : k < s.size) (w : World) : (Instr.index 9 (.string s) (.int .i64 j)).run Try.prog w = .ok (.int .u8 (pk s k)) w := by
  subst hj
  rw [pk_in hk]
  have h : s[k]? = some s[k] := by simp [hk]
  simp [Instr.index, asIntOf, run_underlying Try.underlying9, h]

/-- What the document's step comes to. -/
def RStepPost (s : ByteArray) (i : Nat) (w : World) (e : Ending) (w' : World) : Prop :=
  w.grownBy w' none ∧ match stepBad s i with
  | some p => ∃ x0 x1 x2 x3, e = .returned (.tuple #[.agg #[.int .u8 x0, .int .i64 x1, .int .i64 x2, .int .i64 x3], .int .i64 (p : Int), .bool false])
  | none => e = .returned (.tuple #[.agg (rcells s i).toArray, .int .i64 ((stepAt s i : Int) + 1), .bool true])

set_option maxHeartbeats 1000000 in
set_option maxRecDepth 100000 in
theorem rstep_end (s : ByteArray) (i : Nat) (w : World) (hs : s.size ≤ 150) (hi : i ≤ s.size) (h : ¬ i < s.size) :
    Calls Try.prog 38 #[.string s, .int .i64 (i : Int)] w (RStepPost s i w) := by
  have hB : stepBad s i = some i := by unfold stepBad; rw [if_pos (by rw [pk_out h]; rfl)]
  have HB : Hid _ := hB
  clear hB
  have hge : (s.size : Int) ≤ i := by omega
  go_enter Try.func38, Try.ntmps38
  go_wp2
  refine bodyPost_ret (v := .tuple #[.agg #[.int .u8 0, .int .i64 0, .int .i64 0, .int .i64 0], .int .i64 (i : Int), .bool false]) (by simp [results, Try.results38, go_sem]) rfl ⟨?_, ?_⟩
  · exact grownBy_trans (World.grownBy_alloc w _ none) (World.grownBy_alloc _ _ none)
  · rw [HB.out]; exact ⟨_, _, _, _, rfl⟩

set_option maxHeartbeats 1000000 in
set_option maxRecDepth 100000 in
theorem rstep_none (s : ByteArray) (i : Nat) (w : World) (hs : s.size ≤ 150) (h : i < s.size) (hf : frm (pk s i) = []) :
    Calls Try.prog 38 #[.string s, .int .i64 (i : Int)] w (RStepPost s i w) := by
  have hB : stepBad s i = some i := by unfold stepBad; rw [if_pos hf]
  have HB : Hid _ := hB
  clear hB
  have hfo := fun w => forms_any (pk s i) w
  rw [hf] at hfo
  rw [pk_in h] at hfo
  have HF : Hid _ := hfo
  clear hfo hf
  go_enter Try.func38, Try.ntmps38
  go_wp2_with (go_at_call 57; go_must (refine Calls.mono (HF.out _) ?_; rintro e w1 ⟨rfl, rfl⟩))
  refine bodyPost_ret (v := .tuple #[.agg #[.int .u8 ((s[i]'h).toNat : Int), .int .i64 0, .int .i64 0, .int .i64 0], .int .i64 (i : Int), .bool false]) (by simp [results, Try.results38, go_sem]) rfl ⟨?_, ?_⟩
  · exact grownBy_trans (World.grownBy_alloc w _ none) (World.grownBy_alloc _ _ none)
  · rw [HB.out]; exact ⟨_, _, _, _, rfl⟩

/-- In the loop over the forms: the result's block, the step's block. -/
structure RS (w wr : World) (c A B At : Int) : Prop where
  grow : w.grownBy wr none
  res : wr.heap[w.heap.size]? = some (.cells #[.int .u8 0, .int .i64 0, .int .i64 0, .int .i64 0] 50 (0, 0))
  x : wr.heap[w.heap.size + 1]? = some (.cells #[.int .u8 c, .int .i64 A, .int .i64 B, .int .i64 At] 50 (0, 0))
theorem RS.start (w : World) (c : Int) : RS w ((w.alloc (.cells #[.int .u8 0, .int .i64 0, .int .i64 0, .int .i64 0] 50)).alloc (.cells #[.int .u8 c, .int .i64 0, .int .i64 0, .int .i64 0] 50)) c 0 0 0 := by
  have hs : (w.alloc (.cells #[.int .u8 0, .int .i64 0, .int .i64 0, .int .i64 0] 50)).heap.size = w.heap.size + 1 := by simp
  refine ⟨grownBy_trans (World.grownBy_alloc w _ none) (World.grownBy_alloc _ _ none), ?_, ?_⟩
  · rw [heap_alloc_old _ _ (by omega)]; exact heap_alloc_new _ _
  · rw [← hs]; exact heap_alloc_new _ _

theorem grownBy_new' {w0 w w1 : World} {b : Option Nat} {row : Option Nat} (h : w0.grownBy w b) (hg : w.grownBy w1 row) (hr : ∀ r, row = some r → w0.heap.size ≤ r) : w0.grownBy w1 b := by
  refine ⟨hg.os.trans h.os, hg.tape.trans h.tape, hg.output.trans h.output, Nat.le_trans h.size hg.size, fun k hk hb => ?_⟩
  rw [hg.block k (Nat.lt_of_lt_of_le hk h.size) (fun e => by have := hr k e.symm; omega)]
  exact h.block k hk hb
theorem RS.drewN {w wr : World} {c A B At : Int} (h : RS w wr c A B At) (n : Nat) : RS w (wr.drewN n) c A B At := ⟨grownBy_trans h.grow (grownBy_drewN _ _ _), h.res, h.x⟩
theorem RS.set {w wr : World} {c A B At : Int} (h : RS w wr c A B At) (k : Nat) (v : Value) {c' A' B' At' : Int} (hv : (#[Value.int .u8 c, .int .i64 A, .int .i64 B, .int .i64 At]).setIfInBounds k v = #[.int .u8 c', .int .i64 A', .int .i64 B', .int .i64 At']) :
    RS w (wr.setCell ⟨w.heap.size + 1, k, none⟩ v) c' A' B' At' := by
  refine ⟨grownBy_new' h.grow (grownBy_setCell _ _ _ _) (fun r e => by simp at e; omega), ?_, ?_⟩
  · rw [← h.res]; simp [World.setCell, Array.getElem?_modify]
  · have : (wr.setCell ⟨w.heap.size + 1, k, none⟩ v).heap[w.heap.size + 1]? = some (.cells ((#[Value.int .u8 c, .int .i64 A, .int .i64 B, .int .i64 At]).setIfInBounds k v) 50 (0, 0)) := by
      simp [World.setCell, Array.getElem?_modify, h.x]
    rw [this, hv]
theorem RS.done {w wr : World} {c A B At : Int} (h : RS w wr c A B At) (u0 u1 u2 u3 : Value) :
    w.grownBy ((((wr.setCell ⟨w.heap.size, 0, none⟩ u0).setCell ⟨w.heap.size, 1, none⟩ u1).setCell ⟨w.heap.size, 2, none⟩ u2).setCell ⟨w.heap.size, 3, none⟩ u3) none :=
  grownBy_new' h.grow (grownBy_trans (grownBy_trans (grownBy_trans (grownBy_setCell _ _ _ _) (grownBy_setCell _ _ _ _)) (grownBy_setCell _ _ _ _)) (grownBy_setCell _ _ _ _)) (fun r e => by simp at e; omega)

set_option maxHeartbeats 2000000 in
set_option maxRecDepth 100000 in
theorem rstep_loop (s : ByteArray) (i : Nat) (w : World) (hs : s.size ≤ 150) (h : i < s.size) (hf : frm (pk s i) ≠ []) :
    Calls Try.prog 38 #[.string s, .int .i64 (i : Int)] w (RStepPost s i w) := by
  obtain ⟨F, hF⟩ : ∃ F : ByteArray, F = ⟨(frm (pk s i)).toArray⟩ := ⟨_, rfl⟩
  have hfo := fun w => forms_any (pk s i) w
  rw [← hF] at hfo
  have hpi := pk_in h
  obtain ⟨c, HC⟩ : ∃ c, Hid (pk s i = c) := ⟨_, rfl⟩
  have hix0 := run_index_pk s (i : Int) i rfl h
  rw [HC.out] at hfo hix0
  have HFO : Hid _ := hfo
  have HF : Hid _ := hF
  have HNE : Hid _ := hf
  have hsz := frm_size hF hf
  have hF0 : 0 < F.size := hsz.1
  have hF2 : F.size ≤ 2 := hsz.2.1
  have hFe : F.toList.isEmpty = false := by
    rw [← decide_eq_emptyBytes F]
    simp
    intro e
    rw [e] at hF0
    exact absurd hF0 (by decide)
  clear hfo hF hf hpi hsz
  go_enter Try.func38, Try.ntmps38
  go_wp2_with (go_at_call 57; go_must (refine Calls.mono (HFO.out _) ?_; rintro e w1 ⟨rfl, rfl⟩))
  clear hix0
  go_loopw [1, 9] (fun iv kv wr => ∃ (m : Nat) (A B At : Int), m ≤ F.size ∧ kv = .int .i64 m ∧ iv = .int .i64 ((i : Int) + m) ∧ RS w wr c A B At ∧ Hid (Mid s i m A B At)) (fun _ kv _ => F.size - (intOf kv).toNat)
  case atStart => exact ⟨0, 0, 0, 0, Nat.zero_le _, rfl, by simp, RS.start w _, .inl ⟨rfl, rfl, rfl, rfl⟩⟩
  case round =>
    obtain ⟨m, A, B, At, hm, rfl, rfl, hrs, hmid⟩ := hrel
    obtain ⟨q0, q1, q2, q3, qf⟩ := blk4 hrs.x
    obtain ⟨n0, n1, n2, n3, nf⟩ := blk4 hrs.res
    have HRS : Hid _ := hrs
    clear hrs
    by_cases hlt : m < F.size
    · by_cases hend : i + m + 1 < s.size
      · have hd : decide ((s.size : Int) ≤ (i : Int) + m + 1) = false := by simp; omega
        have hixF := run_index_pk F (m : Int) m rfl hlt
        have hixS := run_index_pk s ((i : Int) + m + 1) (i + m + 1) (by omega) hend
        have hg := pk_range F m
        have hp := pk_range s (i + m + 1)
        have hg0 : 0 ≤ pk F m := by rw [pk_in hlt]; omega
        have hp0 : 0 ≤ pk s (i + m + 1) := by rw [pk_in hend]; omega
        obtain ⟨g, HG⟩ : ∃ g, Hid (pk F m = g) := ⟨_, rfl⟩
        obtain ⟨p, HP⟩ : ∃ p, Hid (pk s (i + m + 1) = p) := ⟨_, rfl⟩
        rw [HG.out] at hixF hg hg0
        rw [HP.out] at hixS hp hp0
        have HL : Hid _ := fun W => letter_any g p W (by omega) (by omega) (by omega) (by omega)
        by_cases hneg : letv g p < 0
        · have HB : Hid (stepBad s i = some (i + m + 1)) := mid_fail HF.out HNE.out hmid.out hlt (by rw [HG.out, HP.out]; exact letv_neg hneg)
          generalize letv g p = lv at *
          go_wp2_with fail
          go_quiet ((go_at_call 58; exact Calls.quiet_of_same (HL.out _)))
          go_wp2_with fail
          refine bodyPost_ret (v := .tuple #[.agg #[.int .u8 c, .int .i64 A, .int .i64 B, .int .i64 At], .int .i64 ((i : Int) + m + 1), .bool false]) (by simp [results, Try.results38, go_sem, n0, n1, n2, n3]) rfl ⟨(HRS.out.drewN _).done _ _ _ _, ?_⟩
          rw [HB.out]
          exact ⟨_, _, _, _, by rw [show (((i + m + 1 : Nat)) : Int) = (i : Int) + m + 1 from by omega]⟩
        · obtain ⟨hkin, hlv⟩ := letv_pos hneg
          by_cases hm0 : m = 0
          · have hmb : ((m : Int) == 0) = true := by simpa using hm0
            have HMid : Hid (Mid s i 1 (letv g p) B ((i : Int) + m + 1)) := by
              subst hm0
              rw [hlv, ← HG.out, ← HP.out, show (i : Int) + ((0 : Nat) : Int) + 1 = (i : Int) + 1 from by omega]
              exact mid_next0 HF.out HNE.out hmid.out (by rw [HG.out]; exact (show kin g (pk s (i + 0 + 1)) = true by rw [HP.out]; exact hkin))
            have hm1 : m ≤ 0 := by omega
            clear hm0 hkin hlv hmid
            generalize letv g p = lv at *
            go_wp2_with fail
            go_quiet ((go_at_call 58; exact Calls.quiet_of_same (HL.out _)))
            go_wp2_with fail
            go_region_with (go_at_call 58; refine Calls.mono (HL.out _) ?_; rintro e w5 ⟨rfl, rfl⟩)
            all_goals
              go_wp2_with fail
              go_roundw
              case rel => exact ⟨m + 1, lv, B, (i : Int) + m + 1, by omega, by go_num, by rw [show (i : Int) + ((m + 1 : Nat) : Int) = (i : Int) + m + 1 from by omega], ((HRS.out.drewN _).set 1 _ rfl).set 3 _ rfl, by rw [show m + 1 = 1 from by omega]; exact HMid⟩
              case measure => simp [intOf]; omega
          · have hmb : ((m : Int) == 0) = false := by simpa using hm0
            have HMid : Hid (Mid s i 2 A (letv g p) ((i : Int) + m + 1)) := by
              have hm1 : m = 1 := by omega
              subst hm1
              rw [hlv, ← HG.out, ← HP.out]
              have := mid_next1 HF.out hlt hmid.out (by rw [HG.out]; rw [show i + 2 = i + 1 + 1 from rfl, HP.out]; exact hkin)
              rw [show (i : Int) + ((1 : Nat) : Int) + 1 = (i : Int) + 2 from by omega]
              exact this
            have hm1 : 1 ≤ m := by omega
            clear hm0 hkin hlv hmid
            generalize letv g p = lv at *
            go_wp2_with fail
            go_quiet ((go_at_call 58; exact Calls.quiet_of_same (HL.out _)))
            go_wp2_with fail
            go_region_with (go_at_call 58; refine Calls.mono (HL.out _) ?_; rintro e w5 ⟨rfl, rfl⟩)
            all_goals
              go_wp2_with fail
              go_roundw
              case rel => exact ⟨m + 1, A, lv, (i : Int) + m + 1, by omega, by go_num, by rw [show (i : Int) + ((m + 1 : Nat) : Int) = (i : Int) + m + 1 from by omega], ((HRS.out.drewN _).set 2 _ rfl).set 3 _ rfl, by rw [show m + 1 = 2 from by omega]; exact HMid⟩
              case measure => simp [intOf]; omega
      · have hd : decide ((s.size : Int) ≤ (i : Int) + m + 1) = true := by simp; omega
        have HB : Hid (stepBad s i = some (i + m + 1)) := mid_fail HF.out HNE.out hmid.out hlt (by rw [pk_out hend]; exact kin_out)
        go_wp2_with fail
        go_quiet (fail)
        go_wp2_with fail
        refine bodyPost_ret (v := .tuple #[.agg #[.int .u8 c, .int .i64 A, .int .i64 B, .int .i64 At], .int .i64 ((i : Int) + m + 1), .bool false]) (by simp [results, Try.results38, go_sem, n0, n1, n2, n3]) rfl ⟨(HRS.out.drewN _).done _ _ _ _, ?_⟩
        rw [HB.out]
        exact ⟨_, _, _, _, by rw [show (((i + m + 1 : Nat)) : Int) = (i : Int) + m + 1 from by omega]⟩
    · have hd := mid_done HF.out HNE.out (by rw [show F.size = m from by omega]; exact hmid.out)
      have HD : Hid _ := hd
      clear hd hmid
      go_wp2_with fail
      refine bodyPost_ret (v := .tuple #[.agg #[.int .u8 c, .int .i64 A, .int .i64 B, .int .i64 At], .int .i64 ((i : Int) + m + 1), .bool true]) (by simp [results, Try.results38, go_sem, n0, n1, n2, n3]) rfl ⟨HRS.out.done _ _ _ _, ?_⟩
      obtain ⟨d1, d2, d3, d4, d5⟩ := HD.out
      rw [d1, d2, d3, d4, ← HC.out, show (i : Int) + m + 1 = (stepAt s i : Int) + 1 from by omega]
      rfl

theorem rstep_any (s : ByteArray) (i : Nat) (w : World) (hs : s.size ≤ 150) (hi : i ≤ s.size) : Calls Try.prog 38 #[.string s, .int .i64 (i : Int)] w (RStepPost s i w) := by
  by_cases h : i < s.size
  · by_cases hf : frm (pk s i) = []
    · exact rstep_none s i w hs h hf
    · exact rstep_loop s i w hs h hf
  · exact rstep_end s i w hs hi h

end Go.Proofs.Ytifidfgihpkgcaa

set_option linter.unusedSimpArgs false
set_option linter.unusedVariables false
namespace Go.Proofs.Ytifidfgihpkgcaa
open Go.RowKit Wv

theorem info_rstep : (Try.prog.info? 50).map (fun i => (i.zero, i.size, i.bytes)) = some (some (.agg #[.int .u8 0, .int .i64 0, .int .i64 0, .int .i64 0]), 4, 32) := by kernel_rfl
theorem info_rsteps : (Try.prog.info? 51).map (fun i => (i.zero, i.size, i.bytes)) = some (some (.slice none 0 0), 1, 24) := by kernel_rfl

theorem pk_some' {s : ByteArray} {i : Nat} (h : 0 ≤ pk s i) : i < s.size := by
  rcases Nat.lt_or_ge i s.size with h' | h'
  · exact h'
  · rw [pk_out (by omega)] at h; omega
theorem rstep_le {s : ByteArray} {i : Nat} (h : stepBad s i = none) : stepAt s i + 1 ≤ s.size := by
  unfold stepBad at h
  split at h
  · cases h
  · rename_i hne
    have hp := List.length_pos_iff.2 hne
    have := pk_some' (scan_le h ((frm (pk s i)).length - 1) (by omega))
    unfold stepAt
    omega
theorem thr_end {s : ByteArray} {m i : Nat} {l : List Nat} (h : stepBad s i = none) (hp : pk s (stepAt s i + 1) = -1 ∨ pk s (stepAt s i + 1) = 124) : thr s m i l = .ok (l ++ [i], stepAt s i + 1) := by
  cases m <;> simp [thr, h, hp]
theorem thr_err {s : ByteArray} {m i : Nat} {l : List Nat} (h : stepBad s i = none) (h1 : pk s (stepAt s i + 1) ≠ -1) (h2 : pk s (stepAt s i + 1) ≠ 124) (hp : pk s (stepAt s i + 1) ≠ 59 ∨ m = 0) : thr s m i l = .error (stepAt s i + 1) := by
  rcases hp with hp | hp
  · cases m <;> simp [thr, h, h1, h2, hp]
  · subst hp; simp [thr, h, h1, h2]

theorem cells_new2 (w : World) (o : Obj) (xs : List Value) (t : TypeId) (j : Nat) (u : Value) (h : xs[j]? = some u) : ((w.alloc o).alloc (.cells xs.toArray t)).cell? ((⟨w.heap.size + 1, 0, none⟩ : Addr).add j) = some u := by
  have hs : (w.alloc o).heap.size = w.heap.size + 1 := by simp
  rw [← hs]
  exact cells_new (w.alloc o) xs t j u h

def RThrPost (s : ByteArray) (T : Except Nat (List Nat × Nat)) (w : World) (e : Ending) (w' : World) : Prop :=
  w.grownBy w' none ∧ match T with
  | .error p => e = .returned (.tuple #[.slice none 0 0, .int .i64 (p : Int), .bool false])
  | .ok (l, j) => ∃ v, e = .returned (.tuple #[v, .int .i64 (j : Int), .bool true]) ∧ w'.ownsRow w.heap.size 50 4 v l.length (l.flatMap (rcells s))

set_option maxHeartbeats 2000000 in
set_option maxRecDepth 100000 in
theorem rthread_any (s : ByteArray) (i : Nat) (w : World) (hs : s.size ≤ 150) (hi : i ≤ s.size) : Calls Try.prog 26 #[.string s, .int .i64 (i : Int)] w (RThrPost s (thread s i) w) := by
  by_cases hlt : i < s.size
  · have hix := run_index_pk s (i : Int) i rfl hlt
    by_cases hbar : pk s i = 124
    · have ht : thread s i = .ok ([], i) := by unfold thread; rw [if_pos (.inr hbar)]
      rw [ht]
      rw [hbar] at hix
      clear hbar ht
      go_enter Try.func26, Try.ntmps26
      go_wp2
      go_ret3
      exact ⟨grownBy_refl _ _, _, rfl, World.ownsRow_nil _ _ _ _⟩
    · have hp0 : 0 ≤ pk s i := by rw [pk_in hlt]; omega
      have ht : thread s i = thr s 7 i [] := by unfold thread; rw [if_neg (by omega)]
      rw [ht]
      clear ht
      obtain ⟨T, HT⟩ : ∃ T, Hid (thr s 7 i [] = T) := ⟨_, rfl⟩
      rw [HT.out]
      have hb1 : (pk s i == 124) = false := by simpa using hbar
      obtain ⟨p0, HP0⟩ : ∃ p0, Hid (pk s i = p0) := ⟨_, rfl⟩
      rw [HP0.out] at hix hb1
      clear hbar hp0
      obtain ⟨i0, hio, hz0, hz1, hz2⟩ := info_parts info_rstep
      have hdN : decide (s.size ≤ i) = false := by simp; omega
      have hdI : decide ((s.size : Int) ≤ (i : Int)) = false := by simp; omega
      go_enter Try.func26, Try.ntmps26
      go_wp2_with fail
      clear hix
      go_loopw [1, 7] (fun iv lv wr => ∃ (k : Nat) (l : List Nat), k ≤ s.size ∧ iv = .int .i64 (k : Int) ∧ l.length ≤ 7 ∧ w.grownBy wr none ∧ wr.ownsRow w.heap.size 50 4 lv l.length (l.flatMap (rcells s)) ∧ Hid (thr s (7 - l.length) k l = T)) (fun iv _ _ => s.size + 1 - (intOf iv).toNat)
      case atStart => exact ⟨i, [], hi, rfl, by simp, grownBy_refl _ _, World.ownsRow_nil _ _ _ _, HT⟩
      case round =>
        obtain ⟨k, l, hk, rfl, hl7, hgr, hown, hT⟩ := hrel
        have hst := rstep_any s k wr hs hk
        have hsz := hgr.size
        have HGR : Hid _ := hgr
        have HOWN : Hid _ := hown
        clear hgr hown
        cases hsb : stepBad s k with
        | some p =>
          have HS : Hid (Calls Try.prog 38 #[.string s, .int .i64 (k : Int)] wr fun e w' => ∃ x0 x1 x2 x3, e = .returned (.tuple #[.agg #[.int .u8 x0, .int .i64 x1, .int .i64 x2, .int .i64 x3], .int .i64 (p : Int), .bool false]) ∧ wr.grownBy w' none) :=
            hst.mono fun e w' h => by unfold RStepPost at h; rw [hsb] at h; obtain ⟨h1, x0, x1, x2, x3, h2⟩ := h; exact ⟨x0, x1, x2, x3, h2, h1⟩
          have HE : Hid (T = .error p) := by rw [← hT.out, thr_bad hsb]; rfl
          clear hst hsb hT
          go_wp2_with (go_at_call 38; go_must (refine Calls.mono HS.out ?_; rintro e w2 ⟨x0, x1, x2, x3, rfl, hg⟩))
          go_ret3
          rw [HE.out]
          exact ⟨grownBy_trans (grownBy_trans HGR.out hg) (World.grownBy_alloc _ _ _), rfl⟩
        | none =>
          obtain ⟨c, A, B, At, hrc⟩ : ∃ c A B At, rcells s k = [.int .u8 c, .int .i64 A, .int .i64 B, .int .i64 At] := ⟨_, _, _, _, rfl⟩
          have HS : Hid (Calls Try.prog 38 #[.string s, .int .i64 (k : Int)] wr fun e w' => e = .returned (.tuple #[.agg #[.int .u8 c, .int .i64 A, .int .i64 B, .int .i64 At], .int .i64 ((stepAt s k : Int) + 1), .bool true]) ∧ wr.grownBy w' none) :=
            hst.mono fun e w' h => by unfold RStepPost at h; rw [hsb, hrc] at h; exact ⟨h.2, h.1⟩
          have HRC : Hid _ := hrc
          have HSB : Hid _ := hsb
          have hile : stepAt s k + 1 ≤ s.size := rstep_le hsb
          have hige : k ≤ stepAt s k := by unfold stepAt; omega
          clear hst hsb hrc
          go_wp2_with (first | (go_at_call 38; go_must (refine Calls.mono HS.out ?_; rintro e w2 ⟨rfl, hg⟩; have hown2 := World.ownsRow.kept HOWN.out hg (Classical.em _); have hsz2 := hg.size; have HG : Hid _ := hg; clear hg)) | (at_builtin; go_must (refine wpList_append_own _ rfl _ _ 51 rfl w.heap.size 50 i0 _ 4 32 Try.underlying51 hio hz0 hz1 hz2 rfl (by decide) _ _ _ rfl ((hown2.alloc _).alloc _) ⟨w2.heap.size + 1, 0, none⟩ 1 1 [.int .u8 c, .int .i64 A, .int .i64 B, .int .i64 At] rfl rfl ?c1 ?c2 ?c3 ?c4 ?c5 ?_)))
          case c1 => exact cells_new2 w2 _ [.int .u8 c, .int .i64 A, .int .i64 B, .int .i64 At] _
          case c2 =>
            intro u hu
            simp at hu
            rcases hu with rfl | rfl | rfl | rfl <;> rfl
          case c3 => unfold maxLen; omega
          case c4 => omega
          case c5 => simp; omega
          intro v' w3 hown' hgrow _
          obtain ⟨g, cap', hv, hgb⟩ := ownsRow_shape hown'
          have hgw3 : w.grownBy w3 none := grownBy_new' (grownBy_trans (grownBy_trans (grownBy_trans HGR.out HG.out) (World.grownBy_alloc _ _ _)) (World.grownBy_alloc _ _ _)) hgrow (fun r e => (hown2.lt r e).1)
          have hown3 : w3.ownsRow w.heap.size 50 4 v' (l ++ [k]).length ((l ++ [k]).flatMap (rcells s)) := by
            rw [List.flatMap_append]
            simpa [HRC.out] using hown'
          clear hown' hgrow hown2 HG HS HGR HOWN HRC
          subst hv
          have HGW : Hid _ := hgw3
          have HO3 : Hid _ := hown3
          clear hgw3 hown3
          by_cases hjl : stepAt s k + 1 < s.size
          · have hix := run_index_pk s ((stepAt s k : Int) + 1) (stepAt s k + 1) (by omega) hjl
            have hp0 : 0 ≤ pk s (stepAt s k + 1) := by rw [pk_in hjl]; omega
            by_cases hq : pk s (stepAt s k + 1) = 124
            · have HE : Hid (T = .ok (l ++ [k], stepAt s k + 1)) := by rw [← hT.out, thr_end HSB.out (.inr hq)]; rfl
              rw [hq] at hix
              clear hq hp0 hT HSB
              go_wp2_with fail
              go_ret3
              rw [HE.out]
              exact ⟨HGW.out, _, by rw [show ((stepAt s k + 1 : Nat) : Int) = (stepAt s k : Int) + 1 from by omega]; rfl, HO3.out⟩
            · by_cases hq2 : pk s (stepAt s k + 1) = 59
              · by_cases hl : l.length < 7
                · have HE : Hid (thr s (7 - (l ++ [k]).length) (stepAt s k + 2) (l ++ [k]) = T) := by
                    have h7 : 7 - l.length = (6 - l.length) + 1 := by omega
                    have := hT.out
                    rw [h7, thr_go HSB.out hq2] at this
                    rw [show 7 - (l ++ [k]).length = 6 - l.length from by simp]
                    exact this
                  rw [hq2] at hix
                  have hl8 : ((l.length : Int) + 1 == 8) = false := by simp; omega
                  clear hq hq2 hp0 hT HSB
                  go_wp2_with fail
                  go_roundw
                  case rel => exact ⟨stepAt s k + 2, l ++ [k], by omega, by go_num, by simp; omega, HGW.out, HO3.out, HE⟩
                  case measure => simp [intOf]; omega
                · have HE : Hid (T = .error (stepAt s k + 1)) := by rw [← hT.out, thr_err HSB.out (by omega) hq (.inr (by omega))]; rfl
                  rw [hq2] at hix
                  have hl8 : ((l.length : Int) + 1 == 8) = true := by simp; omega
                  clear hq hq2 hp0 hT HSB
                  go_wp2_with fail
                  go_ret3
                  rw [HE.out]
                  exact ⟨HGW.out, rfl⟩
              · have HE : Hid (T = .error (stepAt s k + 1)) := by rw [← hT.out, thr_err HSB.out (by omega) hq (.inl hq2)]; rfl
                have e1 : (pk s (stepAt s k + 1) == 124) = false := by simpa using hq
                have e2 : (pk s (stepAt s k + 1) != 59) = true := by simpa using hq2
                generalize pk s (stepAt s k + 1) = p at *
                clear hq hq2 hp0 hT HSB
                go_wp2_with fail
                go_ret3
                rw [HE.out]
                exact ⟨HGW.out, rfl⟩
          · have HE : Hid (T = .ok (l ++ [k], stepAt s k + 1)) := by rw [← hT.out, thr_end HSB.out (.inl (pk_out hjl))]; rfl
            clear hT HSB
            go_wp2_with fail
            go_ret3
            rw [HE.out]
            exact ⟨HGW.out, _, by rw [show ((stepAt s k + 1 : Nat) : Int) = (stepAt s k : Int) + 1 from by omega]; rfl, HO3.out⟩
  · have ht : thread s i = .ok ([], i) := by unfold thread; rw [if_pos (.inl (pk_out hlt))]
    rw [ht]
    clear ht
    go_enter Try.func26, Try.ntmps26
    go_wp2
    go_ret3
    exact ⟨grownBy_refl _ _, _, rfl, World.ownsRow_nil _ _ _ _⟩

end Go.Proofs.Ytifidfgihpkgcaa

set_option linter.unusedSimpArgs false
set_option linter.unusedVariables false
namespace Go.Proofs.Ytifidfgihpkgcaa
open Go.RowKit Wv

theorem thr_le {s : ByteArray} : ∀ {m i j : Nat} {l l' : List Nat}, thr s m i l = .ok (l', j) → i ≤ j ∧ j ≤ s.size
  | m, i, j, l, l', h => by
    cases hb : stepBad s i with
    | some p => cases m <;> simp [thr, hb] at h
    | none =>
      have h1 := rstep_le hb
      have h2 : i ≤ stepAt s i := by unfold stepAt; omega
      cases m with
      | zero =>
        simp only [thr, hb] at h
        split at h
        · simp at h; omega
        · cases h
      | succ m =>
        simp only [thr, hb] at h
        split at h
        · simp at h; omega
        · split at h
          · have := thr_le (m := m) h
            omega
          · cases h
theorem thread_le {s : ByteArray} {i j : Nat} {l : List Nat} (h : thread s i = .ok (l, j)) (hi : i ≤ s.size) : i ≤ j ∧ j ≤ s.size := by
  unfold thread at h
  split at h
  · simp at h; omega
  · exact thr_le h
theorem rd_err {s : ByteArray} {n i p : Nat} {L : List (List Nat)} (h : thread s i = .error p) : rd s n i L = .error p := by rw [rd_aft, h]; rfl
theorem rd_end {s : ByteArray} {n i j : Nat} {l : List Nat} {L : List (List Nat)} (h : thread s i = .ok (l, j)) (hj : ¬ j < s.size) : rd s n i L = .ok (L ++ [l]) := by
  rw [rd_aft, h]; simp [aft, pk_out hj]
theorem rd_go {s : ByteArray} {n i j : Nat} {l : List Nat} {L : List (List Nat)} (h : thread s i = .ok (l, j)) (hj : j < s.size) : rd s (n + 1) i L = rd s n (j + 1) (L ++ [l]) := by
  have : pk s j ≠ -1 := by rw [pk_in hj]; omega
  rw [rd_aft, h]; simp [aft, this]
theorem rd_full {s : ByteArray} {i j : Nat} {l : List Nat} {L : List (List Nat)} (h : thread s i = .ok (l, j)) (hj : j < s.size) : rd s 0 i L = .error j := by
  have : pk s j ≠ -1 := by rw [pk_in hj]; omega
  rw [rd_aft, h]; simp [aft, this]

def RReadPost (s : ByteArray) (R : Except Nat (List (List Nat))) (w : World) (e : Ending) (w' : World) : Prop :=
  w.grownBy w' none ∧ match R with
  | .error p => e = .returned (.tuple #[.slice none 0 0, .int .i64 (p : Int), .bool false])
  | .ok L => ∃ tv vs j, e = .returned (.tuple #[tv, .int .i64 j, .bool true]) ∧ OwnT w' w.heap.size 51 50 4 (rcells s) w'.heap.size tv vs L

set_option maxHeartbeats 2000000 in
set_option maxRecDepth 100000 in
theorem rread_any (s : ByteArray) (w : World) (hs : s.size ≤ 150) : Calls Try.prog 12 #[.string s] w (RReadPost s (rd s 2 0 []) w) := by
  obtain ⟨R, HR⟩ : ∃ R, Hid (rd s 2 0 [] = R) := ⟨_, rfl⟩
  rw [HR.out]
  obtain ⟨i0, hio, hz0, hz1, hz2⟩ := info_parts info_rsteps
  go_enter Try.func12, Try.ntmps12
  go_wp2_with fail
  go_loopw [5, 6] (fun tv iv wr => ∃ (k : Nat) (L : List (List Nat)) (vs : List Value), k ≤ s.size ∧ iv = .int .i64 (k : Int) ∧ L.length ≤ 2 ∧ w.grownBy wr none ∧ OwnT wr w.heap.size 51 50 4 (rcells s) wr.heap.size tv vs L ∧ Hid (rd s (2 - L.length) k L = R)) (fun _ iv _ => s.size + 1 - (intOf iv).toNat)
  case atStart => exact ⟨0, [], [], Nat.zero_le _, rfl, by simp, grownBy_refl _ _, OwnT.nil _ _ _ _ _ _ _, HR⟩
  case round =>
    obtain ⟨k, L, vs, hk, rfl, hL2, hgr, hown, hR⟩ := hrel
    have hst := rthread_any s k wr hs hk
    have hsz := hgr.size
    have HGR : Hid _ := hgr
    have HOWN : Hid _ := hown
    clear hgr hown
    cases ht : thread s k with
    | error p =>
      have HS : Hid (Calls Try.prog 26 #[.string s, .int .i64 (k : Int)] wr fun e w' => e = .returned (.tuple #[.slice none 0 0, .int .i64 (p : Int), .bool false]) ∧ wr.grownBy w' none) :=
        hst.mono fun e w' h => by rw [ht] at h; exact ⟨h.2, h.1⟩
      have HE : Hid (R = .error p) := by rw [← hR.out, rd_err ht]; rfl
      clear hst ht hR
      go_wp2_with (go_at_call 26; go_must (refine Calls.mono HS.out ?_; rintro e w2 ⟨rfl, hg⟩))
      go_ret3
      rw [HE.out]
      exact ⟨grownBy_trans HGR.out hg, rfl⟩
    | ok x =>
      obtain ⟨l, j⟩ := x
      have HS : Hid (Calls Try.prog 26 #[.string s, .int .i64 (k : Int)] wr fun e w' => ∃ ao cap, e = .returned (.tuple #[.slice ao l.length cap, .int .i64 (j : Int), .bool true]) ∧ w'.ownsRow wr.heap.size 50 4 (.slice ao l.length cap) l.length (l.flatMap (rcells s)) ∧ wr.grownBy w' none) :=
        hst.mono fun e w' h => by
          rw [ht] at h
          obtain ⟨h1, v, h2, h3⟩ := h
          obtain ⟨ao, cap, rfl⟩ := ownsRow_slice h3
          exact ⟨ao, cap, h2, h3, h1⟩
      have hjl := thread_le ht hk
      have HTH : Hid _ := ht
      clear hst ht
      go_wp2_with (first | (go_at_call 26; go_must (refine Calls.mono HS.out ?_; rintro e w2 ⟨ao, cap, rfl, hrow, hg⟩; have hown2 := HOWN.out.kept hg (Classical.em _) (by simp); have hout2 := hown2.out; have hsz2 := hg.size; have HG : Hid _ := hg; have HROW : Hid _ := hrow; have HO2 : Hid _ := hown2; clear hg hrow hown2)) | (at_builtin; go_must (refine wpList_append_own _ rfl _ _ 35 rfl w.heap.size 51 i0 _ 1 24 Try.underlying35 hio hz0 hz1 hz2 rfl (by decide) _ _ _ rfl (hout2.alloc _) ⟨w2.heap.size, 0, none⟩ 1 1 [.slice ao l.length cap] rfl rfl ?c1 ?c2 ?c3 ?c4 ?c5 ?_)))
      case c1 => exact cells_new w2 [.slice ao l.length cap] _
      case c2 => intro u hu; simp at hu; subst hu; rfl
      case c3 => unfold maxLen; omega
      case c4 => omega
      case c5 => simp; omega
      intro v' w3 hown' hgrow _
      obtain ⟨g, cap', hv, hgb⟩ := ownsRow_shape hown'
      have hgw3 : w.grownBy w3 none := grownBy_new' (grownBy_trans (grownBy_trans HGR.out HG.out) (World.grownBy_alloc _ _ _)) hgrow (fun r e => (hout2.lt r e).1)
      have hown3 : OwnT w3 w.heap.size 51 50 4 (rcells s) w3.heap.size v' (vs ++ [.slice ao l.length cap]) (L ++ [l]) := by
        have h1 : OwnT (w2.alloc (.cells #[.slice ao l.length cap] 51)) w.heap.size 51 50 4 (rcells s) wr.heap.size _ vs L := HO2.out.kept (World.grownBy_alloc _ _ none) (Classical.em _) (by simp)
        have h2 : Inner (w2.alloc (.cells #[.slice ao l.length cap] 51)) w.heap.size 50 4 (rcells s) w2.heap.size (.slice ao l.length cap) l :=
          ⟨ownsRow_base (World.ownsRow.alloc HROW.out _) hsz, fun g hg => (World.ownsRow.lt HROW.out g hg).2⟩
        exact (h1.push h2 hsz2 (by decide) hgrow hown').mono (by have := hgrow.size; simp at this; omega)
      clear hown' hgrow hout2 HG HS HGR HOWN HROW HO2
      subst hv
      have HGW : Hid _ := hgw3
      have HO3 : Hid _ := hown3
      clear hgw3 hown3
      by_cases hj : j < s.size
      · by_cases hL : L.length < 2
        · have HE : Hid (rd s (2 - (L ++ [l]).length) (j + 1) (L ++ [l]) = R) := by
            have := hR.out
            rw [show 2 - L.length = (1 - L.length) + 1 from by omega, rd_go HTH.out hj] at this
            rw [show 2 - (L ++ [l]).length = 1 - L.length from by simp]
            exact this
          have hl3 : ((L.length : Int) + 1 == 3) = false := by simp; omega
          clear hR HTH
          go_wp2_with fail
          go_roundw
          case rel => exact ⟨j + 1, L ++ [l], _, by omega, by go_num, by simp; omega, HGW.out, HO3.out, HE⟩
          case measure => simp [intOf]; omega
        · have HE : Hid (R = .error j) := by rw [← hR.out, show 2 - L.length = 0 from by omega, rd_full HTH.out hj]; rfl
          have hl3 : ((L.length : Int) + 1 == 3) = true := by simp; omega
          clear hR HTH
          go_wp2_with fail
          go_ret3
          rw [HE.out]
          exact ⟨HGW.out, rfl⟩
      · have HE : Hid (R = .ok (L ++ [l])) := by rw [← hR.out, rd_end HTH.out hj]; rfl
        clear hR HTH
        go_wp2_with fail
        go_ret3
        rw [HE.out]
        exact ⟨HGW.out, _, _, _, rfl, HO3.out⟩

end Go.Proofs.Ytifidfgihpkgcaa

