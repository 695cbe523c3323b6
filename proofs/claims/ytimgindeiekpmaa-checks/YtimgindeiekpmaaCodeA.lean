import Derived.Test.YtimgindeiekpmaaRows
import Derived.Test.YtimgindeiekpmaaSpec
import Derived.WalkKit
import Derived.WalkSpells
import Derived.WalkLawsBesides
import Derived.BigQuiet
set_option linter.unusedSimpArgs false
set_option linter.unusedVariables false
namespace Go.Proofs.Ytimgindeiekpmaa
open Go.RowKit Wv

/-- The reader's block: the text and the place. -/
structure RdAt (w : World) (b : Nat) (s : ByteArray) (i : Nat) : Prop where
  blk : w.heap[b]? = some (.cells #[.string s, .int .i64 (i : Int)] 111 (0, 0))

theorem RdAt.c0 {w : World} {b : Nat} {s : ByteArray} {i : Nat} (h : RdAt w b s i) : w.cell? ⟨b, 0, none⟩ = some (.string s) := by simp [World.cell?, h.blk]
theorem RdAt.c1 {w : World} {b : Nat} {s : ByteArray} {i : Nat} (h : RdAt w b s i) : w.cell? ⟨b, 1, none⟩ = some (.int .i64 (i : Int)) := by simp [World.cell?, h.blk]
theorem RdAt.f1 {w : World} {b : Nat} {s : ByteArray} {i : Nat} (h : RdAt w b s i) : w.frozen? ⟨b, 1, none⟩ = false := by simp [World.frozen?, h.blk]
theorem RdAt.lt {w : World} {b : Nat} {s : ByteArray} {i : Nat} (h : RdAt w b s i) : b < w.heap.size := lt_of_block h.blk

theorem pk_in {s : ByteArray} {i : Nat} (h : i < s.size) : pk s i = ((s[i]'h).toNat : Int) := by simp [pk, h]
theorem pk_out {s : ByteArray} {i : Nat} (h : ¬ i < s.size) : pk s i = -1 := by simp [pk, h]
theorem pk_range (s : ByteArray) (i : Nat) : -1 ≤ pk s i ∧ pk s i ≤ 255 := by
  by_cases h : i < s.size
  · rw [pk_in h]; have := (s[i]'h).toNat_lt; omega
  · rw [pk_out h]; omega

theorem drewN_two (w : World) (a b : Nat) : (w.drewN a).drewN b = w.drewN (a + b) := by simp [World.drewN, Nat.add_assoc]

set_option maxHeartbeats 400000 in
theorem peek_any (s : ByteArray) (i b : Nat) (w : World) (hb : RdAt w b s i) (hi : i ≤ s.size) (hs : s.size ≤ 150) :
    Calls Try.prog 77 #[.pointer (some ⟨b, 0, none⟩)] w fun e w' => e = .returned (.int .i64 (pk s i)) ∧ ∃ n, w' = w.drewN n := by
  have c0 := hb.c0
  have c1 := hb.c1
  clear hb
  by_cases hlt : i < s.size
  · have hne : (((i : Int)) == (s.size : Int)) = false := by simp; omega
    rw [pk_in hlt]
    go_enter Try.func77, Try.ntmps77
    go_wp2
    go_quiet (fail)
    go_wp2
    go_quiet (fail)
    go_wp2
    go_ret
    exact ⟨congrArg (fun x => Ending.returned (.int .i64 x)) (IntWalk.wrap64_in _ (by have := (s[i]'hlt).toNat_lt; omega)), _, drewN_two _ _ _⟩
  · have hne : (((i : Int)) == (s.size : Int)) = true := by simp; omega
    rw [pk_out hlt]
    go_enter Try.func77, Try.ntmps77
    go_wp2
    go_quiet (fail)
    go_wp2
    go_ret
    exact ⟨rfl, _, rfl⟩

/-- What the reader gives up with. -/
def refusal (e p : Int) : List PanicEntry := [{ v := .iface 108 (.agg #[.int .i64 e, .int .i64 p]), recovered := false }]

theorem grownBy_refl (w : World) (r : Option Nat) : w.grownBy w r := ⟨rfl, rfl, rfl, Nat.le_refl _, fun _ _ _ => rfl⟩
theorem grownBy_trans {w1 w2 w3 : World} {r : Option Nat} (a : w1.grownBy w2 r) (b : w2.grownBy w3 r) : w1.grownBy w3 r :=
  ⟨b.os.trans a.os, b.tape.trans a.tape, b.output.trans a.output, Nat.le_trans a.size b.size, fun k hk hr => (b.block k (Nat.lt_of_lt_of_le hk a.size) hr).trans (a.block k hk hr)⟩
theorem grownBy_drewN (w : World) (n : Nat) (r : Option Nat) : w.grownBy (w.drewN n) r := ⟨rfl, rfl, rfl, Nat.le_refl _, fun _ _ _ => rfl⟩
theorem grownBy_setCell (w : World) (b o : Nat) (v : Value) : w.grownBy (w.setCell ⟨b, o, none⟩ v) (some b) := by
  refine ⟨rfl, rfl, rfl, by simp [World.setCell], fun k hk hr => ?_⟩
  have : b ≠ k := fun e => hr (by rw [e])
  simp [World.setCell, Array.getElem?_modify, this]
theorem RdAt.set {w : World} {b : Nat} {s : ByteArray} {i : Nat} (h : RdAt w b s i) (j : Nat) (v : Int) (hv : v = j) : RdAt (w.setCell ⟨b, 1, none⟩ (.int .i64 v)) b s j := by
  subst hv
  exact ⟨by simp [World.setCell, Array.getElem?_modify, h.blk]⟩
theorem RdAt.kept {w w' : World} {b r : Nat} {s : ByteArray} {i : Nat} (h : RdAt w b s i) (hg : w.grownBy w' (some r)) (hne : b ≠ r) : RdAt w' b s i :=
  ⟨(hg.block b h.lt (fun e => hne (Option.some.inj e))).trans h.blk⟩
theorem RdAt.alloc {w : World} {b : Nat} {s : ByteArray} {i : Nat} (h : RdAt w b s i) (o : Obj) : RdAt (w.alloc o) b s i := ⟨(heap_alloc_old w o h.lt).trans h.blk⟩
theorem RdAt.drewN {w : World} {b : Nat} {s : ByteArray} {i : Nat} (h : RdAt w b s i) (n : Nat) : RdAt (w.drewN n) b s i := ⟨h.blk⟩

set_option maxHeartbeats 400000 in
theorem take_no (s : ByteArray) (i b : Nat) (lo hi : Int) (w : World) (hb : RdAt w b s i) (hi1 : i ≤ s.size) (hs : s.size ≤ 150) (h0 : 0 ≤ lo) (h1 : lo ≤ hi) (h2 : hi < 256)
    (hno : pk s i < lo ∨ hi < pk s i) :
    Calls Try.prog 119 #[.pointer (some ⟨b, 0, none⟩), .int .u8 lo, .int .u8 hi] w fun e w' => e = .panicked (refusal 2 i) ∧ w.grownBy w' (some b) := by
  have c0 := hb.c0
  have c1 := hb.c1
  have hr := pk_range s i
  have hp := peek_any s i b w hb hi1 hs
  generalize pk s i = p at *
  have HP : Hid _ := hp
  clear hp hb
  rcases hno with hno | hno
  · go_enter Try.func119, Try.ntmps119
    go_wp2_with (go_at_call 77; go_must (refine Calls.mono HP.out ?_; rintro e w1 ⟨rfl, n, rfl⟩))
    exact ⟨rfl, rfl, grownBy_drewN _ _ _⟩
  · go_enter Try.func119, Try.ntmps119
    go_wp2_with (go_at_call 77; go_must (refine Calls.mono HP.out ?_; rintro e w1 ⟨rfl, n, rfl⟩))
    exact ⟨rfl, rfl, grownBy_drewN _ _ _⟩

set_option maxHeartbeats 400000 in
theorem take_yes (s : ByteArray) (i b : Nat) (lo hi : Int) (w : World) (hb : RdAt w b s i) (hi1 : i ≤ s.size) (hs : s.size ≤ 150) (h0 : 0 ≤ lo) (h1 : lo ≤ hi) (h2 : hi < 256)
    (hlo : lo ≤ pk s i) (hhi : pk s i ≤ hi) :
    Calls Try.prog 119 #[.pointer (some ⟨b, 0, none⟩), .int .u8 lo, .int .u8 hi] w fun e w' => e = .returned (.int .u8 (pk s i - lo)) ∧ RdAt w' b s (i + 1) ∧ w.grownBy w' (some b) := by
  have c0 := hb.c0
  have c1 := hb.c1
  have fz := hb.f1
  have hr := pk_range s i
  have hp := peek_any s i b w hb hi1 hs
  generalize pk s i = p at *
  have HP : Hid _ := hp
  clear hp
  have HB : Hid _ := hb
  clear hb
  go_enter Try.func119, Try.ntmps119
  go_wp2_with (go_at_call 77; go_must (refine Calls.mono HP.out ?_; rintro e w1 ⟨rfl, n, rfl⟩))
  go_ret
  exact ⟨rfl, (HB.out.drewN n).set (i + 1) _ (by omega), grownBy_trans (grownBy_drewN _ n _) (grownBy_setCell _ _ _ _)⟩

set_option maxHeartbeats 400000 in
theorem takeNumber_no (s : ByteArray) (i b : Nat) (w : World) (hb : RdAt w b s i) (hi1 : i ≤ s.size) (hs : s.size ≤ 150) (hno : pk s i < 97 ∨ 100 < pk s i) :
    Calls Try.prog 99 #[.pointer (some ⟨b, 0, none⟩)] w fun e w' => e = .panicked (refusal 2 i) ∧ w.grownBy w' (some b) := by
  have HP : Hid _ := take_no s i b 97 100 w hb hi1 hs (by omega) (by omega) (by omega) hno
  clear hb hno
  go_enter Try.func99, Try.ntmps99
  go_wp2_with (go_at_call 119; go_must (refine Calls.mono HP.out ?_; rintro e w1 ⟨rfl, hg⟩))
  exact ⟨rfl, rfl, hg⟩

set_option maxHeartbeats 400000 in
theorem takeNumber_yes (s : ByteArray) (i b : Nat) (w : World) (hb : RdAt w b s i) (hi1 : i ≤ s.size) (hs : s.size ≤ 150) (hlo : 97 ≤ pk s i) (hhi : pk s i ≤ 100) :
    Calls Try.prog 99 #[.pointer (some ⟨b, 0, none⟩)] w fun e w' => e = .returned (.int .u8 (pk s i - 97)) ∧ RdAt w' b s (i + 1) ∧ w.grownBy w' (some b) := by
  have HP : Hid _ := take_yes s i b 97 100 w hb hi1 hs (by omega) (by omega) (by omega) hlo hhi
  clear hb hlo hhi
  generalize pk s i = p at *
  go_enter Try.func99, Try.ntmps99
  go_wp2_with (go_at_call 119; go_must (refine Calls.mono HP.out ?_; rintro e w1 ⟨rfl, hr, hg⟩))
  go_ret
  exact ⟨rfl, hr, hg⟩

set_option maxHeartbeats 400000 in
theorem takeCell_no (s : ByteArray) (i b : Nat) (w : World) (hb : RdAt w b s i) (hi1 : i ≤ s.size) (hs : s.size ≤ 150) (hno : pk s i < 120 ∨ 122 < pk s i) :
    Calls Try.prog 101 #[.pointer (some ⟨b, 0, none⟩)] w fun e w' => e = .panicked (refusal 2 i) ∧ w.grownBy w' (some b) := by
  have HP : Hid _ := take_no s i b 120 122 w hb hi1 hs (by omega) (by omega) (by omega) hno
  clear hb hno
  go_enter Try.func101, Try.ntmps101
  go_wp2_with (go_at_call 119; go_must (refine Calls.mono HP.out ?_; rintro e w1 ⟨rfl, hg⟩))
  exact ⟨rfl, rfl, hg⟩

set_option maxHeartbeats 400000 in
theorem takeCell_yes (s : ByteArray) (i b : Nat) (w : World) (hb : RdAt w b s i) (hi1 : i ≤ s.size) (hs : s.size ≤ 150) (hlo : 120 ≤ pk s i) (hhi : pk s i ≤ 122) :
    Calls Try.prog 101 #[.pointer (some ⟨b, 0, none⟩)] w fun e w' => e = .returned (.int .u8 (pk s i - 120)) ∧ RdAt w' b s (i + 1) ∧ w.grownBy w' (some b) := by
  have HP : Hid _ := take_yes s i b 120 122 w hb hi1 hs (by omega) (by omega) (by omega) hlo hhi
  clear hb hlo hhi
  generalize pk s i = p at *
  go_enter Try.func101, Try.ntmps101
  go_wp2_with (go_at_call 119; go_must (refine Calls.mono HP.out ?_; rintro e w1 ⟨rfl, hr, hg⟩))
  go_ret
  exact ⟨rfl, hr, hg⟩

set_option maxHeartbeats 400000 in
theorem takeLock_no (s : ByteArray) (i b : Nat) (w : World) (hb : RdAt w b s i) (hi1 : i ≤ s.size) (hs : s.size ≤ 150) (hno : pk s i < 109 ∨ 110 < pk s i) :
    Calls Try.prog 102 #[.pointer (some ⟨b, 0, none⟩)] w fun e w' => e = .panicked (refusal 2 i) ∧ w.grownBy w' (some b) := by
  have HP : Hid _ := take_no s i b 109 110 w hb hi1 hs (by omega) (by omega) (by omega) hno
  clear hb hno
  go_enter Try.func102, Try.ntmps102
  go_wp2_with (go_at_call 119; go_must (refine Calls.mono HP.out ?_; rintro e w1 ⟨rfl, hg⟩))
  exact ⟨rfl, rfl, hg⟩

set_option maxHeartbeats 400000 in
theorem takeLock_yes (s : ByteArray) (i b : Nat) (w : World) (hb : RdAt w b s i) (hi1 : i ≤ s.size) (hs : s.size ≤ 150) (hlo : 109 ≤ pk s i) (hhi : pk s i ≤ 110) :
    Calls Try.prog 102 #[.pointer (some ⟨b, 0, none⟩)] w fun e w' => e = .returned (.int .u8 (pk s i - 109)) ∧ RdAt w' b s (i + 1) ∧ w.grownBy w' (some b) := by
  have HP : Hid _ := take_yes s i b 109 110 w hb hi1 hs (by omega) (by omega) (by omega) hlo hhi
  clear hb hlo hhi
  generalize pk s i = p at *
  go_enter Try.func102, Try.ntmps102
  go_wp2_with (go_at_call 119; go_must (refine Calls.mono HP.out ?_; rintro e w1 ⟨rfl, hr, hg⟩))
  go_ret
  exact ⟨rfl, hr, hg⟩

set_option maxHeartbeats 400000 in
theorem takeDigit_no (s : ByteArray) (i b : Nat) (w : World) (hb : RdAt w b s i) (hi1 : i ≤ s.size) (hs : s.size ≤ 150) (hno : pk s i < 48 ∨ 57 < pk s i) :
    Calls Try.prog 100 #[.pointer (some ⟨b, 0, none⟩)] w fun e w' => e = .panicked (refusal 2 i) ∧ w.grownBy w' (some b) := by
  have HP : Hid _ := take_no s i b 48 57 w hb hi1 hs (by omega) (by omega) (by omega) hno
  clear hb hno
  go_enter Try.func100, Try.ntmps100
  go_wp2_with (go_at_call 119; go_must (refine Calls.mono HP.out ?_; rintro e w1 ⟨rfl, hg⟩))
  exact ⟨rfl, rfl, hg⟩

set_option maxHeartbeats 400000 in
theorem takeDigit_yes (s : ByteArray) (i b : Nat) (w : World) (hb : RdAt w b s i) (hi1 : i ≤ s.size) (hs : s.size ≤ 150) (hlo : 48 ≤ pk s i) (hhi : pk s i ≤ 57) :
    Calls Try.prog 100 #[.pointer (some ⟨b, 0, none⟩)] w fun e w' => e = .returned (.int .u8 (pk s i - 48)) ∧ RdAt w' b s (i + 1) ∧ w.grownBy w' (some b) := by
  have HP : Hid _ := take_yes s i b 48 57 w hb hi1 hs (by omega) (by omega) (by omega) hlo hhi
  clear hb hlo hhi
  generalize pk s i = p at *
  go_enter Try.func100, Try.ntmps100
  go_wp2_with (go_at_call 119; go_must (refine Calls.mono HP.out ?_; rintro e w1 ⟨rfl, hr, hg⟩))
  go_ret
  exact ⟨rfl, hr, hg⟩

end Go.Proofs.Ytimgindeiekpmaa
