import Derived.Test.YtimgindeiekpmaaCc01
import Derived.BigQuiet
import Derived.BigRegion
import Derived.Deep.RegionWith
import Derived.Test.YtimgindeiekpmaaPa01
import Derived.Deep.AppendLies
import Derived.ArgAppend
import Derived.Test.YtimgindeiekpmaaPa20
import Derived.Deep.RegionHeld3
set_option linter.unusedSimpArgs false
set_option linter.unusedVariables false
namespace Go.Proofs.Ytimgindeiekpmaa
open Go.RowKit Wv

def icB (c : Int) : Bool := c == 114 || c == 119
def ilB (c : Int) : Bool := c == 108 || c == 117
/-- Have two turns to do with one another, by the code. -/
def htd (n m cx cy ax ay lx ly : Int) : Bool := if (n == m) = true then true else if (icB cx && icB cy) = true then (ax == ay && (cx == 119 || cy == 119)) else if (ilB cx && ilB cy) = true then lx == ly else false
theorem htd_bound {s : ByteArray} {n m x y : Nat} (hx : stepBad s x = none) (hy : stepBad s y = none) :
    htd (n : Int) (m : Int) (pk s x) (pk s y) (cCell s x) (cCell s y) (cLock s x) (cLock s y) = boundB s n x m y := by
  have bx := good_bounds hx
  have b_y := good_bounds hy
  have hnm : ((n : Int) == (m : Int)) = (n == m) := by
    by_cases h : n = m
    · subst h; simp
    · have h2 : ¬ (n : Int) = (m : Int) := by omega
      rw [beq_eq_false_iff_ne.2 h, beq_eq_false_iff_ne.2 h2]
  unfold htd boundB icB ilB cellOf lockOf isW cCell cLock
  rw [hnm]
  generalize stepA s x = ax at *
  generalize stepB s x = bx' at *
  generalize stepA s y = ay at *
  generalize stepB s y = by' at *
  generalize pk s x = c at *
  generalize pk s y = d at *
  clear hx hy hnm
  cases (n == m) with
  | true => simp
  | false =>
    rcases (show c = 114 ∨ c = 119 ∨ c = 108 ∨ c = 117 ∨ (¬ c = 114 ∧ ¬ c = 119 ∧ ¬ c = 108 ∧ ¬ c = 117) from by omega) with rfl | rfl | rfl | rfl | ⟨c1, c2, c3, c4⟩ <;>
    rcases (show d = 114 ∨ d = 119 ∨ d = 108 ∨ d = 117 ∨ (¬ d = 114 ∧ ¬ d = 119 ∧ ¬ d = 108 ∧ ¬ d = 117) from by omega) with rfl | rfl | rfl | rfl | ⟨d1, d2, d3, d4⟩ <;>
    simp [*] <;> (try omega)
theorem blk8 {w : World} {b : Nat} {v0 v1 v2 v3 v4 v5 v6 v7 : Value} {t : TypeId} (h : w.heap[b]? = some (.cells #[v0, v1, v2, v3, v4, v5, v6, v7] t (0, 0))) :
    w.cell? ⟨b, 0, none⟩ = some v0 ∧ w.cell? ⟨b, 1, none⟩ = some v1 ∧ w.cell? ⟨b, 2, none⟩ = some v2 ∧ w.cell? ⟨b, 3, none⟩ = some v3 ∧ w.cell? ⟨b, 4, none⟩ = some v4 ∧ w.cell? ⟨b, 5, none⟩ = some v5 ∧ w.cell? ⟨b, 6, none⟩ = some v6 ∧ w.cell? ⟨b, 7, none⟩ = some v7 := by
  refine ⟨?_, ?_, ?_, ?_, ?_, ?_, ?_, ?_⟩ <;> simp [World.cell?, h]

set_option maxHeartbeats 400000 in
theorem isOfCell_any (c0 c1 c2 c3 c4 c5 c6 : Int) (w : World) :
    Calls Try.prog 117 #[.agg #[.int .u8 c0, .int .u8 c1, .int .u8 c2, .int .u8 c3, .int .u8 c4, .int .u8 c5, .int .i64 c6]] w fun e w' => e = .returned (.bool (icB c0)) ∧ w.grownBy w' none := by
  unfold icB
  cases h1 : (c0 == 114) with
  | true =>
    go_enter Try.func117, Try.ntmps117
    go_wp2_with fail
    go_ret
    exact ⟨by simp, World.grownBy_alloc _ _ _⟩
  | false =>
    go_enter Try.func117, Try.ntmps117
    go_wp2_with fail
    go_ret
    exact ⟨by simp, World.grownBy_alloc _ _ _⟩

set_option maxHeartbeats 400000 in
theorem isOfLock_any (c0 c1 c2 c3 c4 c5 c6 : Int) (w : World) :
    Calls Try.prog 118 #[.agg #[.int .u8 c0, .int .u8 c1, .int .u8 c2, .int .u8 c3, .int .u8 c4, .int .u8 c5, .int .i64 c6]] w fun e w' => e = .returned (.bool (ilB c0)) ∧ w.grownBy w' none := by
  unfold ilB
  cases h1 : (c0 == 108) with
  | true =>
    go_enter Try.func118, Try.ntmps118
    go_wp2_with fail
    go_ret
    exact ⟨by simp, World.grownBy_alloc _ _ _⟩
  | false =>
    go_enter Try.func118, Try.ntmps118
    go_wp2_with fail
    go_ret
    exact ⟨by simp, World.grownBy_alloc _ _ _⟩

set_option maxHeartbeats 1000000 in
set_option maxRecDepth 100000 in
theorem htd_any (n m c0 c1 c2 c3 c4 c5 c6 d0 d1 d2 d3 d4 d5 d6 : Int) (w : World) :
    Calls Try.prog 98 #[.agg #[.int .i64 n, .int .u8 c0, .int .u8 c1, .int .u8 c2, .int .u8 c3, .int .u8 c4, .int .u8 c5, .int .i64 c6], .agg #[.int .i64 m, .int .u8 d0, .int .u8 d1, .int .u8 d2, .int .u8 d3, .int .u8 d4, .int .u8 d5, .int .i64 d6]] w fun e w' => e = .returned (.bool (htd n m c0 d0 c3 d3 c4 d4)) ∧ w.grownBy w' none := by
  have HC : Hid _ := isOfCell_any
  have HK : Hid _ := isOfLock_any
  have HX : Hid _ := B2.start w (.cells #[.int .i64 n, .int .u8 c0, .int .u8 c1, .int .u8 c2, .int .u8 c3, .int .u8 c4, .int .u8 c5, .int .i64 c6] 146) (.cells #[.int .i64 m, .int .u8 d0, .int .u8 d1, .int .u8 d2, .int .u8 d3, .int .u8 d4, .int .u8 d5, .int .i64 d6] 146)
  cases hE : (n == m) with
  | true =>
    go_enter Try.func98, Try.ntmps98
    go_wp2_with (first | (go_at_call 117; go_must (refine Calls.mono (HC.out _ _ _ _ _ _ _ _) ?_; rintro e1 w1 ⟨rfl, hg1⟩; have h1 := HX.out.later hg1; obtain ⟨p0, p1, p2, p3, p4, p5, p6, p7⟩ := blk8 h1.one; obtain ⟨q0, q1, q2, q3, q4, q5, q6, q7⟩ := blk8 h1.two; have HX : Hid _ := h1; clear hg1 h1)) | (go_at_call 118; go_must (refine Calls.mono (HK.out _ _ _ _ _ _ _ _) ?_; rintro e1 w1 ⟨rfl, hg1⟩; have h1 := HX.out.later hg1; obtain ⟨p0, p1, p2, p3, p4, p5, p6, p7⟩ := blk8 h1.one; obtain ⟨q0, q1, q2, q3, q4, q5, q6, q7⟩ := blk8 h1.two; have HX : Hid _ := h1; clear hg1 h1)))
    go_ret
    exact ⟨by simp [htd, *], HX.out.grown⟩
  | false =>
    cases hI : icB c0 with
    | false =>
      cases hL : ilB c0 with
      | false =>
        go_enter Try.func98, Try.ntmps98
        go_wp2_with (first | (go_at_call 117; go_must (refine Calls.mono (HC.out _ _ _ _ _ _ _ _) ?_; rintro e1 w1 ⟨rfl, hg1⟩; have h1 := HX.out.later hg1; obtain ⟨p0, p1, p2, p3, p4, p5, p6, p7⟩ := blk8 h1.one; obtain ⟨q0, q1, q2, q3, q4, q5, q6, q7⟩ := blk8 h1.two; have HX : Hid _ := h1; clear hg1 h1)) | (go_at_call 118; go_must (refine Calls.mono (HK.out _ _ _ _ _ _ _ _) ?_; rintro e1 w1 ⟨rfl, hg1⟩; have h1 := HX.out.later hg1; obtain ⟨p0, p1, p2, p3, p4, p5, p6, p7⟩ := blk8 h1.one; obtain ⟨q0, q1, q2, q3, q4, q5, q6, q7⟩ := blk8 h1.two; have HX : Hid _ := h1; clear hg1 h1)))
        go_ret
        exact ⟨by simp [htd, *], HX.out.grown⟩
      | true =>
        cases hM : ilB d0 with
        | false =>
          go_enter Try.func98, Try.ntmps98
          go_wp2_with (first | (go_at_call 117; go_must (refine Calls.mono (HC.out _ _ _ _ _ _ _ _) ?_; rintro e1 w1 ⟨rfl, hg1⟩; have h1 := HX.out.later hg1; obtain ⟨p0, p1, p2, p3, p4, p5, p6, p7⟩ := blk8 h1.one; obtain ⟨q0, q1, q2, q3, q4, q5, q6, q7⟩ := blk8 h1.two; have HX : Hid _ := h1; clear hg1 h1)) | (go_at_call 118; go_must (refine Calls.mono (HK.out _ _ _ _ _ _ _ _) ?_; rintro e1 w1 ⟨rfl, hg1⟩; have h1 := HX.out.later hg1; obtain ⟨p0, p1, p2, p3, p4, p5, p6, p7⟩ := blk8 h1.one; obtain ⟨q0, q1, q2, q3, q4, q5, q6, q7⟩ := blk8 h1.two; have HX : Hid _ := h1; clear hg1 h1)))
          go_ret
          exact ⟨by simp [htd, *], HX.out.grown⟩
        | true =>
          go_enter Try.func98, Try.ntmps98
          go_wp2_with (first | (go_at_call 117; go_must (refine Calls.mono (HC.out _ _ _ _ _ _ _ _) ?_; rintro e1 w1 ⟨rfl, hg1⟩; have h1 := HX.out.later hg1; obtain ⟨p0, p1, p2, p3, p4, p5, p6, p7⟩ := blk8 h1.one; obtain ⟨q0, q1, q2, q3, q4, q5, q6, q7⟩ := blk8 h1.two; have HX : Hid _ := h1; clear hg1 h1)) | (go_at_call 118; go_must (refine Calls.mono (HK.out _ _ _ _ _ _ _ _) ?_; rintro e1 w1 ⟨rfl, hg1⟩; have h1 := HX.out.later hg1; obtain ⟨p0, p1, p2, p3, p4, p5, p6, p7⟩ := blk8 h1.one; obtain ⟨q0, q1, q2, q3, q4, q5, q6, q7⟩ := blk8 h1.two; have HX : Hid _ := h1; clear hg1 h1)))
          go_ret
          exact ⟨by simp [htd, *], HX.out.grown⟩
    | true =>
      have hL : ilB c0 = false := by
        have : c0 = 114 ∨ c0 = 119 := by simpa [icB] using hI
        rcases this with rfl | rfl <;> rfl
      cases hJ : icB d0 with
      | false =>
        go_enter Try.func98, Try.ntmps98
        go_wp2_with (first | (go_at_call 117; go_must (refine Calls.mono (HC.out _ _ _ _ _ _ _ _) ?_; rintro e1 w1 ⟨rfl, hg1⟩; have h1 := HX.out.later hg1; obtain ⟨p0, p1, p2, p3, p4, p5, p6, p7⟩ := blk8 h1.one; obtain ⟨q0, q1, q2, q3, q4, q5, q6, q7⟩ := blk8 h1.two; have HX : Hid _ := h1; clear hg1 h1)) | (go_at_call 118; go_must (refine Calls.mono (HK.out _ _ _ _ _ _ _ _) ?_; rintro e1 w1 ⟨rfl, hg1⟩; have h1 := HX.out.later hg1; obtain ⟨p0, p1, p2, p3, p4, p5, p6, p7⟩ := blk8 h1.one; obtain ⟨q0, q1, q2, q3, q4, q5, q6, q7⟩ := blk8 h1.two; have HX : Hid _ := h1; clear hg1 h1)))
        go_ret
        exact ⟨by simp [htd, *], HX.out.grown⟩
      | true =>
        cases hC : (c3 == d3) with
        | false =>
          go_enter Try.func98, Try.ntmps98
          go_wp2_with (first | (go_at_call 117; go_must (refine Calls.mono (HC.out _ _ _ _ _ _ _ _) ?_; rintro e1 w1 ⟨rfl, hg1⟩; have h1 := HX.out.later hg1; obtain ⟨p0, p1, p2, p3, p4, p5, p6, p7⟩ := blk8 h1.one; obtain ⟨q0, q1, q2, q3, q4, q5, q6, q7⟩ := blk8 h1.two; have HX : Hid _ := h1; clear hg1 h1)) | (go_at_call 118; go_must (refine Calls.mono (HK.out _ _ _ _ _ _ _ _) ?_; rintro e1 w1 ⟨rfl, hg1⟩; have h1 := HX.out.later hg1; obtain ⟨p0, p1, p2, p3, p4, p5, p6, p7⟩ := blk8 h1.one; obtain ⟨q0, q1, q2, q3, q4, q5, q6, q7⟩ := blk8 h1.two; have HX : Hid _ := h1; clear hg1 h1)))
          go_ret
          exact ⟨by simp [htd, *], HX.out.grown⟩
        | true =>
          cases hW : (c0 == 119) with
          | true =>
            go_enter Try.func98, Try.ntmps98
            go_wp2_with (first | (go_at_call 117; go_must (refine Calls.mono (HC.out _ _ _ _ _ _ _ _) ?_; rintro e1 w1 ⟨rfl, hg1⟩; have h1 := HX.out.later hg1; obtain ⟨p0, p1, p2, p3, p4, p5, p6, p7⟩ := blk8 h1.one; obtain ⟨q0, q1, q2, q3, q4, q5, q6, q7⟩ := blk8 h1.two; have HX : Hid _ := h1; clear hg1 h1)) | (go_at_call 118; go_must (refine Calls.mono (HK.out _ _ _ _ _ _ _ _) ?_; rintro e1 w1 ⟨rfl, hg1⟩; have h1 := HX.out.later hg1; obtain ⟨p0, p1, p2, p3, p4, p5, p6, p7⟩ := blk8 h1.one; obtain ⟨q0, q1, q2, q3, q4, q5, q6, q7⟩ := blk8 h1.two; have HX : Hid _ := h1; clear hg1 h1)))
            go_ret
            exact ⟨by simp [htd, *], HX.out.grown⟩
          | false =>
            go_enter Try.func98, Try.ntmps98
            go_wp2_with (first | (go_at_call 117; go_must (refine Calls.mono (HC.out _ _ _ _ _ _ _ _) ?_; rintro e1 w1 ⟨rfl, hg1⟩; have h1 := HX.out.later hg1; obtain ⟨p0, p1, p2, p3, p4, p5, p6, p7⟩ := blk8 h1.one; obtain ⟨q0, q1, q2, q3, q4, q5, q6, q7⟩ := blk8 h1.two; have HX : Hid _ := h1; clear hg1 h1)) | (go_at_call 118; go_must (refine Calls.mono (HK.out _ _ _ _ _ _ _ _) ?_; rintro e1 w1 ⟨rfl, hg1⟩; have h1 := HX.out.later hg1; obtain ⟨p0, p1, p2, p3, p4, p5, p6, p7⟩ := blk8 h1.one; obtain ⟨q0, q1, q2, q3, q4, q5, q6, q7⟩ := blk8 h1.two; have HX : Hid _ := h1; clear hg1 h1)))
            go_ret
            exact ⟨by simp [htd, *], HX.out.grown⟩
end Go.Proofs.Ytimgindeiekpmaa

set_option linter.unusedSimpArgs false
set_option linter.unusedVariables false
namespace Go.Proofs.Ytimgindeiekpmaa
open Go.RowKit Wv

/-- A turn that was made, as the program keeps it. -/
def madeK (s : ByteArray) (n x : Nat) : List Value := .int .i64 (n : Int) :: ccells s x
theorem crow_cells {w : World} {base g cap : Nat} {s : ByteArray} {row : List (Nat × Nat)} (h : w.ownsRow base 146 8 (.slice (some ⟨g, 0, none⟩) row.length cap) row.length (rowC (ccells s) row)) {k : Nat} (hk : k < row.length) :
    w.cell? ⟨g, k * 8, none⟩ = some (.int .i64 ((mAt row k).1 : Int)) ∧
    w.cell? ⟨g, k * 8 + 1, none⟩ = some (.int .u8 (pk s (mAt row k).2)) ∧
    w.cell? ⟨g, k * 8 + 2, none⟩ = some (.int .u8 (cNum s (mAt row k).2)) ∧
    w.cell? ⟨g, k * 8 + 3, none⟩ = some (.int .u8 (cSec s (mAt row k).2)) ∧
    w.cell? ⟨g, k * 8 + 4, none⟩ = some (.int .u8 (cCell s (mAt row k).2)) ∧
    w.cell? ⟨g, k * 8 + 5, none⟩ = some (.int .u8 (cLock s (mAt row k).2)) ∧
    w.cell? ⟨g, k * 8 + 6, none⟩ = some (.int .u8 (cDig s (mAt row k).2)) ∧
    w.cell? ⟨g, k * 8 + 7, none⟩ = some (.int .i64 (cPl s (mAt row k).2)) := by
  have hc : ∀ j u, j < 8 → ((.int .i64 ((mAt row k).1 : Int) :: ccells s (mAt row k).2 : List Value))[j]? = some u → w.cell? ⟨g, k * 8 + j, none⟩ = some u := fun j u hj hu => by
    have h1 := h.cells (g := g) rfl (k * 8 + j) u (by rw [rowC_get (sz := 7) (fun _ => rfl) row k hk j hj]; exact hu)
    have hadd : (⟨g, 0, none⟩ : Addr).add (k * 8 + j) = ⟨g, k * 8 + j, none⟩ := by unfold Addr.add; split <;> simp_all
    rw [hadd] at h1
    exact h1
  exact ⟨hc 0 _ (by omega) rfl, hc 1 _ (by omega) rfl, hc 2 _ (by omega) rfl, hc 3 _ (by omega) rfl, hc 4 _ (by omega) rfl, hc 5 _ (by omega) rfl, hc 6 _ (by omega) rfl, hc 7 _ (by omega) rfl⟩

set_option maxHeartbeats 1000000 in
set_option maxRecDepth 100000 in
theorem stays_any (s : ByteArray) (row : List (Nat × Nat)) (n x : Nat) (rv : Value) (base : Nat) (w : World) (hown : w.ownsRow base 146 8 rv row.length (rowC (ccells s) row)) (hlen : row.length ≤ 100) (hgood : ∀ k, k < row.length → stepBad s (mAt row k).2 = none) (hx : stepBad s x = none) :
    Calls Try.prog 75 #[rv, .agg (madeK s n x).toArray] w fun e w' => e = .returned (.bool (!lateK s row n x row.length)) ∧ w.grownBy w' none := by
  have HB : Hid (∀ m y, stepBad s y = none → ∀ W, Calls Try.prog 98 #[.agg (madeK s m y).toArray, .agg (madeK s n x).toArray] W fun e w' => e = .returned (.bool (boundB s m y n x)) ∧ W.grownBy w' none) := fun m y hy W => by
    rw [← htd_bound hy hx]; exact htd_any _ _ _ _ _ _ _ _ _ _ _ _ _ _ _ _ W
  have HO : Hid _ := hown
  obtain ⟨ao, cap, rfl⟩ := ownsRow_slice hown
  have wl := wrap_pred row.length (by omega)
  clear hown hx
  unfold madeK ccells at HB ⊢
  go_enter Try.func75, Try.ntmps75
  go_wp2_with fail
  go_loopw [5] (fun iv wr => ∃ k : Nat, k ≤ row.length ∧ iv = .int .i64 ((k : Int) - 1) ∧ Hid (lateK s row n x k = lateK s row n x row.length ∧ (w.alloc (.cells #[.int .i64 (n : Int), .int .u8 (pk s x), .int .u8 (cNum s x), .int .u8 (cSec s x), .int .u8 (cCell s x), .int .u8 (cLock s x), .int .u8 (cDig s x), .int .i64 (cPl s x)] 146)).grownBy wr none)) (fun iv _ => (intOf iv + 1).toNat)
  case atStart => exact ⟨row.length, Nat.le_refl _, rfl, rfl, grownBy_refl _ _⟩
  case round =>
    obtain ⟨k, hk, rfl, hl⟩ := hrel
    cases k with
    | zero =>
      have hl1 := hl.out.1
      rw [lateK] at hl1
      have HL : Hid _ := hl1
      have HG : Hid _ := hl.out.2
      have HS0 : GrW wr wr.drew := GrW.start _
      have j3 : decide ((0 : Int) ≤ -1) = false := by decide
      rw [show ((0 : Nat) : Int) - 1 = -1 from rfl]
      clear hl hl1
      go_wp2_with fail
      go_quiet (fail)
      go_wp2_with fail
      go_ret
      exact ⟨by rw [← HL.out]; rfl, grownBy_trans (World.grownBy_alloc _ _ _) (grownBy_trans HG.out (grownBy_drewN _ _ _))⟩
    | succ k =>
      obtain ⟨g, rfl⟩ : ∃ g, ao = some ⟨g, 0, none⟩ := by
        obtain ⟨g, cap', h, _⟩ := World.ownsRow.form (w := w) (base := base) (e := 146) (size := 8) (xs := rowC (ccells s) row) HO.out (by omega)
        simp at h; exact ⟨g, h.1⟩
      obtain ⟨p0, p1, p2, p3, p4, p5, p6, p7⟩ := crow_cells HO.out (k := k) (by omega)
      have HG : Hid _ := hl.out.2
      have HW : Hid (w.grownBy wr none) := grownBy_trans (World.grownBy_alloc _ _ _) hl.out.2
      obtain ⟨b0, b1, b2, b3, b4, b5, b6, b7⟩ := blk8 (heap_alloc_new w (.cells #[.int .i64 (n : Int), .int .u8 (pk s x), .int .u8 (cNum s x), .int .u8 (cSec s x), .int .u8 (cCell s x), .int .u8 (cLock s x), .int .u8 (cDig s x), .int .i64 (cPl s x)] 146))
      have q0 : ∀ W, GrW wr W → W.cell? ⟨g, k * 8, none⟩ = some (.int .i64 ((mAt row k).1 : Int)) := fun W h => (grownBy_trans HW.out h.gr).cell p0 (by simp)
      have q1 : ∀ W, GrW wr W → W.cell? ⟨g, k * 8 + 1, none⟩ = some (.int .u8 (pk s (mAt row k).2)) := fun W h => (grownBy_trans HW.out h.gr).cell p1 (by simp)
      have q2 : ∀ W, GrW wr W → W.cell? ⟨g, k * 8 + 2, none⟩ = some (.int .u8 (cNum s (mAt row k).2)) := fun W h => (grownBy_trans HW.out h.gr).cell p2 (by simp)
      have q3 : ∀ W, GrW wr W → W.cell? ⟨g, k * 8 + 3, none⟩ = some (.int .u8 (cSec s (mAt row k).2)) := fun W h => (grownBy_trans HW.out h.gr).cell p3 (by simp)
      have q4 : ∀ W, GrW wr W → W.cell? ⟨g, k * 8 + 4, none⟩ = some (.int .u8 (cCell s (mAt row k).2)) := fun W h => (grownBy_trans HW.out h.gr).cell p4 (by simp)
      have q5 : ∀ W, GrW wr W → W.cell? ⟨g, k * 8 + 5, none⟩ = some (.int .u8 (cLock s (mAt row k).2)) := fun W h => (grownBy_trans HW.out h.gr).cell p5 (by simp)
      have q6 : ∀ W, GrW wr W → W.cell? ⟨g, k * 8 + 6, none⟩ = some (.int .u8 (cDig s (mAt row k).2)) := fun W h => (grownBy_trans HW.out h.gr).cell p6 (by simp)
      have q7 : ∀ W, GrW wr W → W.cell? ⟨g, k * 8 + 7, none⟩ = some (.int .i64 (cPl s (mAt row k).2)) := fun W h => (grownBy_trans HW.out h.gr).cell p7 (by simp)
      have c0 : ∀ W, GrW wr W → W.cell? ⟨w.heap.size, 0, none⟩ = some (.int .i64 (n : Int)) := fun W h => (grownBy_trans HG.out h.gr).cell b0 (by simp)
      have c1 : ∀ W, GrW wr W → W.cell? ⟨w.heap.size, 1, none⟩ = some (.int .u8 (pk s x)) := fun W h => (grownBy_trans HG.out h.gr).cell b1 (by simp)
      have c2 : ∀ W, GrW wr W → W.cell? ⟨w.heap.size, 2, none⟩ = some (.int .u8 (cNum s x)) := fun W h => (grownBy_trans HG.out h.gr).cell b2 (by simp)
      have c3 : ∀ W, GrW wr W → W.cell? ⟨w.heap.size, 3, none⟩ = some (.int .u8 (cSec s x)) := fun W h => (grownBy_trans HG.out h.gr).cell b3 (by simp)
      have c4 : ∀ W, GrW wr W → W.cell? ⟨w.heap.size, 4, none⟩ = some (.int .u8 (cCell s x)) := fun W h => (grownBy_trans HG.out h.gr).cell b4 (by simp)
      have c5 : ∀ W, GrW wr W → W.cell? ⟨w.heap.size, 5, none⟩ = some (.int .u8 (cLock s x)) := fun W h => (grownBy_trans HG.out h.gr).cell b5 (by simp)
      have c6 : ∀ W, GrW wr W → W.cell? ⟨w.heap.size, 6, none⟩ = some (.int .u8 (cDig s x)) := fun W h => (grownBy_trans HG.out h.gr).cell b6 (by simp)
      have c7 : ∀ W, GrW wr W → W.cell? ⟨w.heap.size, 7, none⟩ = some (.int .i64 (cPl s x)) := fun W h => (grownBy_trans HG.out h.gr).cell b7 (by simp)
      have hB := HB.out (mAt row k).1 (mAt row k).2 (hgood k (by omega))
      have HL : Hid _ := hl.out.1
      have HS0 : GrW wr wr.drew := GrW.start _
      have j0 : (0 : Int) ≤ (k : Int) := by omega
      have j1 : (k : Int) < (row.length : Int) := by omega
      have j2 : ((k + 1 : Nat) : Int) - 1 = (k : Int) := by omega
      have j3 : decide ((0 : Int) ≤ (k : Int)) = true := by simp
      have j4 := wrap_pred k (by omega)
      have HHK : Hid _ := hk
      rw [j2]
      clear hl p0 p1 p2 p3 p4 p5 p6 p7 b0 b1 b2 b3 b4 b5 b6 b7 j2 hk hlen hgood
      cases hb : boundB s (mAt row k).1 (mAt row k).2 n x with
      | true =>
        rw [hb] at hB
        have HBD : Hid _ := hB
        have hlt := late_bound hb
        rw [HL.out] at hlt
        have HLT : Hid _ := hlt
        clear hB hb hlt HB HL
        generalize (mAt row k).1 = m at *
        generalize (mAt row k).2 = y at *
        go_wp2_with fail
        go_region_held3 (fun W => GrW wr W) (first | assumption | exact GrW.later ‹GrW _ _› ‹World.grownBy _ _ _›) (first | (go_at_call 98; refine Calls.mono (HBD.out _) ?_; rintro e9 w9 ⟨rfl, hg9⟩))
        go_wp2_with fail
        go_ret
        exact ⟨by rw [HLT.out]; rfl, grownBy_trans HW.out (‹GrW _ _›).gr⟩
      | false =>
        rw [hb] at hB
        have HBD : Hid _ := hB
        by_cases hm : n < (mAt row k).1
        · have hlt := late_high hb hm
          rw [HL.out] at hlt
          have HLT : Hid _ := hlt
          have j5 : decide ((n : Int) < ((mAt row k).1 : Int)) = true := by simp; omega
          clear hB hb hlt HB HL
          generalize (mAt row k).1 = m at *
          generalize (mAt row k).2 = y at *
          go_wp2_with fail
          go_region_held3 (fun W => GrW wr W) (first | assumption | exact GrW.later ‹GrW _ _› ‹World.grownBy _ _ _›) (first | (go_at_call 98; refine Calls.mono (HBD.out _) ?_; rintro e9 w9 ⟨rfl, hg9⟩))
          go_wp2_with fail
          have HS9 : GrW wr w9.drew := (‹GrW wr w9›).later (rgrown_drew (grownBy_refl _ _))
          go_region_held3 (fun W => GrW wr W) (first | assumption | exact GrW.later ‹GrW _ _› ‹World.grownBy _ _ _›) (fail)
          go_wp2_with fail
          go_ret
          exact ⟨by rw [HLT.out]; rfl, grownBy_trans HW.out (‹GrW _ _›).gr⟩
        · have hlt := late_next hb hm
          rw [HL.out] at hlt
          have HLT : Hid _ := hlt
          have j5 : decide ((n : Int) < ((mAt row k).1 : Int)) = false := by simp; omega
          clear hB hb hlt HB HL
          generalize (mAt row k).1 = m at *
          generalize (mAt row k).2 = y at *
          go_wp2_with fail
          go_region_held3 (fun W => GrW wr W) (first | assumption | exact GrW.later ‹GrW _ _› ‹World.grownBy _ _ _›) (first | (go_at_call 98; refine Calls.mono (HBD.out _) ?_; rintro e9 w9 ⟨rfl, hg9⟩))
          go_wp2_with fail
          have HS9 : GrW wr w9.drew := (‹GrW wr w9›).later (rgrown_drew (grownBy_refl _ _))
          go_region_held3 (fun W => GrW wr W) (first | assumption | exact GrW.later ‹GrW _ _› ‹World.grownBy _ _ _›) (fail)
          go_wp2_with fail
          go_roundw
          case rel => exact ⟨k, by have := HHK.out; omega, by first | rfl | go_num, HLT.out.symm, grownBy_trans HG.out (‹GrW _ _›).gr⟩
          case measure => simp [intOf] <;> omega
end Go.Proofs.Ytimgindeiekpmaa

set_option linter.unusedSimpArgs false
set_option linter.unusedVariables false
namespace Go.Proofs.Ytimgindeiekpmaa
open Go

section
variable {P : Program} (w : World)
/-- An append whose old row stays in use: whatever is done behind it to the new row's tail, the old one reads as before. -/
theorem run_append_keeps (t ty : TypeId) (base : Nat) (e : TypeId) (i : TypeInfo) (z : Value) (size bytes : Nat) (ht : P.underlying t = some (.slice e)) (hi : P.info? e = some i) (hz : i.zero = some z)
    (hsize : i.size = size) (hby : i.bytes = bytes) (hzs : z.cells.size = size) (hsz : 0 < size)
    (v : Value) (n : Nat) (xs : List Value) (hown : w.ownsRow base e size v n xs)
    (ad : Addr) (m c : Nat) (news : List Value) (hl : news.length = m * size) (hnews : ∀ j u, news[j]? = some u → w.cell? (ad.add j) = some u) (h1 : ∀ u ∈ news, u.oneCell' = true)
    (hm : 0 < m) (h63 : n + m ≤ maxLen) (hbytes : (n + m) * bytes ≤ 140737488355328) (hbase : base ≤ w.heap.size) (H : Nat) (hH : w.heap.size = H) :
    ∃ g cap w', (Builtin.append_ #[t, t] ty #[v, .slice (some ad) m c]).run P w = .ok (.slice (some ⟨g, 0, none⟩) (n + m) cap) w' ∧
      w'.ownsRow base e size (.slice (some ⟨g, 0, none⟩) (n + m) cap) (n + m) (xs ++ news) ∧ w.grownBy w' v.ownBlock ∧ (v.ownBlock = some g ∨ g = H) ∧
      (∀ w8, w'.grownBy w8 (some g) → w8.ownsRow base e size (.slice (some ⟨g, 0, none⟩) (n + m) cap) (n + m) (xs ++ news) → w8.ownsRow base e size v n xs) := by
  obtain ⟨g, cap, w', hr, h2, h3, h4, h5⟩ := run_append_lies (P := P) w t ty base e i z size bytes ht hi hz hsize hby hzs hsz v n xs hown ad m c news hl hnews h1 hm h63 hbytes hbase H hH
  refine ⟨g, cap, w', hr, h2, h3, h4, fun w8 hg8 ho8 => ?_⟩
  rcases hown.2 with ⟨rfl, rfl⟩ | ⟨g0, cap0, cur, rfl, hbg, hg, hnc, hcm, hcs, htake⟩
  · obtain rfl : xs = [] := List.eq_nil_of_length_eq_zero (by simpa using hown.1)
    exact World.ownsRow_nil _ _ _ _
  · by_cases hroom : n + m ≤ cap0
    · have hr2 := run_append_room (P := P) w t ty e i ht hi g0 n cap0 cur hg ad m c news (by rw [hsize]; exact hl) hnews h1 hroom (by rw [hsize, hl, hcs, ← Nat.add_mul]; exact Nat.mul_le_mul_right _ hroom)
      rw [hr2] at hr
      injection hr with e1 e2
      injection e1 with e3 e4 e5
      subst e5
      obtain rfl : g0 = g := by simpa using e3
      rcases ho8.2 with ⟨hx, _⟩ | ⟨g1, cap1, cur1, hv1, hb1, hg1, hn1, hm1, hs1, ht1⟩
      · simp at hx
      · simp at hv1
        obtain ⟨rfl, rfl⟩ := hv1
        refine ⟨hown.1, .inr ⟨g0, cap0, cur1, rfl, hb1, hg1, hnc, hm1, hs1, ?_⟩⟩
        have hh : (cur1.toList.take ((n + m) * size)).take (n * size) = (xs ++ news).take (n * size) := by rw [ht1]
        rw [List.take_take, Nat.min_eq_left (Nat.mul_le_mul_right _ (by omega))] at hh
        rw [hh, ← hown.1]
        exact List.take_left
    · obtain ⟨v2, w2, hr2, ho2, hg2⟩ := run_append_arg_grows (P := P) w t ty e i z size bytes ht hi hz hsize hby hzs hsz ⟨g0, 0, none⟩ n cap0 xs hown.1 (hown.cells (g := g0) rfl) ad m c news hl hnews (by omega) h63 hbytes
      rw [hr2] at hr
      injection hr with e1 e2
      subst e1 e2
      have hlt : g0 < w.heap.size := (Array.getElem?_eq_some_iff.1 hg).1
      obtain ⟨g1, cap1, hv1, hb1, _⟩ := ho2.form (by omega)
      obtain rfl : g = g1 := by simp at hv1; exact hv1.1
      refine ⟨hown.1, .inr ⟨g0, cap0, cur, rfl, hbg, ?_, hnc, hcm, hcs, htake⟩⟩
      rw [hg8.block g0 (by have := hg2.size; omega) (by simp; omega), hg2.block g0 hlt (by simp)]
      exact hg

theorem wp_append_keeps {o : Oper} {a : Act} {K : Act → World → Prop} {Q : Exit → Act → World → Prop} (s x : Operand) (t : TypeId)
    (ho : o.op = .call { callee := .builtin .append, args := #[s, x], argTypes := #[t, t] })
    (base : Nat) (e : TypeId) (i : TypeInfo) (z : Value) (size bytes : Nat) (ht : P.underlying t = some (.slice e)) (hi : P.info? e = some i) (hz : i.zero = some z)
    (hsize : i.size = size) (hby : i.bytes = bytes) (hzs : z.cells.size = size) (hsz : 0 < size)
    (v : Value) (n : Nat) (xs : List Value) (hs : a.eval s = v) (hown : w.ownsRow base e size v n xs)
    (ad : Addr) (m c : Nat) (news : List Value) (hx : a.eval x = .slice (some ad) m c) (hl : news.length = m * size) (hnews : ∀ j u, news[j]? = some u → w.cell? (ad.add j) = some u) (h1 : ∀ u ∈ news, u.oneCell' = true)
    (hm : 0 < m) (h63 : n + m ≤ maxLen) (hbytes : (n + m) * bytes ≤ 140737488355328) (hbase : base ≤ w.heap.size) (H : Nat) (hH : w.heap.size = H)
    (h : ∀ g cap w', w'.ownsRow base e size (.slice (some ⟨g, 0, none⟩) (n + m) cap) (n + m) (xs ++ news) → w.grownBy w' v.ownBlock → (v.ownBlock = some g ∨ g = H) →
      (∀ w8, w'.grownBy w8 (some g) → w8.ownsRow base e size (.slice (some ⟨g, 0, none⟩) (n + m) cap) (n + m) (xs ++ news) → w8.ownsRow base e size v n xs) → K (a.put o.dst (.slice (some ⟨g, 0, none⟩) (n + m) cap)) w') : o.wp P a w K Q := by
  obtain ⟨g, cap, w', hr, h2, h3, h4, h5⟩ := run_append_keeps (P := P) w t o.type base e i z size bytes ht hi hz hsize hby hzs hsz v n xs hown ad m c news hl hnews h1 hm h63 hbytes hbase H hH
  unfold Oper.wp execOp
  simp only [ho, resolve, invoke, builtin, Sem.run_bind, Sem.run_pure, Result.andThen_ok, List.map_toArray, List.map_cons, List.map_nil, hs, hx, hr]
  exact h g cap w' h2 h3 h4 h5

theorem wpList_append_keeps {ops : Array Oper} {rest : List Oper} {o : Oper} {a : Act} {Q : Exit → Act → World → Prop} (hgd : o.guard = none) (s x : Operand) (t : TypeId)
    (ho : o.op = .call { callee := .builtin .append, args := #[s, x], argTypes := #[t, t] })
    (base : Nat) (e : TypeId) (i : TypeInfo) (z : Value) (size bytes : Nat) (ht : P.underlying t = some (.slice e)) (hi : P.info? e = some i) (hz : i.zero = some z)
    (hsize : i.size = size) (hby : i.bytes = bytes) (hzs : z.cells.size = size) (hsz : 0 < size)
    (v : Value) (n : Nat) (xs : List Value) (hs : a.eval s = v) (hown : w.ownsRow base e size v n xs)
    (ad : Addr) (m c : Nat) (news : List Value) (hx : a.eval x = .slice (some ad) m c) (hl : news.length = m * size) (hnews : ∀ j u, news[j]? = some u → w.cell? (ad.add j) = some u) (h1 : ∀ u ∈ news, u.oneCell' = true)
    (hm : 0 < m) (h63 : n + m ≤ maxLen) (hbytes : (n + m) * bytes ≤ 140737488355328) (hbase : base ≤ w.heap.size) (H : Nat) (hH : w.heap.size = H)
    (h : ∀ g cap w', w'.ownsRow base e size (.slice (some ⟨g, 0, none⟩) (n + m) cap) (n + m) (xs ++ news) → w.grownBy w' v.ownBlock → (v.ownBlock = some g ∨ g = H) →
      (∀ w8, w'.grownBy w8 (some g) → w8.ownsRow base e size (.slice (some ⟨g, 0, none⟩) (n + m) cap) (n + m) (xs ++ news) → w8.ownsRow base e size v n xs) → wpList P ops Q rest (a.put o.dst (.slice (some ⟨g, 0, none⟩) (n + m) cap)) w') : wpList P ops Q (o :: rest) a w :=
  wpList_plain hgd fun _ hK => wp_append_keeps w s x t ho base e i z size bytes ht hi hz hsize hby hzs hsz v n xs hs hown ad m c news hx hl hnews h1 hm h63 hbytes hbase H hH fun g cap w' h2 h3 h4 h5 => hK _ _ (h g cap w' h2 h3 h4 h5)

theorem step_append_keeps {ops : Array Oper} {o : Oper} {a : Act} {K : Act → World → Prop} {Q : Exit → Act → World → Prop} {E : Prop} (hgd : o.guard = none) (s x : Operand) (t : TypeId)
    (ho : o.op = .call { callee := .builtin .append, args := #[s, x], argTypes := #[t, t] })
    (base : Nat) (e : TypeId) (i : TypeInfo) (z : Value) (size bytes : Nat) (ht : P.underlying t = some (.slice e)) (hi : P.info? e = some i) (hz : i.zero = some z)
    (hsize : i.size = size) (hby : i.bytes = bytes) (hzs : z.cells.size = size) (hsz : 0 < size)
    (v : Value) (n : Nat) (xs : List Value) (hs : a.eval s = v) (hown : w.ownsRow base e size v n xs)
    (ad : Addr) (m c : Nat) (news : List Value) (hx : a.eval x = .slice (some ad) m c) (hl : news.length = m * size) (hnews : ∀ j u, news[j]? = some u → w.cell? (ad.add j) = some u) (h1 : ∀ u ∈ news, u.oneCell' = true)
    (hm : 0 < m) (h63 : n + m ≤ maxLen) (hbytes : (n + m) * bytes ≤ 140737488355328) (hbase : base ≤ w.heap.size) (H : Nat) (hH : w.heap.size = H)
    (h : ∀ g cap w', w'.ownsRow base e size (.slice (some ⟨g, 0, none⟩) (n + m) cap) (n + m) (xs ++ news) → w.grownBy w' v.ownBlock → (v.ownBlock = some g ∨ g = H) →
      (∀ w8, w'.grownBy w8 (some g) → w8.ownsRow base e size (.slice (some ⟨g, 0, none⟩) (n + m) cap) (n + m) (xs ++ news) → w8.ownsRow base e size v n xs) → K (a.put o.dst (.slice (some ⟨g, 0, none⟩) (n + m) cap)) w') :
    if Region.wanted o (yielded ops a.tmps) = true then Oper.wp P o a w K Q else E := by
  have hw : Region.wanted o (yielded ops a.tmps) = true := by simp [Region.wanted, hgd]
  rw [if_pos hw]
  exact wp_append_keeps w s x t ho base e i z size bytes ht hi hz hsize hby hzs hsz v n xs hs hown ad m c news hx hl hnews h1 hm h63 hbytes hbase H hH h
end

/-- Behind an append and what was done to the new row. -/
theorem grown_app {w w7 w8 : World} {r : Option Nat} {g : Nat} (h7 : w.grownBy w7 r) (h8 : w7.grownBy w8 (some g)) (hg : r = some g ∨ w.heap.size ≤ g) : w.grownBy w8 r :=
  ⟨h8.os.trans h7.os, h8.tape.trans h7.tape, h8.output.trans h7.output, Nat.le_trans h7.size h8.size, fun k hk hne => (h8.block k (Nat.lt_of_lt_of_le hk h7.size) (fun e => by
    rcases hg with hg | hg
    · exact hne (e.trans hg.symm)
    · simp at e; omega)).trans (h7.block k hk hne)⟩
end Go.Proofs.Ytimgindeiekpmaa

set_option linter.unusedSimpArgs false
set_option linter.unusedVariables false
namespace Go.Proofs.Ytimgindeiekpmaa
open Go.RowKit Wv

theorem grownBy_weak {w w' : World} (h : w.grownBy w' none) (r : Option Nat) : w.grownBy w' r := ⟨h.os, h.tape, h.output, h.size, fun k hk _ => h.block k hk (by simp)⟩
theorem info_cmade : (Try.prog.info? 146).map (fun i => (i.zero, i.size, i.bytes)) = some (some (.agg #[.int .i64 0, .int .u8 0, .int .u8 0, .int .u8 0, .int .u8 0, .int .u8 0, .int .u8 0, .int .i64 0]), 8, 24) := by kernel_rfl

/-- Where the walk of classes stands: the boxes of the machine and of the state, the row. -/
structure ClAt (w0 w : World) (R S : Array Value) (rv : Value) (n : Nat) (xs : List Value) (wr : World) : Prop where
  mach : wr.heap[w.heap.size]? = some (.cells R 77 (0, 0))
  st : wr.heap[w.heap.size + 1]? = some (.cells S 88 (0, 0))
  pg : w0.grownBy wr none
  gr : w.grownBy wr rv.ownBlock
  own : wr.ownsRow w0.heap.size 146 8 rv n xs
section
variable {w0 w wr wr' : World} {R S : Array Value} {rv : Value} {n : Nat} {xs : List Value}
theorem ClAt.start (h0 : w0.grownBy w none) (ho : w.ownsRow w0.heap.size 146 8 rv n xs) (R S : Array Value) : ClAt w0 w R S rv n xs ((w.alloc (.cells R 77)).alloc (.cells S 88)) :=
  ⟨(heap2 _ _ _).1, (heap2 _ _ _).2, grownBy_trans h0 (grown2 _ _ _), grownBy_weak (grown2 _ _ _) _, ho.kept (grown2 _ _ _) (Classical.em _)⟩
theorem ClAt.later (h : ClAt w0 w R S rv n xs wr) (hg : wr.grownBy wr' none) : ClAt w0 w R S rv n xs wr' :=
  ⟨(hg.block _ (lt_of_block h.mach) (by simp)).trans h.mach, (hg.block _ (lt_of_block h.st) (by simp)).trans h.st, grownBy_trans h.pg hg, grownBy_trans h.gr (grownBy_weak hg _), h.own.kept hg (Classical.em _)⟩
/-- Behind what changes the row's tail. -/
theorem ClAt.app (h : ClAt w0 w R S rv n xs wr) (hlt : ∀ r, rv.ownBlock = some r → r < w.heap.size) (hg : wr.grownBy wr' rv.ownBlock) (ho : wr'.ownsRow w0.heap.size 146 8 rv n xs) : ClAt w0 w R S rv n xs wr' :=
  ⟨(hg.block _ (lt_of_block h.mach) (fun e => by have := hlt _ e.symm; omega)).trans h.mach, (hg.block _ (lt_of_block h.st) (fun e => by have := hlt _ e.symm; omega)).trans h.st,
    grownBy_new' h.pg hg (fun r e => (h.own.lt r e).1), grownBy_trans h.gr hg, ho⟩

/-- .. and the box of the turn that is to be made. -/
structure ClS (w0 w : World) (R S : Array Value) (rv : Value) (n : Nat) (xs : List Value) (b : Nat) (M : Array Value) (W : World) : Prop where
  c : ClAt w0 w R S rv n xs W
  nx : W.heap[b]? = some (.cells M 146 (0, 0))
theorem ClS.later {b : Nat} {M : Array Value} (h : ClS w0 w R S rv n xs b M wr) (hg : wr.grownBy wr' none) : ClS w0 w R S rv n xs b M wr' :=
  ⟨h.c.later hg, (hg.block _ (lt_of_block h.nx) (by simp)).trans h.nx⟩
theorem ClS.app {b : Nat} {M : Array Value} (h : ClS w0 w R S rv n xs b M wr) (hlt : ∀ r, rv.ownBlock = some r → r < w.heap.size) (hb : w.heap.size ≤ b) (hg : wr.grownBy wr' rv.ownBlock) (ho : wr'.ownsRow w0.heap.size 146 8 rv n xs) : ClS w0 w R S rv n xs b M wr' :=
  ⟨h.c.app hlt hg ho, (hg.block _ (lt_of_block h.nx) (fun e => by have := hlt _ e.symm; omega)).trans h.nx⟩
theorem ClS.start {w2 w4 : World} {M : Array Value} (h : ClAt w0 w R S rv n xs w2) (hg : (w2.alloc (.cells M 146)).grownBy w4 none) : ClS w0 w R S rv n xs w2.heap.size M w4.drew := by
  have h1 : ClS w0 w R S rv n xs w2.heap.size M (w2.alloc (.cells M 146)) := ⟨h.later (World.grownBy_alloc _ _ _), heap_alloc_new _ _⟩
  exact (h1.later hg).later (rgrown_drew (grownBy_refl _ _))
end

/-- What classes answers, N runs being behind the row, c counted. -/
def ClsPost (w0 w : World) (rv : Value) (n : Nat) (xs : List Value) (c N : Nat) (e : Ending) (w' : World) : Prop :=
  (w0.grownBy w' none ∧ w.grownBy w' rv.ownBlock ∧ w'.ownsRow w0.heap.size 146 8 rv n xs) ∧
    ((c + N ≤ 300 ∧ e = .returned (.int .i64 ((c + N : Nat) : Int))) ∨ (300 < c + N ∧ e = .panicked (refusal 5 0)))
theorem ClAt.post {w0 w wr : World} {R S : Array Value} {rv : Value} {n : Nat} {xs : List Value} (h : ClAt w0 w R S rv n xs wr) : w0.grownBy wr none ∧ w.grownBy wr rv.ownBlock ∧ wr.ownsRow w0.heap.size 146 8 rv n xs := ⟨h.pg, h.gr, h.own⟩

set_option maxHeartbeats 1000000 in
set_option maxRecDepth 100000 in
theorem classes_over (s : ByteArray) (L : List (List Nat)) (w0 : World) (base0 B0 : Nat) (tv : Value) (mb : Nat) (vs : List Value) (hP : Prog w0 base0 B0 s L tv vs) (σ : Nat → Int) (n : Nat) (xs : List Value) (c : Nat) (rv : Value) (w : World)
    (h0 : w0.grownBy w none) (ho : w.ownsRow w0.heap.size 146 8 rv n xs) (hO : Ok L σ) (hc : c ≤ 300) (hov : overB s L σ = true) :
    Calls Try.prog 56 #[.agg #[tv, .map (some mb)], .agg (cst σ), rv, .int .i64 (c : Int)] w (ClsPost w0 w rv n xs c 1) := by
  obtain ⟨ao, cap, rfl⟩ := ownsRow_slice hP.own.out
  have HS : Hid (∀ W, w0.grownBy W none → Calls Try.prog 63 #[.agg #[.slice ao L.length cap, .map (some mb)], .agg (cst σ)] W fun e w' => e = .returned (.bool false) ∧ W.grownBy w' none) := fun W hW => by
    have := someMayGoOn_any s L σ base0 B0 _ (.map (some mb)) vs W (hP.kept hW) rfl hO.st
    rw [hov] at this; exact this
  obtain ⟨bo, cp, rfl⟩ := ownsRow_slice ho
  have HX : Hid _ := ClAt.start h0 ho #[.slice ao L.length cap, .map (some mb)] (cst σ)
  clear hP ho hO hov h0
  unfold ClsPost
  by_cases h300 : c = 300
  · subst h300
    have b0 : ((300 : Nat) : Int) = 300 := rfl
    rw [b0]
    go_enter Try.func56, Try.ntmps56
    go_wp2_with (first | (refine ld_row 88 (.tmp 5) (w.heap.size + 1) ?_ (cst σ) ?_ Try.underlying88 rfl (info_state _) ?_; rfl; exact HX.out.st) | (go_at_call 63; go_must (refine Calls.mono (HS.out _ HX.out.pg) ?_; rintro e1 w1 ⟨rfl, hg1⟩; have HX1 : Hid _ := HX.out.later hg1; clear hg1)))
    exact ⟨rfl, HX1.out.post, .inr ⟨by omega, rfl⟩⟩
  · have b0 : ((c : Int) == 300) = false := by simp; omega
    go_enter Try.func56, Try.ntmps56
    go_wp2_with (first | (refine ld_row 88 (.tmp 5) (w.heap.size + 1) ?_ (cst σ) ?_ Try.underlying88 rfl (info_state _) ?_; rfl; exact HX.out.st) | (go_at_call 63; go_must (refine Calls.mono (HS.out _ HX.out.pg) ?_; rintro e1 w1 ⟨rfl, hg1⟩; have HX1 : Hid _ := HX.out.later hg1; clear hg1)))
    go_ret
    exact ⟨HX1.out.post, .inl ⟨by omega, rfl⟩⟩
end Go.Proofs.Ytimgindeiekpmaa

