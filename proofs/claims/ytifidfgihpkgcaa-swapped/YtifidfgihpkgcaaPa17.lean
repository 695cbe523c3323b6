import Derived.Test.YtifidfgihpkgcaaPa15
import Derived.Test.YtifidfgihpkgcaaPa16
import Derived.Test.YtifidfgihpkgcaaPa01
import Derived.WideMake
import Derived.Test.YtifidfgihpkgcaaPa02
set_option linter.unusedSimpArgs false
set_option linter.unusedVariables false
namespace Go.Proofs.Ytifidfgihpkgcaa
open Go.RowKit Wv

set_option maxHeartbeats 1000000 in
theorem readStep_33_ok (s : ByteArray) (i b : Nat) (w : World) (hb : RdAt w b s i) (hi : i ≤ s.size) (hs : s.size ≤ 150) (hc : pk s i = 33) (a0 : 97 ≤ pk s (i + 1)) (b0 : pk s (i + 1) ≤ 100) :
    Calls Try.prog 40 #[.pointer (some ⟨b, 0, none⟩)] w fun e w' =>
      e = .returned (.agg #[.int .u8 33, .int .u8 (pk s (i + 1) - 97), .int .u8 0, .int .u8 0, .int .u8 0, .int .u8 0, .int .i64 0]) ∧ RdAt w' b s (i + 1 + 1) ∧ w.grownBy w' (some b) := by
  have l0 := pk_some (s := s) (i := i) (by omega)
  have l1 := pk_some (s := s) (i := i + 1) (by omega)
  have hlt := hb.lt
  have c1 := hb.c1
  have fz := hb.f1
  have HB : Hid _ := hb
  clear hb
  have hp := fun o => peek_any s i b (w.alloc o) (HB.out.alloc o) hi hs
  simp only [hc] at hp
  have HP : Hid _ := hp
  clear hp hc
  go_enter Try.func40, Try.ntmps40
  go_wp2
  refine wp_scope_once ?_
  go_wp2_with (go_at_call 39; go_must (refine Calls.mono (HP.out _) ?_; rintro e w1 ⟨rfl, n, rfl⟩))
  go_step3
  refine ⟨_, rfl, ?_⟩
  go_wp2_with fail
  refine Calls.mono (sNumber_yes (St.start HB.out n _ (by omega) _) (by omega) hs a0 b0) ?_
  rintro e w2 ⟨rfl, h2⟩
  obtain ⟨q0, q1, q2, q3, q4, q5, q6, qf⟩ := blk7 h2.st
  have r1 := h2.rd.c1
  obtain ⟨n0, n1, n2, n3, n4, n5, n6, nf⟩ := blk7 h2.res
  have H2 : Hid _ := h2
  clear h2 HP c1 fz
  go_wp2_with fail
  rw [Exit.noGoto_ret]
  have hd := H2.out.done 1 (.int .u8 (pk s (i + 1) - 97)) (.int .u8 33) (.int .u8 (pk s (i + 1) - 97)) (.int .u8 0) (.int .u8 0) (.int .u8 0) (.int .u8 0) (.int .i64 0)
  refine bodyPost_ret (v := .agg #[.int .u8 33, .int .u8 (pk s (i + 1) - 97), .int .u8 0, .int .u8 0, .int .u8 0, .int .u8 0, .int .i64 0]) ?_ rfl ⟨rfl, hd.1, hd.2⟩
  simp [results, Try.results40, go_sem, n0, n1, n2, n3, n4, n5, n6]

set_option maxHeartbeats 1000000 in
theorem readStep_33_bad0 (s : ByteArray) (i b : Nat) (w : World) (hb : RdAt w b s i) (hi : i ≤ s.size) (hs : s.size ≤ 150) (hc : pk s i = 33) (hno : pk s (i + 1) < 97 ∨ 100 < pk s (i + 1)) :
    Calls Try.prog 40 #[.pointer (some ⟨b, 0, none⟩)] w fun e w' =>
      e = .panicked (refusal 2 ((i + 1 : Nat) : Int)) ∧ w.grownBy w' (some b) := by
  have l0 := pk_some (s := s) (i := i) (by omega)
  have hlt := hb.lt
  have c1 := hb.c1
  have fz := hb.f1
  have HB : Hid _ := hb
  clear hb
  have hp := fun o => peek_any s i b (w.alloc o) (HB.out.alloc o) hi hs
  simp only [hc] at hp
  have HP : Hid _ := hp
  clear hp hc
  go_enter Try.func40, Try.ntmps40
  go_wp2
  refine wp_scope_once ?_
  go_wp2_with (go_at_call 39; go_must (refine Calls.mono (HP.out _) ?_; rintro e w1 ⟨rfl, n, rfl⟩))
  go_step3
  refine ⟨_, rfl, ?_⟩
  go_wp2_with fail
  refine Calls.mono (sNumber_no (St.start HB.out n _ (by omega) _) (by omega) hs hno) ?_
  rintro e w2 ⟨rfl, hg⟩
  exact ⟨rfl, rfl, hg⟩

end Go.Proofs.Ytifidfgihpkgcaa

set_option linter.unusedSimpArgs false
set_option linter.unusedVariables false
namespace Go.Proofs.Ytifidfgihpkgcaa
open Go.RowKit Wv

set_option maxHeartbeats 1000000 in
theorem readStep_none (s : ByteArray) (i b : Nat) (w : World) (hb : RdAt w b s i) (hi : i ≤ s.size) (hs : s.size ≤ 150) (hc : pk s i ≠ 61 ∧ pk s i ≠ 122 ∧ pk s i ≠ 43 ∧ pk s i ≠ 45 ∧ pk s i ≠ 114 ∧ pk s i ≠ 119 ∧ pk s i ≠ 108 ∧ pk s i ≠ 117 ∧ pk s i ≠ 106 ∧ pk s i ≠ 33) :
    Calls Try.prog 40 #[.pointer (some ⟨b, 0, none⟩)] w fun e w' => e = .panicked (refusal 2 (i : Int)) ∧ w.grownBy w' (some b) := by
  obtain ⟨x61, x122, x43, x45, x114, x119, x108, x117, x106, x33⟩ := hc
  have y61 : (pk s i == 61) = false := by simpa using x61
  have y122 : (pk s i == 122) = false := by simpa using x122
  have y43 : (pk s i == 43) = false := by simpa using x43
  have y45 : (pk s i == 45) = false := by simpa using x45
  have y114 : (pk s i == 114) = false := by simpa using x114
  have y119 : (pk s i == 119) = false := by simpa using x119
  have y108 : (pk s i == 108) = false := by simpa using x108
  have y117 : (pk s i == 117) = false := by simpa using x117
  have y106 : (pk s i == 106) = false := by simpa using x106
  have y33 : (pk s i == 33) = false := by simpa using x33
  clear x61 x122 x43 x45 x114 x119 x108 x117 x106 x33
  have hr := pk_range s i
  have hlt := hb.lt
  have c1 := hb.c1
  have fz := hb.f1
  have HB : Hid _ := hb
  clear hb
  have hp := fun o => peek_any s i b (w.alloc o) (HB.out.alloc o) hi hs
  have HP : Hid _ := hp
  clear hp
  generalize pk s i = p at *
  go_enter Try.func40, Try.ntmps40
  go_wp2
  refine wp_scope_once ?_
  go_wp2_with (go_at_call 39; go_must (refine Calls.mono (HP.out _) ?_; rintro e w1 ⟨rfl, n, rfl⟩))
  exact ⟨rfl, rfl, (St.start HB.out n _ (by omega) _).grow⟩

end Go.Proofs.Ytifidfgihpkgcaa

set_option linter.unusedSimpArgs false
set_option linter.unusedVariables false
namespace Go.Proofs.Ytifidfgihpkgcaa
open Go.RowKit Wv

theorem kin_n (c : Int) : kin 110 c = decide (97 ≤ c ∧ c ≤ 100) := rfl
theorem kin_c (c : Int) : kin 99 c = decide (120 ≤ c ∧ c ≤ 122) := rfl
theorem kin_k (c : Int) : kin 107 c = decide (109 ≤ c ∧ c ≤ 110) := rfl
theorem kin_d (c : Int) : kin 100 c = decide (48 ≤ c ∧ c ≤ 57) := rfl
theorem klo_n : klo 110 = 97 := rfl
theorem klo_c : klo 99 = 120 := rfl
theorem klo_k : klo 107 = 109 := rfl
theorem klo_d : klo 100 = 48 := rfl

/-- What the walk of a step comes to. -/
def StepPost (s : ByteArray) (i b : Nat) (w : World) (e : Ending) (w' : World) : Prop :=
  match stepBad s i with
  | some p => e = .panicked (refusal 2 (p : Int)) ∧ w.grownBy w' (some b)
  | none => e = .returned (.agg (ccells s i).toArray) ∧ RdAt w' b s (stepAt s i + 1) ∧ w.grownBy w' (some b)

theorem post_bad {s : ByteArray} {i b p : Nat} {w : World} {f : Nat} {args : Array Value} (hp : stepBad s i = some p)
    (h : Calls Try.prog f args w fun e w' => e = .panicked (refusal 2 (p : Int)) ∧ w.grownBy w' (some b)) : Calls Try.prog f args w (StepPost s i b w) :=
  h.mono fun _ _ h => by unfold StepPost; rw [hp]; exact h
theorem post_ok {s : ByteArray} {i b j : Nat} {w : World} {f : Nat} {args : Array Value} {cs : Array Value} (hp : stepBad s i = none) (hcs : cs = (ccells s i).toArray) (hj : j = stepAt s i + 1)
    (h : Calls Try.prog f args w fun e w' => e = .returned (.agg cs) ∧ RdAt w' b s j ∧ w.grownBy w' (some b)) : Calls Try.prog f args w (StepPost s i b w) :=
  h.mono fun _ _ h => by unfold StepPost; rw [hp]; subst hcs; subst hj; exact h

theorem frm_61 : frm 61 = [110, 100] := rfl
theorem readStep_61 (s : ByteArray) (i b : Nat) (w : World) (hb : RdAt w b s i) (hi : i ≤ s.size) (hs : s.size ≤ 150) (hc : pk s i = 61) : Calls Try.prog 40 #[.pointer (some ⟨b, 0, none⟩)] w (StepPost s i b w) := by
  have hsb : stepBad s i = scan s [110, 100] (i + 1) := by unfold stepBad; rw [hc, frm_61]; rfl
  by_cases g0 : 97 ≤ pk s (i + 1) ∧ pk s (i + 1) ≤ 100
  · by_cases g1 : 48 ≤ pk s (i + 1 + 1) ∧ pk s (i + 1 + 1) ≤ 57
    · refine post_ok (by rw [hsb]; simp [scan, kin_n, kin_c, kin_k, kin_d, g0, g1]) ?_ ?_ (readStep_61_ok s i b w hb hi hs hc g0.1 g0.2 g1.1 g1.2)
      · simp [ccells, cNum, cSec, cCell, cLock, cDig, cPl, stepA, stepB, stepAt, f0, f1, hc, frm_61, klo_n, klo_c, klo_k, klo_d]
        omega
      · simp [stepAt, hc, frm_61]
    · exact post_bad (by rw [hsb]; simp [scan, kin_n, kin_c, kin_k, kin_d, g0, g1]) (readStep_61_bad1 s i b w hb hi hs hc g0.1 g0.2 (by omega))
  · exact post_bad (by rw [hsb]; simp [scan, kin_n, kin_c, kin_k, kin_d, g0]) (readStep_61_bad0 s i b w hb hi hs hc (by omega))
theorem frm_122 : frm 122 = [110, 100] := rfl
theorem readStep_122 (s : ByteArray) (i b : Nat) (w : World) (hb : RdAt w b s i) (hi : i ≤ s.size) (hs : s.size ≤ 150) (hc : pk s i = 122) : Calls Try.prog 40 #[.pointer (some ⟨b, 0, none⟩)] w (StepPost s i b w) := by
  have hsb : stepBad s i = scan s [110, 100] (i + 1) := by unfold stepBad; rw [hc, frm_122]; rfl
  by_cases g0 : 97 ≤ pk s (i + 1) ∧ pk s (i + 1) ≤ 100
  · by_cases g1 : 48 ≤ pk s (i + 1 + 1) ∧ pk s (i + 1 + 1) ≤ 57
    · refine post_ok (by rw [hsb]; simp [scan, kin_n, kin_c, kin_k, kin_d, g0, g1]) ?_ ?_ (readStep_122_ok s i b w hb hi hs hc g0.1 g0.2 g1.1 g1.2)
      · simp [ccells, cNum, cSec, cCell, cLock, cDig, cPl, stepA, stepB, stepAt, f0, f1, hc, frm_122, klo_n, klo_c, klo_k, klo_d]
        omega
      · simp [stepAt, hc, frm_122]
    · exact post_bad (by rw [hsb]; simp [scan, kin_n, kin_c, kin_k, kin_d, g0, g1]) (readStep_122_bad1 s i b w hb hi hs hc g0.1 g0.2 (by omega))
  · exact post_bad (by rw [hsb]; simp [scan, kin_n, kin_c, kin_k, kin_d, g0]) (readStep_122_bad0 s i b w hb hi hs hc (by omega))
theorem frm_43 : frm 43 = [110, 110] := rfl
theorem readStep_43 (s : ByteArray) (i b : Nat) (w : World) (hb : RdAt w b s i) (hi : i ≤ s.size) (hs : s.size ≤ 150) (hc : pk s i = 43) : Calls Try.prog 40 #[.pointer (some ⟨b, 0, none⟩)] w (StepPost s i b w) := by
  have hsb : stepBad s i = scan s [110, 110] (i + 1) := by unfold stepBad; rw [hc, frm_43]; rfl
  by_cases g0 : 97 ≤ pk s (i + 1) ∧ pk s (i + 1) ≤ 100
  · by_cases g1 : 97 ≤ pk s (i + 1 + 1) ∧ pk s (i + 1 + 1) ≤ 100
    · refine post_ok (by rw [hsb]; simp [scan, kin_n, kin_c, kin_k, kin_d, g0, g1]) ?_ ?_ (readStep_43_ok s i b w hb hi hs hc g0.1 g0.2 g1.1 g1.2)
      · simp [ccells, cNum, cSec, cCell, cLock, cDig, cPl, stepA, stepB, stepAt, f0, f1, hc, frm_43, klo_n, klo_c, klo_k, klo_d]
      · simp [stepAt, hc, frm_43]
    · exact post_bad (by rw [hsb]; simp [scan, kin_n, kin_c, kin_k, kin_d, g0, g1]) (readStep_43_bad1 s i b w hb hi hs hc g0.1 g0.2 (by omega))
  · exact post_bad (by rw [hsb]; simp [scan, kin_n, kin_c, kin_k, kin_d, g0]) (readStep_43_bad0 s i b w hb hi hs hc (by omega))
theorem frm_45 : frm 45 = [110, 110] := rfl
theorem readStep_45 (s : ByteArray) (i b : Nat) (w : World) (hb : RdAt w b s i) (hi : i ≤ s.size) (hs : s.size ≤ 150) (hc : pk s i = 45) : Calls Try.prog 40 #[.pointer (some ⟨b, 0, none⟩)] w (StepPost s i b w) := by
  have hsb : stepBad s i = scan s [110, 110] (i + 1) := by unfold stepBad; rw [hc, frm_45]; rfl
  by_cases g0 : 97 ≤ pk s (i + 1) ∧ pk s (i + 1) ≤ 100
  · by_cases g1 : 97 ≤ pk s (i + 1 + 1) ∧ pk s (i + 1 + 1) ≤ 100
    · refine post_ok (by rw [hsb]; simp [scan, kin_n, kin_c, kin_k, kin_d, g0, g1]) ?_ ?_ (readStep_45_ok s i b w hb hi hs hc g0.1 g0.2 g1.1 g1.2)
      · simp [ccells, cNum, cSec, cCell, cLock, cDig, cPl, stepA, stepB, stepAt, f0, f1, hc, frm_45, klo_n, klo_c, klo_k, klo_d]
      · simp [stepAt, hc, frm_45]
    · exact post_bad (by rw [hsb]; simp [scan, kin_n, kin_c, kin_k, kin_d, g0, g1]) (readStep_45_bad1 s i b w hb hi hs hc g0.1 g0.2 (by omega))
  · exact post_bad (by rw [hsb]; simp [scan, kin_n, kin_c, kin_k, kin_d, g0]) (readStep_45_bad0 s i b w hb hi hs hc (by omega))
theorem frm_114 : frm 114 = [110, 99] := rfl
theorem readStep_114 (s : ByteArray) (i b : Nat) (w : World) (hb : RdAt w b s i) (hi : i ≤ s.size) (hs : s.size ≤ 150) (hc : pk s i = 114) : Calls Try.prog 40 #[.pointer (some ⟨b, 0, none⟩)] w (StepPost s i b w) := by
  have hsb : stepBad s i = scan s [110, 99] (i + 1) := by unfold stepBad; rw [hc, frm_114]; rfl
  by_cases g0 : 97 ≤ pk s (i + 1) ∧ pk s (i + 1) ≤ 100
  · by_cases g1 : 120 ≤ pk s (i + 1 + 1) ∧ pk s (i + 1 + 1) ≤ 122
    · refine post_ok (by rw [hsb]; simp [scan, kin_n, kin_c, kin_k, kin_d, g0, g1]) ?_ ?_ (readStep_114_ok s i b w hb hi hs hc g0.1 g0.2 g1.1 g1.2)
      · simp [ccells, cNum, cSec, cCell, cLock, cDig, cPl, stepA, stepB, stepAt, f0, f1, hc, frm_114, klo_n, klo_c, klo_k, klo_d]
      · simp [stepAt, hc, frm_114]
    · exact post_bad (by rw [hsb]; simp [scan, kin_n, kin_c, kin_k, kin_d, g0, g1]) (readStep_114_bad1 s i b w hb hi hs hc g0.1 g0.2 (by omega))
  · exact post_bad (by rw [hsb]; simp [scan, kin_n, kin_c, kin_k, kin_d, g0]) (readStep_114_bad0 s i b w hb hi hs hc (by omega))
theorem frm_119 : frm 119 = [99, 110] := rfl
theorem readStep_119 (s : ByteArray) (i b : Nat) (w : World) (hb : RdAt w b s i) (hi : i ≤ s.size) (hs : s.size ≤ 150) (hc : pk s i = 119) : Calls Try.prog 40 #[.pointer (some ⟨b, 0, none⟩)] w (StepPost s i b w) := by
  have hsb : stepBad s i = scan s [99, 110] (i + 1) := by unfold stepBad; rw [hc, frm_119]; rfl
  by_cases g0 : 120 ≤ pk s (i + 1) ∧ pk s (i + 1) ≤ 122
  · by_cases g1 : 97 ≤ pk s (i + 1 + 1) ∧ pk s (i + 1 + 1) ≤ 100
    · refine post_ok (by rw [hsb]; simp [scan, kin_n, kin_c, kin_k, kin_d, g0, g1]) ?_ ?_ (readStep_119_ok s i b w hb hi hs hc g0.1 g0.2 g1.1 g1.2)
      · simp [ccells, cNum, cSec, cCell, cLock, cDig, cPl, stepA, stepB, stepAt, f0, f1, hc, frm_119, klo_n, klo_c, klo_k, klo_d]
      · simp [stepAt, hc, frm_119]
    · exact post_bad (by rw [hsb]; simp [scan, kin_n, kin_c, kin_k, kin_d, g0, g1]) (readStep_119_bad1 s i b w hb hi hs hc g0.1 g0.2 (by omega))
  · exact post_bad (by rw [hsb]; simp [scan, kin_n, kin_c, kin_k, kin_d, g0]) (readStep_119_bad0 s i b w hb hi hs hc (by omega))
theorem frm_108 : frm 108 = [107] := rfl
theorem readStep_108 (s : ByteArray) (i b : Nat) (w : World) (hb : RdAt w b s i) (hi : i ≤ s.size) (hs : s.size ≤ 150) (hc : pk s i = 108) : Calls Try.prog 40 #[.pointer (some ⟨b, 0, none⟩)] w (StepPost s i b w) := by
  have hsb : stepBad s i = scan s [107] (i + 1) := by unfold stepBad; rw [hc, frm_108]; rfl
  by_cases g0 : 109 ≤ pk s (i + 1) ∧ pk s (i + 1) ≤ 110
  · refine post_ok (by rw [hsb]; simp [scan, kin_n, kin_c, kin_k, kin_d, g0]) ?_ ?_ (readStep_108_ok s i b w hb hi hs hc g0.1 g0.2)
    · simp [ccells, cNum, cSec, cCell, cLock, cDig, cPl, stepA, stepB, stepAt, f0, f1, hc, frm_108, klo_n, klo_c, klo_k, klo_d]
    · simp [stepAt, hc, frm_108]
  · exact post_bad (by rw [hsb]; simp [scan, kin_n, kin_c, kin_k, kin_d, g0]) (readStep_108_bad0 s i b w hb hi hs hc (by omega))
theorem frm_117 : frm 117 = [107] := rfl
theorem readStep_117 (s : ByteArray) (i b : Nat) (w : World) (hb : RdAt w b s i) (hi : i ≤ s.size) (hs : s.size ≤ 150) (hc : pk s i = 117) : Calls Try.prog 40 #[.pointer (some ⟨b, 0, none⟩)] w (StepPost s i b w) := by
  have hsb : stepBad s i = scan s [107] (i + 1) := by unfold stepBad; rw [hc, frm_117]; rfl
  by_cases g0 : 109 ≤ pk s (i + 1) ∧ pk s (i + 1) ≤ 110
  · refine post_ok (by rw [hsb]; simp [scan, kin_n, kin_c, kin_k, kin_d, g0]) ?_ ?_ (readStep_117_ok s i b w hb hi hs hc g0.1 g0.2)
    · simp [ccells, cNum, cSec, cCell, cLock, cDig, cPl, stepA, stepB, stepAt, f0, f1, hc, frm_117, klo_n, klo_c, klo_k, klo_d]
    · simp [stepAt, hc, frm_117]
  · exact post_bad (by rw [hsb]; simp [scan, kin_n, kin_c, kin_k, kin_d, g0]) (readStep_117_bad0 s i b w hb hi hs hc (by omega))
theorem frm_106 : frm 106 = [100] := rfl
theorem readStep_106 (s : ByteArray) (i b : Nat) (w : World) (hb : RdAt w b s i) (hi : i ≤ s.size) (hs : s.size ≤ 150) (hc : pk s i = 106) : Calls Try.prog 40 #[.pointer (some ⟨b, 0, none⟩)] w (StepPost s i b w) := by
  have hsb : stepBad s i = scan s [100] (i + 1) := by unfold stepBad; rw [hc, frm_106]; rfl
  by_cases g0 : 48 ≤ pk s (i + 1) ∧ pk s (i + 1) ≤ 57
  · refine post_ok (by rw [hsb]; simp [scan, kin_n, kin_c, kin_k, kin_d, g0]) ?_ ?_ (readStep_106_ok s i b w hb hi hs hc g0.1 g0.2)
    · simp [ccells, cNum, cSec, cCell, cLock, cDig, cPl, stepA, stepB, stepAt, f0, f1, hc, frm_106, klo_n, klo_c, klo_k, klo_d]
    · simp [stepAt, hc, frm_106]
  · exact post_bad (by rw [hsb]; simp [scan, kin_n, kin_c, kin_k, kin_d, g0]) (readStep_106_bad0 s i b w hb hi hs hc (by omega))
theorem frm_33 : frm 33 = [110] := rfl
theorem readStep_33 (s : ByteArray) (i b : Nat) (w : World) (hb : RdAt w b s i) (hi : i ≤ s.size) (hs : s.size ≤ 150) (hc : pk s i = 33) : Calls Try.prog 40 #[.pointer (some ⟨b, 0, none⟩)] w (StepPost s i b w) := by
  have hsb : stepBad s i = scan s [110] (i + 1) := by unfold stepBad; rw [hc, frm_33]; rfl
  by_cases g0 : 97 ≤ pk s (i + 1) ∧ pk s (i + 1) ≤ 100
  · refine post_ok (by rw [hsb]; simp [scan, kin_n, kin_c, kin_k, kin_d, g0]) ?_ ?_ (readStep_33_ok s i b w hb hi hs hc g0.1 g0.2)
    · simp [ccells, cNum, cSec, cCell, cLock, cDig, cPl, stepA, stepB, stepAt, f0, f1, hc, frm_33, klo_n, klo_c, klo_k, klo_d]
    · simp [stepAt, hc, frm_33]
  · exact post_bad (by rw [hsb]; simp [scan, kin_n, kin_c, kin_k, kin_d, g0]) (readStep_33_bad0 s i b w hb hi hs hc (by omega))

theorem readStep_any (s : ByteArray) (i b : Nat) (w : World) (hb : RdAt w b s i) (hi : i ≤ s.size) (hs : s.size ≤ 150) : Calls Try.prog 40 #[.pointer (some ⟨b, 0, none⟩)] w (StepPost s i b w) := by
  by_cases h61 : pk s i = 61
  · exact readStep_61 s i b w hb hi hs h61
  by_cases h122 : pk s i = 122
  · exact readStep_122 s i b w hb hi hs h122
  by_cases h43 : pk s i = 43
  · exact readStep_43 s i b w hb hi hs h43
  by_cases h45 : pk s i = 45
  · exact readStep_45 s i b w hb hi hs h45
  by_cases h114 : pk s i = 114
  · exact readStep_114 s i b w hb hi hs h114
  by_cases h119 : pk s i = 119
  · exact readStep_119 s i b w hb hi hs h119
  by_cases h108 : pk s i = 108
  · exact readStep_108 s i b w hb hi hs h108
  by_cases h117 : pk s i = 117
  · exact readStep_117 s i b w hb hi hs h117
  by_cases h106 : pk s i = 106
  · exact readStep_106 s i b w hb hi hs h106
  by_cases h33 : pk s i = 33
  · exact readStep_33 s i b w hb hi hs h33
  refine post_bad ?_ (readStep_none s i b w hb hi hs ⟨h61, h122, h43, h45, h114, h119, h108, h117, h106, h33⟩)
  simp [stepBad, frm, h61, h122, h43, h45, h114, h119, h108, h117, h106, h33]

end Go.Proofs.Ytifidfgihpkgcaa

set_option linter.unusedSimpArgs false
set_option linter.unusedVariables false
namespace Go.Proofs.Ytifidfgihpkgcaa
open Go.RowKit Wv

theorem info_steps : (Try.prog.info? 89).map (fun i => (i.zero, i.size, i.bytes)) = some (some (.slice none 0 0), 1, 24) := by kernel_rfl
theorem info_step : (Try.prog.info? 102).map (fun i => (i.zero, i.size, i.bytes)) = some (some (.agg #[.int .u8 0, .int .u8 0, .int .u8 0, .int .u8 0, .int .u8 0, .int .u8 0, .int .i64 0]), 7, 16) := by kernel_rfl

/-- What lies behind a label of readThreads. -/
def IsRest (l : Nat) (R : Code) : Prop := ∃ r0 c, Try.f30.body = some (.seq r0 (.scope c)) ∧ findLabel c l = some (.seq .skip R)

/-- The frame of readThreads. -/
def fr (p tv sv : Value) (x : Nat → Value) : Act := { tmps := #[p, x 1, x 2, tv, sv, x 5, x 6, x 7, x 8, x 9, x 10, x 11, x 12, x 13, x 14, x 15, x 16, x 17, x 18, x 19, x 20, x 21, x 22, x 23, x 24, x 25, x 26, x 27, x 28, x 29, x 30, x 31, x 32, x 33, x 34, x 35, x 36, x 37, x 38, x 39, x 40, x 41, x 42, x 43, x 44, x 45, x 46, x 47, x 48, x 49, x 50, x 51, x 52, x 53, x 54, x 55, x 56, x 57, x 58, x 59, x 60, x 61, x 62], defers := [] }

/-- In mid-reading: the reader's place, the threads so far, all of whose rows lie below block B. -/
structure JJ (w0 w : World) (b : Nat) (s : ByteArray) (i B : Nat) (tv : Value) (vs : List Value) (L : List (List Nat)) : Prop where
  rd : RdAt w b s i
  le : i ≤ s.size
  old : b < w0.heap.size
  grow : w0.grownBy w (some b)
  ownT : OwnT w w0.heap.size 89 102 7 (ccells s) B tv vs L
  lo : w0.heap.size ≤ B
  hi : B ≤ w.heap.size

theorem grownBy_new {w0 w w1 : World} {b : Option Nat} {row : Option Nat} (h : w0.grownBy w b) (hg : w.grownBy w1 row) (hr : ∀ r, row = some r → w0.heap.size ≤ r) : w0.grownBy w1 b := by
  refine ⟨hg.os.trans h.os, hg.tape.trans h.tape, hg.output.trans h.output, Nat.le_trans h.size hg.size, fun k hk hb => ?_⟩
  rw [hg.block k (Nat.lt_of_lt_of_le hk h.size) (fun e => by have := hr k e.symm; omega)]
  exact h.block k hk hb

section
variable {w0 w w1 : World} {b : Nat} {s : ByteArray} {i B : Nat} {tv : Value} {vs : List Value} {L : List (List Nat)}

theorem JJ.tvne (h : JJ w0 w b s i B tv vs L) : tv.ownBlock ≠ some b := by
  intro e
  have := h.ownT.out.lt b e
  have := h.old
  omega
theorem JJ.drewN (h : JJ w0 w b s i B tv vs L) (n : Nat) : JJ w0 (w.drewN n) b s i B tv vs L :=
  ⟨h.rd.drewN n, h.le, h.old, grownBy_trans h.grow (grownBy_drewN w n _), h.ownT.kept (grownBy_drewN w n none) (by cases tv.ownBlock <;> simp) (by simp), h.lo, h.hi⟩
theorem JJ.alloc (h : JJ w0 w b s i B tv vs L) (o : Obj) : JJ w0 (w.alloc o) b s i B tv vs L :=
  ⟨h.rd.alloc o, h.le, h.old, grownBy_alloc_of h.grow o, h.ownT.kept (World.grownBy_alloc w o none) (by cases tv.ownBlock <;> simp) (by simp), h.lo, by have := h.hi; simp; omega⟩
/-- The reader has gone on. -/
theorem JJ.read (h : JJ w0 w b s i B tv vs L) {j : Nat} (hr : RdAt w1 b s j) (hj : j ≤ s.size) (hg : w.grownBy w1 (some b)) : JJ w0 w1 b s j B tv vs L :=
  ⟨hr, hj, h.old, grownBy_trans h.grow hg, h.ownT.kept hg (.inr h.tvne) (fun r e => by cases e; exact .inl h.old), h.lo, Nat.le_trans h.hi hg.size⟩
theorem JJ.place (h : JJ w0 w b s i B tv vs L) (v : Int) (hv : v = ((i + 1 : Nat) : Int)) (hlt : i < s.size) : JJ w0 (w.setCell ⟨b, 1, none⟩ (.int .i64 v)) b s (i + 1) B tv vs L :=
  h.read (h.rd.set (i + 1) v hv) (by omega) (grownBy_setCell _ _ _ _)
theorem JJ.top (h : JJ w0 w b s i B tv vs L) : JJ w0 w b s i w.heap.size tv vs L :=
  ⟨h.rd, h.le, h.old, h.grow, h.ownT.mono h.hi, Nat.le_trans h.lo h.hi, Nat.le_refl _⟩
theorem JJ.row (h : JJ w0 w b s i B tv vs L) {sv : Value} {n : Nat} {xs : List Value} (hl : w.ownsRow B 102 7 sv n xs) (hg : w.grownBy w1 (some b)) : w1.ownsRow B 102 7 sv n xs := by
  refine hl.kept hg (.inr fun e => ?_)
  have := (hl.lt b e).1
  have := h.lo
  have := h.old
  omega
/-- A thread more. -/
theorem JJ.pushed (h : JJ w0 w b s i B tv vs L) {sv tv' : Value} {l : List Nat} (hl : w.ownsRow B 102 7 sv l.length (l.flatMap (ccells s))) {row : Option Nat}
    (hrow : row = tv.ownBlock) (hg : w.grownBy w1 row) (ho : w1.ownsRow w0.heap.size 89 1 tv' (L.length + 1) (vs ++ [sv])) : JJ w0 w1 b s i w1.heap.size tv' (vs ++ [sv]) (L ++ [l]) := by
  subst hrow
  have hB := h.hi
  have hsz := hg.size
  have hlo := h.lo
  refine ⟨⟨?_⟩, h.le, h.old, grownBy_new h.grow hg (fun r e => (h.ownT.out.lt r e).1), ?_, by omega, Nat.le_refl _⟩
  · rw [hg.block b h.rd.lt (fun e => h.tvne e.symm)]; exact h.rd.blk
  · refine (h.ownT.push (B' := w.heap.size) ⟨ownsRow_base hl h.lo, fun g hgv => (hl.lt g hgv).2⟩ hB (by decide) hg ho).mono hsz
/-- A step more in a row of its own. -/
theorem JJ.grown (h : JJ w0 w b s i B tv vs L) {sv sv' : Value} {n m : Nat} {xs ys : List Value} (hl : w.ownsRow B 102 7 sv n xs)
    (hg : w.grownBy w1 sv.ownBlock) (ho : w1.ownsRow B 102 7 sv' m ys) : JJ w0 w1 b s i B tv vs L := by
  have hlo := h.lo
  have hold := h.old
  have hge : ∀ r, sv.ownBlock = some r → B ≤ r := fun r e => (hl.lt r e).1
  refine ⟨⟨?_⟩, h.le, h.old, grownBy_new h.grow hg (fun r e => by have := hge r e; omega), h.ownT.kept hg ?_ (fun r e => .inr (hge r e)), h.lo, Nat.le_trans h.hi hg.size⟩
  · rw [hg.block b h.rd.lt (fun e => by have := hge b e.symm; omega)]; exact h.rd.blk
  · rcases hl.2 with ⟨rfl, _⟩ | ⟨g, cap, cur, rfl, _, hh, _⟩
    · cases ht : tv.ownBlock with
      | none => exact .inl rfl
      | some g => exact .inr (by simp [Value.ownBlock])
    · exact .inr (ownsRow_ne h.ownT.out hh (by decide))
end

/-- What readThreads comes to. -/
def RtPost (w0 : World) (b : Nat) (s : ByteArray) (R : Except Nat (List (List Nat))) (e : Ending) (w' : World) : Prop :=
  w0.grownBy w' (some b) ∧ match R with
  | .error q => e = .panicked (refusal 2 (q : Int))
  | .ok L => ∃ tv vs, e = .returned tv ∧ OwnT w' w0.heap.size 89 102 7 (ccells s) w'.heap.size tv vs L

/-- The act is a frame of readThreads with these three. -/
def FrOf (a : Act) (p tv sv : Value) : Prop := a = fr p tv sv (fun k => a.tmps.getD k undef)
theorem FrOf.out {a : Act} {p tv sv : Value} (h : FrOf a p tv sv) : ∃ x, a = fr p tv sv x := ⟨_, h⟩

def J0 (w0 : World) (b : Nat) (s : ByteArray) (R : Except Nat (List (List Nat))) (i : Nat) (a : Act) (w : World) : Prop :=
  ∃ tv sv vs L, FrOf a (.pointer (some ⟨b, 0, none⟩)) tv sv ∧ JJ w0 w b s i w.heap.size tv vs L ∧ L.length ≤ 2 ∧ rd s (2 - L.length) i L = R
def J1 (w0 : World) (b : Nat) (s : ByteArray) (R : Except Nat (List (List Nat))) (i : Nat) (a : Act) (w : World) : Prop :=
  ∃ tv sv vs L l B, FrOf a (.pointer (some ⟨b, 0, none⟩)) tv sv ∧ JJ w0 w b s i B tv vs L ∧ L.length ≤ 2 ∧ w.ownsRow B 102 7 sv l.length (l.flatMap (ccells s)) ∧ beh s (2 - L.length) L l i = R
def J2 (w0 : World) (b : Nat) (s : ByteArray) (R : Except Nat (List (List Nat))) (i : Nat) (a : Act) (w : World) : Prop :=
  ∃ tv sv vs L l B, FrOf a (.pointer (some ⟨b, 0, none⟩)) tv sv ∧ JJ w0 w b s i B tv vs L ∧ L.length ≤ 2 ∧ w.ownsRow B 102 7 sv l.length (l.flatMap (ccells s)) ∧ l.length ≤ 7 ∧
    aft s (2 - L.length) L (thr s (7 - l.length) i l) = R

theorem step_le {s : ByteArray} {i : Nat} (h : stepBad s i = none) : stepAt s i + 1 ≤ s.size := by
  unfold stepBad at h
  split at h
  · cases h
  · rename_i hne
    have := scan_le h ((frm (pk s i)).length - 1) (by have := List.length_pos_iff.2 hne; omega)
    have hp := List.length_pos_iff.2 hne
    have := pk_some this
    unfold stepAt
    omega

set_option maxHeartbeats 1000000 in
set_option maxRecDepth 100000 in
theorem rt1 (w0 : World) (b : Nat) (s : ByteArray) (R : Except Nat (List (List Nat))) (hs : s.size ≤ 150) (Rc : Code) (hrc : IsRest 1 Rc) (Jp : Nat → Act → World → Prop)
    (w : World) (i : Nat) (hJ0 : ∀ a w i', i < i' → J0 w0 b s R i' a w → Jp 0 a w)
    (a : Act) (hj1 : J1 w0 b s R i a w) : Rc.wp Try.prog (jmp Jp (bodyPost Try.prog Try.f30 (RtPost w0 b s R))) a w := by
  obtain ⟨tv, sv, vs, L, l, B, hfr, hj, h2, hl, hR⟩ := hj1
  obtain ⟨x, rfl⟩ := hfr.out
  clear hfr
  obtain ⟨ao, cap, rfl⟩ := ownsRow_slice hl
  obtain ⟨r0, c, hb, hf⟩ := hrc
  cases hb
  cases hf
  obtain ⟨i0, hi, hz0, hz1, hz2⟩ := info_parts info_steps
  have HPK : Hid (∀ W, RdAt W b s i → Calls Try.prog 39 #[.pointer (some ⟨b, 0, none⟩)] W fun e w' => e = .returned (.int .i64 (pk s i)) ∧ ∃ n, w' = W.drewN n) := fun W hW => peek_any s i b W hW hj.le hs
  have hown := hj.ownT.out
  have HJ : Hid _ := hj
  have HL : Hid _ := hl
  have HR : Hid _ := hR
  have HJ0 : Hid _ := hJ0
  have hlo := hj.lo
  have hhi := hj.hi
  clear hj hl hR hJ0
  unfold fr
  go_wp2_with (at_builtin; go_must (refine wpList_append_own _ rfl _ _ 58 rfl w0.heap.size 89 i0 (.slice none 0 0) 1 24 Try.underlying58 hi hz0 hz1 hz2 rfl (by decide) _ _ _ rfl (hown.alloc _) ⟨w.heap.size, 0, none⟩ 1 1 [.slice ao l.length cap] rfl rfl ?c1 ?c2 ?c3 ?c4 ?c5 ?_))
  case c1 =>
    intro j u hj
    match j, hj with
    | 0, hj => simp at hj; subst hj; simp [Addr.add]
  case c2 => intro u hu; simp at hu; subst hu; rfl
  case c3 => unfold maxLen; omega
  case c4 => omega
  case c5 => simp; omega
  intro v' w1 hown' hgrow _
  obtain ⟨g, cap', hv, hgb⟩ := ownsRow_shape hown'
  have JP := HJ.out.alloc (.cells #[.slice ao l.length cap] 89)
  have J1 : JJ w0 w1 b s i w1.heap.size v' (vs ++ [.slice ao l.length cap]) (L ++ [l]) := JP.pushed (World.ownsRow.alloc HL.out _) rfl hgrow hown'
  clear hown' hgrow JP hown HJ HL
  subst hv
  have c1 := J1.rd.c1
  have fz := J1.rd.f1
  have HJ1 : Hid _ := J1
  clear J1
  by_cases hq : pk s i = 124
  · have hR := HR.out
    by_cases hL : 2 ≤ L.length
    · rw [show 2 - L.length = 0 from by omega, beh_bar0 hq] at hR
      subst hR
      clear HR
      generalize pk s i = p at *
      subst hq
      go_wp2_with (go_at_call 39; go_must (refine Calls.mono (HPK.out _ (by first | exact HJ1.out.rd | exact HJ1.out.rd.drewN _)) ?_; rintro e w2 ⟨rfl, n, rfl⟩))
      exact ⟨rfl, (HJ1.out.drewN _).grow, rfl⟩
    · rw [show 2 - L.length = (1 - L.length) + 1 from by omega, beh_bar hq] at hR
      have hlt : i < s.size := pk_some (by omega)
      have HR1 : Hid (rd s (2 - (L ++ [l]).length) (i + 1) (L ++ [l]) = R) := by
        rw [show 2 - (L ++ [l]).length = 1 - L.length from by simp]; exact hR
      clear hR HR
      generalize pk s i = p at *
      subst hq
      go_wp2_with (go_at_call 39; go_must (refine Calls.mono (HPK.out _ (by first | exact HJ1.out.rd | exact HJ1.out.rd.drewN _)) ?_; rintro e w2 ⟨rfl, n, rfl⟩))
      go_step3
      refine HJ0.out _ _ (i + 1) (by omega) ⟨_, _, _, _, rfl, ((HJ1.out.drewN _).place ((i : Int) + 1) (by omega) hlt).top, by simp; omega, HR1.out⟩
  · by_cases hq2 : pk s i = -1
    · have hR := HR.out
      rw [beh_end hq2] at hR
      subst hR
      clear HR hq
      generalize pk s i = p at *
      subst hq2
      go_wp2_with (go_at_call 39; go_must (refine Calls.mono (HPK.out _ (by first | exact HJ1.out.rd | exact HJ1.out.rd.drewN _)) ?_; rintro e w2 ⟨rfl, n, rfl⟩))
      go_ret
      exact ⟨(HJ1.out.drewN _).grow, _, _, rfl, (HJ1.out.drewN _).ownT⟩
    · have hR := HR.out
      rw [beh_else hq2 hq] at hR
      have q1 : (pk s i == 124) = false := by simpa using hq
      have q2 : (pk s i != -1) = true := by simpa using hq2
      subst hR
      clear hq hq2 HR
      generalize pk s i = p at *
      go_wp2_with (go_at_call 39; go_must (refine Calls.mono (HPK.out _ (by first | exact HJ1.out.rd | exact HJ1.out.rd.drewN _)) ?_; rintro e w2 ⟨rfl, n, rfl⟩))
      exact ⟨rfl, (HJ1.out.drewN _).grow, rfl⟩

set_option maxHeartbeats 1000000 in
set_option maxRecDepth 100000 in
theorem rt2 (w0 : World) (b : Nat) (s : ByteArray) (R : Except Nat (List (List Nat))) (hs : s.size ≤ 150) (Rc : Code) (hrc : IsRest 2 Rc) (Jp : Nat → Act → World → Prop)
    (w : World) (i : Nat) (hJ0 : ∀ a w i', i < i' → J0 w0 b s R i' a w → Jp 0 a w) (hJ2 : ∀ a w i', i < i' → J2 w0 b s R i' a w → Jp 2 a w)
    (a : Act) (hj2 : J2 w0 b s R i a w) : Rc.wp Try.prog (jmp Jp (bodyPost Try.prog Try.f30 (RtPost w0 b s R))) a w := by
  obtain ⟨tv, sv, vs, L, l, B, hfr, hj, h2, hl, hl7, hR⟩ := hj2
  obtain ⟨x, rfl⟩ := hfr.out
  clear hfr
  obtain ⟨r0, c, hb, hf⟩ := hrc
  cases hb
  cases hf
  obtain ⟨i0, hi, hz0, hz1, hz2⟩ := info_parts info_step
  have HST : Hid _ := readStep_any s i b w hj.rd hj.le hs
  have HJ : Hid _ := hj
  have HL : Hid _ := hl
  have HR : Hid _ := hR
  have HJ0 : Hid _ := hJ0
  have HJ2 : Hid _ := hJ2
  have hlo := hj.lo
  have hhi := hj.hi
  clear hj hl hR hJ0 hJ2
  unfold fr
  cases hsb : stepBad s i with
  | some q =>
    have hR := HR.out
    rw [thr_bad hsb] at hR
    have hst : Calls Try.prog 40 #[.pointer (some ⟨b, 0, none⟩)] w fun e w' => e = .panicked (refusal 2 (q : Int)) ∧ w.grownBy w' (some b) :=
      Calls.mono HST.out fun e w' h => by unfold StepPost at h; rw [hsb] at h; exact h
    have HS : Hid _ := hst
    clear hst HST HR hsb
    subst hR
    go_wp2_with (go_at_call 40; go_must (refine Calls.mono HS.out ?_; rintro e w2 ⟨rfl, hg⟩))
    exact ⟨rfl, grownBy_trans HJ.out.grow hg, rfl⟩
  | none =>
    obtain ⟨a0, a1, a2, a3, a4, a5, a6, hcc⟩ : ∃ a0 a1 a2 a3 a4 a5 a6, ccells s i = [.int .u8 a0, .int .u8 a1, .int .u8 a2, .int .u8 a3, .int .u8 a4, .int .u8 a5, .int .i64 a6] := ⟨_, _, _, _, _, _, _, rfl⟩
    have hst : Calls Try.prog 40 #[.pointer (some ⟨b, 0, none⟩)] w fun e w' => e = .returned (.agg #[.int .u8 a0, .int .u8 a1, .int .u8 a2, .int .u8 a3, .int .u8 a4, .int .u8 a5, .int .i64 a6]) ∧ RdAt w' b s (stepAt s i + 1) ∧ w.grownBy w' (some b) :=
      Calls.mono HST.out fun e w' h => by unfold StepPost at h; rw [hsb, hcc] at h; exact h
    have HS : Hid _ := hst
    have HCC : Hid _ := hcc
    have HSB : Hid _ := hsb
    have hile : stepAt s i + 1 ≤ s.size := step_le hsb
    have hige : i ≤ stepAt s i := by unfold stepAt; omega
    clear hst HST hsb hcc
    go_wp2_with (first | (go_at_call 40; go_must (refine Calls.mono HS.out ?_; rintro e w2 ⟨rfl, hrd, hg⟩; have hown2 := HJ.out.row HL.out hg; have hsz2 := hg.size; have HG : Hid _ := hg; clear hg; have HRD : Hid _ := hrd; clear hrd)) | (at_builtin; go_must (refine wpList_append_own _ rfl _ _ 89 rfl B 102 i0 _ 7 16 Try.underlying89 hi hz0 hz1 hz2 rfl (by decide) _ _ _ rfl (hown2.alloc _) ⟨w2.heap.size, 0, none⟩ 1 1 [.int .u8 a0, .int .u8 a1, .int .u8 a2, .int .u8 a3, .int .u8 a4, .int .u8 a5, .int .i64 a6] rfl rfl ?c1 ?c2 ?c3 ?c4 ?c5 ?_)))
    case c1 => exact cells_new w2 [.int .u8 a0, .int .u8 a1, .int .u8 a2, .int .u8 a3, .int .u8 a4, .int .u8 a5, .int .i64 a6] _
    case c2 =>
      intro u hu
      simp at hu
      rcases hu with rfl | rfl | rfl | rfl | rfl | rfl | rfl <;> rfl
    case c3 => unfold maxLen; omega
    case c4 => omega
    case c5 => simp; omega
    intro v' w3 hown' hgrow _
    obtain ⟨g, cap', hv, hgb⟩ := ownsRow_shape hown'
    have J2' : JJ w0 w2 b s (stepAt s i + 1) B tv vs L := HJ.out.read HRD.out hile HG.out
    have J3 : JJ w0 w3 b s (stepAt s i + 1) B tv vs L := (J2'.alloc _).grown (hown2.alloc _) hgrow hown'
    have hown3 : w3.ownsRow B 102 7 v' (l ++ [i]).length ((l ++ [i]).flatMap (ccells s)) := by
      rw [List.flatMap_append]
      simpa [HCC.out] using hown'
    clear hown' hgrow J2' hown2 HG HRD HS HJ HL HCC
    subst hv
    have c1 := J3.rd.c1
    have fz := J3.rd.f1
    have HPK : Hid (∀ W, RdAt W b s (stepAt s i + 1) → Calls Try.prog 39 #[.pointer (some ⟨b, 0, none⟩)] W fun e w' => e = .returned (.int .i64 (pk s (stepAt s i + 1))) ∧ ∃ n, w' = W.drewN n) := fun W hW => peek_any s _ b W hW hile hs
    have HJ3 : Hid _ := J3
    have HO3 : Hid _ := hown3
    clear J3 hown3
    by_cases hq : pk s (stepAt s i + 1) = 59
    · by_cases hL : l.length < 7
      · have hR := HR.out
        rw [show 7 - l.length = (6 - l.length) + 1 from by omega, thr_go HSB.out hq] at hR
        have hlt : stepAt s i + 1 < s.size := pk_some (by omega)
        have HR1 : Hid (aft s (2 - L.length) L (thr s (7 - (l ++ [i]).length) (stepAt s i + 2) (l ++ [i])) = R) := by
          rw [show 7 - (l ++ [i]).length = 6 - l.length from by simp]; exact hR
        clear hR HR HSB
        generalize pk s (stepAt s i + 1) = p at *
        generalize stepAt s i = k at *
        subst hq
        go_wp2_with (go_at_call 39; go_must (refine Calls.mono (HPK.out _ (by first | exact HJ3.out.rd | exact HJ3.out.rd.drewN _)) ?_; rintro e w4 ⟨rfl, n, rfl⟩))
        go_step3
        refine HJ2.out _ _ (k + 2) (by omega) ⟨_, _, _, L, l ++ [i], B, rfl, (HJ3.out.drewN n).place _ (by rfl) hlt, h2, HJ3.out.row HO3.out (grownBy_trans (grownBy_drewN w3 n _) (grownBy_setCell _ _ _ _)), by simp; omega, HR1.out⟩
      · have HR1 : Hid (beh s (2 - L.length) L (l ++ [i]) (stepAt s i + 1) = R) := by
          have hR := HR.out
          rw [aft_beh HSB.out (.inr (by omega))] at hR
          exact hR
        clear HR HSB
        generalize pk s (stepAt s i + 1) = p at *
        generalize stepAt s i = k at *
        subst hq
        go_wp2_with (go_at_call 39; go_must (refine Calls.mono (HPK.out _ (by first | exact HJ3.out.rd | exact HJ3.out.rd.drewN _)) ?_; rintro e w4 ⟨rfl, n, rfl⟩))
        go_step3
        rename_i K hK
        refine hK _ _ ?_
        exact rt1 w0 b s R hs _ ⟨_, _, rfl, rfl⟩ Jp _ (k + 1) (fun a w i' hi' h => HJ0.out a w i' (by omega) h) _ ⟨_, _, _, L, l ++ [i], B, rfl, HJ3.out.drewN n, h2, HJ3.out.row HO3.out (grownBy_drewN w3 n _), HR1.out⟩
    · have HR1 : Hid (beh s (2 - L.length) L (l ++ [i]) (stepAt s i + 1) = R) := by
        have hR := HR.out
        rw [aft_beh HSB.out (.inl hq)] at hR
        exact hR
      have q1 : (pk s (stepAt s i + 1) == 59) = false := by simpa using hq
      clear HR HSB hq
      generalize pk s (stepAt s i + 1) = p at *
      generalize stepAt s i = k at *
      go_wp2_with (go_at_call 39; go_must (refine Calls.mono (HPK.out _ (by first | exact HJ3.out.rd | exact HJ3.out.rd.drewN _)) ?_; rintro e w4 ⟨rfl, n, rfl⟩))
      go_step3
      rename_i K hK
      refine hK _ _ ?_
      exact rt1 w0 b s R hs _ ⟨_, _, rfl, rfl⟩ Jp _ (k + 1) (fun a w i' hi' h => HJ0.out a w i' (by omega) h) _ ⟨_, _, _, L, l ++ [i], B, rfl, HJ3.out.drewN n, h2, HJ3.out.row HO3.out (grownBy_drewN w3 n _), HR1.out⟩

set_option maxHeartbeats 1000000 in
set_option maxRecDepth 100000 in
theorem rt0 (w0 : World) (b : Nat) (s : ByteArray) (R : Except Nat (List (List Nat))) (hs : s.size ≤ 150) (Rc : Code) (hrc : IsRest 0 Rc) (Jp : Nat → Act → World → Prop)
    (w : World) (i : Nat) (hJ0 : ∀ a w i', i < i' → J0 w0 b s R i' a w → Jp 0 a w) (hJ1 : ∀ a w, J1 w0 b s R i a w → Jp 1 a w) (hJ2 : ∀ a w i', i < i' → J2 w0 b s R i' a w → Jp 2 a w)
    (a : Act) (hj0 : J0 w0 b s R i a w) : Rc.wp Try.prog (jmp Jp (bodyPost Try.prog Try.f30 (RtPost w0 b s R))) a w := by
  obtain ⟨tv, sv, vs, L, hfr, hj, h2, hR⟩ := hj0
  obtain ⟨x, rfl⟩ := hfr.out
  clear hfr
  obtain ⟨r0, c, hb, hf⟩ := hrc
  cases hb
  cases hf
  have HPK : Hid (∀ W, RdAt W b s i → Calls Try.prog 39 #[.pointer (some ⟨b, 0, none⟩)] W fun e w' => e = .returned (.int .i64 (pk s i)) ∧ ∃ n, w' = W.drewN n) := fun W hW => peek_any s i b W hW hj.le hs
  have HJ : Hid _ := hj
  have HR : Hid _ := hR
  have HJ0 : Hid _ := hJ0
  have HJ1 : Hid _ := hJ1
  have HJ2 : Hid _ := hJ2
  clear hj hR hJ0 hJ1 hJ2
  unfold fr
  by_cases hq : pk s i = -1 ∨ pk s i = 124
  · have HR1 : Hid (beh s (2 - L.length) L [] i = R) := by
      have hR := HR.out
      rw [rd_none hq] at hR
      exact hR
    clear HR
    generalize pk s i = p at *
    rcases hq with hq | hq
    all_goals
      subst hq
      go_wp2_with (go_at_call 39; go_must (refine Calls.mono (HPK.out _ HJ.out.rd) ?_; rintro e w4 ⟨rfl, n, rfl⟩))
      go_step3
      exact HJ1.out _ _ ⟨_, _, _, L, [], w.heap.size, rfl, HJ.out.drewN n, h2, World.ownsRow_nil _ _ _ _, HR1.out⟩
  · have HR1 : Hid (aft s (2 - L.length) L (thr s (7 - ([] : List Nat).length) i []) = R) := by
      have hR := HR.out
      rw [rd_some hq] at hR
      exact hR
    have q1 : (pk s i == -1) = false := by simp; exact fun h => hq (.inl h)
    have q2 : (pk s i == 124) = false := by simp; exact fun h => hq (.inr h)
    clear HR hq
    generalize pk s i = p at *
    go_wp2_with (go_at_call 39; go_must (refine Calls.mono (HPK.out _ HJ.out.rd) ?_; rintro e w4 ⟨rfl, n, rfl⟩))
    go_step3
    rename_i K hK
    refine hK _ _ ?_
    exact rt2 w0 b s R hs _ ⟨_, _, rfl, rfl⟩ Jp _ i HJ0.out HJ2.out _ ⟨_, _, _, L, [], w.heap.size, rfl, HJ.out.drewN n, h2, World.ownsRow_nil _ _ _ _, by simp, HR1.out⟩

/-- The reader's place, off the world. -/
def plc (w : World) (b : Nat) : Nat := match w.cell? ⟨b, 1, none⟩ with
  | some (.int _ n) => n.toNat
  | _ => 0
theorem RdAt.plc {w : World} {b : Nat} {s : ByteArray} {i : Nat} (h : RdAt w b s i) : plc w b = i := by unfold Go.Proofs.Ytifidfgihpkgcaa.plc; rw [h.c1]; simp

theorem J0.at {w0 w : World} {b : Nat} {s : ByteArray} {R : Except Nat (List (List Nat))} {i : Nat} {a : Act} (h : J0 w0 b s R i a w) : plc w b = i ∧ i ≤ s.size := by
  obtain ⟨_, _, _, _, _, hj, _⟩ := h; exact ⟨hj.rd.plc, hj.le⟩
theorem J1.at {w0 w : World} {b : Nat} {s : ByteArray} {R : Except Nat (List (List Nat))} {i : Nat} {a : Act} (h : J1 w0 b s R i a w) : plc w b = i ∧ i ≤ s.size := by
  obtain ⟨_, _, _, _, _, _, _, hj, _⟩ := h; exact ⟨hj.rd.plc, hj.le⟩
theorem J2.at {w0 w : World} {b : Nat} {s : ByteArray} {R : Except Nat (List (List Nat))} {i : Nat} {a : Act} (h : J2 w0 b s R i a w) : plc w b = i ∧ i ≤ s.size := by
  obtain ⟨_, _, _, _, _, _, _, hj, _⟩ := h; exact ⟨hj.rd.plc, hj.le⟩

set_option maxHeartbeats 1000000 in
set_option maxRecDepth 100000 in
theorem readThreads_any (s : ByteArray) (b : Nat) (w : World) (hb : RdAt w b s 0) (hs : s.size ≤ 150) :
    Calls Try.prog 30 #[.pointer (some ⟨b, 0, none⟩)] w (RtPost w b s (rd s 2 0 [])) := by
  generalize hRR : rd s 2 0 [] = R
  have HB : Hid _ := hb
  have HRR : Hid _ := hRR
  clear hb hRR
  go_enter Try.func30, Try.ntmps30
  go_wp2
  refine wp_scope_all (fun l a w1 => (l = 0 ∧ ∃ i, J0 w b s R i a w1) ∨ (l = 1 ∧ ∃ i, J1 w b s R i a w1) ∨ (l = 2 ∧ ∃ i, J2 w b s R i a w1)) (fun l a w1 => 3 * (200 - plc w1 b) + if l = 0 then 2 else 0) ?_ ?_
  · go_wp2
    go_step3
    rename_i K hK
    refine hK _ _ ?_
    refine rt0 w b s R hs _ ⟨_, _, rfl, rfl⟩ _ _ 0 (fun a w i' _ h => .inl ⟨rfl, i', h⟩) (fun a w h => .inr (.inl ⟨rfl, 0, h⟩)) (fun a w i' _ h => .inr (.inr ⟨rfl, i', h⟩)) _ ⟨_, _, [], [], rfl, ?_, by simp, HRR.out⟩
    exact ⟨HB.out, Nat.zero_le _, HB.out.lt, grownBy_refl _ _, OwnT.nil _ _ _ _ _ _ _, Nat.le_refl _, Nat.le_refl _⟩
  · rintro l a1 w1 hJ
    rcases hJ with ⟨rfl, i, h⟩ | ⟨rfl, i, h⟩ | ⟨rfl, i, h⟩
    · have hp := h.at
      refine ⟨_, rfl, wp_seq (wp_skip ?_)⟩
      refine rt0 w b s R hs _ ⟨_, _, rfl, rfl⟩ _ _ i (fun a w i' hi' h' => ⟨.inl ⟨rfl, i', h'⟩, ?_⟩) (fun a w h' => ⟨.inr (.inl ⟨rfl, i, h'⟩), ?_⟩) (fun a w i' hi' h' => ⟨.inr (.inr ⟨rfl, i', h'⟩), ?_⟩) _ h
      all_goals
        have hp' := h'.at
        rw [hp.1, hp'.1]
        simp
        try omega
    · have hp := h.at
      refine ⟨_, rfl, wp_seq (wp_skip ?_)⟩
      refine rt1 w b s R hs _ ⟨_, _, rfl, rfl⟩ _ _ i (fun a w i' hi' h' => ⟨.inl ⟨rfl, i', h'⟩, ?_⟩) _ h
      have hp' := h'.at
      rw [hp.1, hp'.1]
      simp
      omega
    · have hp := h.at
      refine ⟨_, rfl, wp_seq (wp_skip ?_)⟩
      refine rt2 w b s R hs _ ⟨_, _, rfl, rfl⟩ _ _ i (fun a w i' hi' h' => ⟨.inl ⟨rfl, i', h'⟩, ?_⟩) (fun a w i' hi' h' => ⟨.inr (.inr ⟨rfl, i', h'⟩), ?_⟩) _ h
      all_goals
        have hp' := h'.at
        rw [hp.1, hp'.1]
        simp
        try omega

end Go.Proofs.Ytifidfgihpkgcaa

set_option linter.unusedSimpArgs false
set_option linter.unusedVariables false
namespace Go.Proofs.Ytifidfgihpkgcaa
open Go.RowKit Wv

/-- The table of what steps do, as deeds makes it. -/
def deedEntries : Array MapEntry := #[{ key := .int .u8 61, val := .func (.func 41) #[] #[], born := 0 }, { key := .int .u8 43, val := .func (.func 42) #[] #[], born := 1 }, { key := .int .u8 45, val := .func (.func 43) #[] #[], born := 2 }, { key := .int .u8 114, val := .func (.func 44) #[] #[], born := 3 }, { key := .int .u8 119, val := .func (.func 45) #[] #[], born := 4 }, { key := .int .u8 108, val := .func (.func 46) #[] #[], born := 5 }, { key := .int .u8 117, val := .func (.func 47) #[] #[], born := 6 }, { key := .int .u8 122, val := .func (.func 48) #[] #[], born := 7 }, { key := .int .u8 106, val := .func (.func 49) #[] #[], born := 8 }, { key := .int .u8 33, val := .func (.func 50) #[] #[], born := 9 }]

theorem set_alloc (w : World) (o o' : Obj) : ({ (w.alloc o) with heap := (w.alloc o).heap.setIfInBounds w.heap.size o' } : World) = w.alloc o' := by
  have h : (w.heap.push o).setIfInBounds w.heap.size o' = w.heap.push o' := by
    apply Array.ext
    · simp
    · intro i h1 h2
      simp at h1 h2
      by_cases hi : i = w.heap.size
      · subst hi; simp
      · have : i < w.heap.size := by omega
        rw [Array.getElem_setIfInBounds_ne (by simpa using h1) (fun e => hi e.symm)]
        rw [Array.getElem_push_lt this, Array.getElem_push_lt this]
  show ({ w with heap := (w.heap.push o).setIfInBounds w.heap.size o' } : World) = { w with heap := w.heap.push o' }
  rw [h]

theorem run_up (w : World) (es : Array MapEntry) (clock : Nat) (k : Int) (val : Value) (hf : Instr.findNow (.int .u8) (.int .u8 k) es.toList 0 = some none) :
    (Instr.mapUpdate 59 (.map (some w.heap.size)) (.int .u8 k) val).run Try.prog (w.alloc (.map es clock)) = .ok () (w.alloc (.map (es.push { key := .int .u8 k, val := val, born := clock }) (clock + 1))) := by
  have hb : (w.alloc (.map es clock)).heap[w.heap.size]? = some (.map es clock) := heap_alloc_new w _
  have hc : (Instr.checkKey false 10000 5 (.int .u8 k)).run Try.prog (w.alloc (.map es clock)) = .ok () (w.alloc (.map es clock)) := MapKept.run_checkKey (k := .int .u8 k) Try.underlying5 (by simp [MapKept.IsKey]) false 9999
  simp [Instr.mapUpdate, run_underlying Try.underlying59, MapKept.run_getObj_map hb, hc, MapKept.run_findKey Try.underlying5 hf, MapKept.run_setObj_map _ hb, Result.andThen]
  exact set_alloc w _ _

set_option maxHeartbeats 1000000 in
set_option maxRecDepth 100000 in
theorem deeds_any (w : World) : Calls Try.prog 31 #[] w fun e w' => e = .returned (.map (some w.heap.size)) ∧ w' = w.alloc (.map deedEntries 10) := by
  have hmm := @run_makeMap Try.prog
  have u0 := run_up w #[] 0 61 (.func (.func 41) #[] #[]) rfl
  have u1 := run_up w #[{ key := .int .u8 61, val := .func (.func 41) #[] #[], born := 0 }] 1 43 (.func (.func 42) #[] #[]) rfl
  have u2 := run_up w #[{ key := .int .u8 61, val := .func (.func 41) #[] #[], born := 0 }, { key := .int .u8 43, val := .func (.func 42) #[] #[], born := 1 }] 2 45 (.func (.func 43) #[] #[]) rfl
  have u3 := run_up w #[{ key := .int .u8 61, val := .func (.func 41) #[] #[], born := 0 }, { key := .int .u8 43, val := .func (.func 42) #[] #[], born := 1 }, { key := .int .u8 45, val := .func (.func 43) #[] #[], born := 2 }] 3 114 (.func (.func 44) #[] #[]) rfl
  have u4 := run_up w #[{ key := .int .u8 61, val := .func (.func 41) #[] #[], born := 0 }, { key := .int .u8 43, val := .func (.func 42) #[] #[], born := 1 }, { key := .int .u8 45, val := .func (.func 43) #[] #[], born := 2 }, { key := .int .u8 114, val := .func (.func 44) #[] #[], born := 3 }] 4 119 (.func (.func 45) #[] #[]) rfl
  have u5 := run_up w #[{ key := .int .u8 61, val := .func (.func 41) #[] #[], born := 0 }, { key := .int .u8 43, val := .func (.func 42) #[] #[], born := 1 }, { key := .int .u8 45, val := .func (.func 43) #[] #[], born := 2 }, { key := .int .u8 114, val := .func (.func 44) #[] #[], born := 3 }, { key := .int .u8 119, val := .func (.func 45) #[] #[], born := 4 }] 5 108 (.func (.func 46) #[] #[]) rfl
  have u6 := run_up w #[{ key := .int .u8 61, val := .func (.func 41) #[] #[], born := 0 }, { key := .int .u8 43, val := .func (.func 42) #[] #[], born := 1 }, { key := .int .u8 45, val := .func (.func 43) #[] #[], born := 2 }, { key := .int .u8 114, val := .func (.func 44) #[] #[], born := 3 }, { key := .int .u8 119, val := .func (.func 45) #[] #[], born := 4 }, { key := .int .u8 108, val := .func (.func 46) #[] #[], born := 5 }] 6 117 (.func (.func 47) #[] #[]) rfl
  have u7 := run_up w #[{ key := .int .u8 61, val := .func (.func 41) #[] #[], born := 0 }, { key := .int .u8 43, val := .func (.func 42) #[] #[], born := 1 }, { key := .int .u8 45, val := .func (.func 43) #[] #[], born := 2 }, { key := .int .u8 114, val := .func (.func 44) #[] #[], born := 3 }, { key := .int .u8 119, val := .func (.func 45) #[] #[], born := 4 }, { key := .int .u8 108, val := .func (.func 46) #[] #[], born := 5 }, { key := .int .u8 117, val := .func (.func 47) #[] #[], born := 6 }] 7 122 (.func (.func 48) #[] #[]) rfl
  have u8 := run_up w #[{ key := .int .u8 61, val := .func (.func 41) #[] #[], born := 0 }, { key := .int .u8 43, val := .func (.func 42) #[] #[], born := 1 }, { key := .int .u8 45, val := .func (.func 43) #[] #[], born := 2 }, { key := .int .u8 114, val := .func (.func 44) #[] #[], born := 3 }, { key := .int .u8 119, val := .func (.func 45) #[] #[], born := 4 }, { key := .int .u8 108, val := .func (.func 46) #[] #[], born := 5 }, { key := .int .u8 117, val := .func (.func 47) #[] #[], born := 6 }, { key := .int .u8 122, val := .func (.func 48) #[] #[], born := 7 }] 8 106 (.func (.func 49) #[] #[]) rfl
  have u9 := run_up w #[{ key := .int .u8 61, val := .func (.func 41) #[] #[], born := 0 }, { key := .int .u8 43, val := .func (.func 42) #[] #[], born := 1 }, { key := .int .u8 45, val := .func (.func 43) #[] #[], born := 2 }, { key := .int .u8 114, val := .func (.func 44) #[] #[], born := 3 }, { key := .int .u8 119, val := .func (.func 45) #[] #[], born := 4 }, { key := .int .u8 108, val := .func (.func 46) #[] #[], born := 5 }, { key := .int .u8 117, val := .func (.func 47) #[] #[], born := 6 }, { key := .int .u8 122, val := .func (.func 48) #[] #[], born := 7 }, { key := .int .u8 106, val := .func (.func 49) #[] #[], born := 8 }] 9 33 (.func (.func 50) #[] #[]) rfl
  simp only [List.push_toArray, List.nil_append, List.cons_append, Nat.reduceAdd, Nat.zero_add] at u0 u1 u2 u3 u4 u5 u6 u7 u8 u9
  go_enter Try.func31, Try.ntmps31
  go_wp2
  go_ret
  exact ⟨rfl, rfl⟩
end Go.Proofs.Ytifidfgihpkgcaa

set_option linter.unusedSimpArgs false
set_option linter.unusedVariables false
namespace Go.Proofs.Ytifidfgihpkgcaa
open Go.RowKit Wv

def JumpPost (s : ByteArray) (len : Nat) (l : List Nat) (e : Ending) : Prop :=
  match jump1 s len l with
  | some p => e = .panicked (refusal 3 (p : Int))
  | none => e = .returned (.tuple #[])

theorem ccells_len (s : ByteArray) (i : Nat) : (ccells s i).length = 7 := rfl

/-- The cells of step k of a row. -/
theorem step_cells {w wr : World} {base g n cap : Nat} {s : ByteArray} {l : List Nat} (hown : w.ownsRow base 102 7 (.slice (some ⟨g, 0, none⟩) n cap) l.length (l.flatMap (ccells s))) (hgr : w.grownBy wr none) (k : Nat) (hk : k < l.length) :
    wr.cell? ⟨g, k * 7, none⟩ = some (.int .u8 (pk s l[k])) ∧ wr.cell? ⟨g, k * 7 + 1, none⟩ = some (.int .u8 (cNum s l[k])) ∧ wr.cell? ⟨g, k * 7 + 2, none⟩ = some (.int .u8 (cSec s l[k])) ∧
    wr.cell? ⟨g, k * 7 + 3, none⟩ = some (.int .u8 (cCell s l[k])) ∧ wr.cell? ⟨g, k * 7 + 4, none⟩ = some (.int .u8 (cLock s l[k])) ∧ wr.cell? ⟨g, k * 7 + 5, none⟩ = some (.int .u8 (cDig s l[k])) ∧ wr.cell? ⟨g, k * 7 + 6, none⟩ = some (.int .i64 (cPl s l[k])) := by
  have key : ∀ j u, j < 7 → (ccells s l[k])[j]? = some u → wr.cell? ⟨g, k * 7 + j, none⟩ = some u := by
    intro j u hj hu
    have h1 := hown.cells (g := g) rfl (k * 7 + j) u (by rw [flatMap_get (ccells_len s) l k hk j hj]; exact hu)
    have hadd : (⟨g, 0, none⟩ : Addr).add (k * 7 + j) = ⟨g, k * 7 + j, none⟩ := by unfold Addr.add; split <;> simp_all
    rw [hadd] at h1
    exact hgr.cell h1 (by simp)
  exact ⟨key 0 _ (by omega) rfl, key 1 _ (by omega) rfl, key 2 _ (by omega) rfl, key 3 _ (by omega) rfl, key 4 _ (by omega) rfl, key 5 _ (by omega) rfl, key 6 _ (by omega) rfl⟩

theorem jumpBad_eq (s : ByteArray) (len i : Nat) : jumpBad s len i = ((pk s i == 122 || pk s i == 106) && decide ((len : Int) < cDig s i)) := by
  unfold jumpBad cDig
  by_cases h1 : pk s i = 122
  · simp [h1]
  · by_cases h2 : pk s i = 106
    · simp [h2]
    · have a1 : (pk s i == 122) = false := by simpa using h1
      have a2 : (pk s i == 106) = false := by simpa using h2
      rw [a1, a2]; simp
theorem grownBy_alloc2 {w w1 : World} {r : Option Nat} (h : w.grownBy w1 r) (o : Obj) : w.grownBy (w1.alloc o) r := grownBy_trans h (World.grownBy_alloc w1 o r)
theorem jump_hit {s : ByteArray} {len k : Nat} {l : List Nat} (hk : k < l.length) (h : jumpBad s len l[k] = true) : jump1 s len (l.drop k) = some (stepAt s l[k]) := by
  rw [List.drop_eq_getElem_cons hk, jump1, if_pos h]
theorem jump_miss {s : ByteArray} {len k : Nat} {l : List Nat} (hk : k < l.length) (h : jumpBad s len l[k] = false) : jump1 s len (l.drop k) = jump1 s len (l.drop (k + 1)) := by
  rw [List.drop_eq_getElem_cons hk, jump1, h]; rfl

set_option maxHeartbeats 2000000 in
set_option maxRecDepth 100000 in
theorem checkJumps_any (s : ByteArray) (base : Nat) (v : Value) (l : List Nat) (w : World) (hown : w.ownsRow base 102 7 v l.length (l.flatMap (ccells s))) (h8 : l.length ≤ 8) (hgood : ∀ x ∈ l, stepBad s x = none) :
    Calls Try.prog 32 #[v] w fun e w' => JumpPost s l.length l e ∧ w.grownBy w' none := by
  obtain ⟨ao, cap, rfl⟩ := ownsRow_slice hown
  have HO : Hid _ := hown
  have HG : Hid _ := hgood
  clear hown hgood
  go_enter Try.func32, Try.ntmps32
  go_wp2
  go_loopw [6] (fun i wr => ∃ k : Nat, k ≤ l.length ∧ i = .int .i64 k ∧ w.grownBy wr none ∧ Hid (jump1 s l.length (l.drop k) = jump1 s l.length l)) (fun i _ => l.length - (intOf i).toNat)
  case atStart => exact ⟨0, Nat.zero_le _, rfl, grownBy_refl _ _, rfl⟩
  case round =>
    obtain ⟨k, hk, rfl, hgr, hj⟩ := hrel
    by_cases hlt : k < l.length
    · obtain ⟨g, hao⟩ : ∃ g, ao = some ⟨g, 0, none⟩ := by
        rcases (HO.out).2 with ⟨_, h0⟩ | ⟨g, cp, cur, hv, _⟩
        · omega
        · simp at hv
          exact ⟨g, hv.1⟩
      subst hao
      obtain ⟨d0, d1, d2, d3, d4, d5, d6⟩ := step_cells HO.out hgr k hlt
      have hdig := good_dig (HG.out l[k] (List.getElem_mem hlt))
      have hpk := pk_range s l[k]
      have HE : Hid _ := jumpBad_eq s l.length l[k]
      have HPL : Hid (pk s l[k] = 122 ∨ pk s l[k] = 106 → cPl s l[k] = (stepAt s l[k] : Int)) := by
        intro h; unfold cPl; rw [if_pos (by rcases h with h | h <;> simp [h])]
      have HJh : Hid (jumpBad s l.length l[k] = true → jump1 s l.length l = some (stepAt s l[k])) := fun h => by rw [← hj.out]; exact jump_hit hlt h
      have HJm : Hid (jumpBad s l.length l[k] = false → jump1 s l.length (l.drop (k + 1)) = jump1 s l.length l) := fun h => by rw [← hj.out]; exact (jump_miss hlt h).symm
      have HGR : Hid _ := hgr
      clear hj hgr
      generalize jumpBad s l.length l[k] = jb at *
      generalize pk s l[k] = p at *
      generalize cNum s l[k] = x1 at *
      generalize cSec s l[k] = x2 at *
      generalize cCell s l[k] = x3 at *
      generalize cLock s l[k] = x4 at *
      generalize cDig s l[k] = d at *
      generalize cPl s l[k] = x6 at *
      generalize stepAt s l[k] = sa at *
      by_cases h1 : p = 122
      · subst h1
        by_cases hd : (l.length : Int) < d
        · have hb : jb = true := by rw [HE.out]; simp [hd]
          go_wp2_with fail
          refine ⟨rfl, ?_, grownBy_alloc2 HGR.out _⟩
          unfold JumpPost
          rw [HJh.out hb, HPL.out (by simp)]
          rfl
        · have hb : jb = false := by rw [HE.out]; simp; omega
          go_wp2_with fail
          go_roundw
          case rel => exact ⟨k + 1, by omega, by go_num, grownBy_alloc2 HGR.out _, HJm.out hb⟩
          case measure => simp [intOf]; omega
      by_cases h2 : p = 106
      · subst h2
        by_cases hd : (l.length : Int) < d
        · have hb : jb = true := by rw [HE.out]; simp [hd]
          go_wp2_with fail
          refine ⟨rfl, ?_, grownBy_alloc2 HGR.out _⟩
          unfold JumpPost
          rw [HJh.out hb, HPL.out (by simp)]
          rfl
        · have hb : jb = false := by rw [HE.out]; simp; omega
          go_wp2_with fail
          go_roundw
          case rel => exact ⟨k + 1, by omega, by go_num, grownBy_alloc2 HGR.out _, HJm.out hb⟩
          case measure => simp [intOf]; omega
      have q1 : (p == 122) = false := by simpa using h1
      have q2 : (p == 106) = false := by simpa using h2
      have hb : jb = false := by rw [HE.out, q1, q2]; rfl
      clear h1 h2
      go_wp2_with fail
      go_roundw
      case rel => exact ⟨k + 1, by omega, by go_num, grownBy_alloc2 HGR.out _, HJm.out hb⟩
      case measure => simp [intOf]; omega
    · go_wp2_with fail
      go_end0
      refine ⟨?_, hgr⟩
      unfold JumpPost
      rw [← hj.out, List.drop_of_length_le (by omega)]
      rfl

end Go.Proofs.Ytifidfgihpkgcaa

set_option linter.unusedSimpArgs false
set_option linter.unusedVariables false
namespace Go.Proofs.Ytifidfgihpkgcaa
open Go.RowKit Wv

/-- A program that was read: its threads and the table of what steps do. -/
structure Machine (w : World) (base : Nat) (s : ByteArray) (L : List (List Nat)) (tv : Value) (vs : List Value) (mb : Nat) : Prop where
  rd : Wv.rd s 2 0 [] = .ok L
  own : OwnT w base 89 102 7 (ccells s) w.heap.size tv vs L
  deeds : w.heap[mb]? = some (.map deedEntries 10)

def ReadPost (w : World) (s : ByteArray) (e : Ending) (w' : World) : Prop :=
  w.grownBy w' none ∧ (((chk s).1 ≠ 0 ∧ e = .panicked (refusal (chk s).1 ((chk s).2 : Int))) ∨
    ((chk s).1 = 0 ∧ ∃ L tv vs mb, e = .returned (.agg #[tv, .map (some mb)]) ∧ Machine w' (w.heap.size + 2) s L tv vs mb))

theorem rd_start (w : World) (o : Obj) (s : ByteArray) : RdAt ((w.alloc o).alloc (.cells #[.string s, .int .i64 0] 86)) (w.heap.size + 1) s 0 := by
  have h := heap_alloc_new (w.alloc o) (.cells #[.string s, .int .i64 0] 86)
  have hs : (w.alloc o).heap.size = w.heap.size + 1 := by simp
  rw [hs] at h
  exact ⟨h⟩
theorem grow_two {w w2 : World} {o o' : Obj} {b : Nat} (hg : ((w.alloc o).alloc o').grownBy w2 (some (w.heap.size + b))) : w.grownBy w2 none :=
  grownBy_new (grownBy_trans (World.grownBy_alloc w o none) (World.grownBy_alloc _ o' none)) hg (fun r e => by simp at e; omega)

theorem chk_long {s : ByteArray} (h : 150 < s.size) : chk s = (1, 0) := by simp [chk, h]
theorem chk_text {s : ByteArray} {p : Nat} (h : ¬ 150 < s.size) (hr : rd s 2 0 [] = .error p) : chk s = (2, p) := by simp [chk, h, hr]
theorem chk_jump {s : ByteArray} {p : Nat} {L : List (List Nat)} (h : ¬ 150 < s.size) (hr : rd s 2 0 [] = .ok L) (hj : jumps s L = some p) : chk s = (3, p) := by simp [chk, h, hr, hj]
theorem chk_ok {s : ByteArray} {L : List (List Nat)} (h : ¬ 150 < s.size) (hr : rd s 2 0 [] = .ok L) (hj : jumps s L = none) : chk s = (0, 0) := by simp [chk, h, hr, hj]

set_option maxHeartbeats 400000 in
theorem read_long (s : ByteArray) (w : World) (h : 150 < s.size) (hm : s.size ≤ maxLen) : Calls Try.prog 19 #[.string s] w (ReadPost w s) := by
  unfold maxLen at hm
  have HC : Hid _ := chk_long h
  go_enter Try.func19, Try.ntmps19
  go_wp2
  refine ⟨rfl, World.grownBy_alloc _ _ _, .inl ?_⟩
  rw [HC.out]
  exact ⟨by decide, rfl⟩

set_option maxHeartbeats 400000 in
theorem read_text (s : ByteArray) (p : Nat) (w : World) (h : ¬ 150 < s.size) (hr : rd s 2 0 [] = .error p) : Calls Try.prog 19 #[.string s] w (ReadPost w s) := by
  have HC : Hid _ := chk_text h hr
  have hrt : ∀ (w1 : World) (b : Nat), RdAt w1 b s 0 → Calls Try.prog 30 #[.pointer (some ⟨b, 0, none⟩)] w1 (fun e w' => e = .panicked (refusal 2 (p : Int)) ∧ w1.grownBy w' (some b)) :=
    fun w1 b hb => (readThreads_any s b w1 hb (by omega)).mono fun e w' h => by rw [hr] at h; exact ⟨h.2, h.1⟩
  have HRT : Hid _ := hrt
  clear hrt hr
  go_enter Try.func19, Try.ntmps19
  go_wp2_with (go_at_call 30; go_must (refine Calls.mono (HRT.out _ _ (rd_start w _ s)) ?_; rintro e w2 ⟨rfl, hg⟩))
  refine ⟨rfl, grow_two hg, .inl ?_⟩
  rw [HC.out]
  exact ⟨by simp, rfl⟩

/-- The worlds in which the loop over the threads goes on. -/
structure LoopAt (w w2 wr : World) (s : ByteArray) (L : List (List Nat)) (ao : Option Addr) (cap : Nat) (vs : List Value) : Prop where
  grow : w.grownBy wr none
  own : OwnT wr (w.heap.size + 2) 89 102 7 (ccells s) w2.heap.size (.slice ao L.length cap) vs L
  map : wr.heap[w2.heap.size]? = some (.map deedEntries 10)
  mach : wr.heap[w2.heap.size + 1]? = some (.cells #[.slice ao L.length cap, .map (some w2.heap.size)] 61 (0, 0))
  res : wr.heap[w.heap.size]? = some (.cells #[.slice none 0 0, .map none] 61 (0, 0))
  sz : w.heap.size + 2 ≤ w2.heap.size

theorem LoopAt.start {w w2 : World} {s : ByteArray} {L : List (List Nat)} {ao : Option Addr} {cap : Nat} {vs : List Value} {o' : Obj}
    (hg : ((w.alloc (.cells #[.slice none 0 0, .map none] 61)).alloc o').grownBy w2 (some (w.heap.size + 1)))
    (ho : OwnT w2 ((w.alloc (.cells #[.slice none 0 0, .map none] 61)).alloc o').heap.size 89 102 7 (ccells s) w2.heap.size (.slice ao L.length cap) vs L) :
    LoopAt w w2 ((w2.alloc (.map deedEntries 10)).alloc (.cells #[.slice ao L.length cap, .map (some w2.heap.size)] 61)) s L ao cap vs := by
  have hsz : ((w.alloc (.cells #[.slice none 0 0, .map none] 61)).alloc o').heap.size = w.heap.size + 2 := by simp
  have hs2 := hg.size
  rw [hsz] at hs2 ho
  have hm : (w2.alloc (.map deedEntries 10)).heap.size = w2.heap.size + 1 := by simp
  refine ⟨grownBy_trans (grownBy_trans (grow_two hg) (World.grownBy_alloc _ _ _)) (World.grownBy_alloc _ _ _), ?_, ?_, ?_, ?_, hs2⟩
  · exact ho.kept (grownBy_trans (World.grownBy_alloc _ _ none) (World.grownBy_alloc _ _ none)) (by cases Value.ownBlock (.slice ao L.length cap) <;> simp) (by simp)
  · rw [heap_alloc_old _ _ (by rw [hm]; omega)]; exact heap_alloc_new w2 _
  · rw [← hm]; exact heap_alloc_new _ _
  · rw [heap_alloc_old _ _ (by rw [hm]; omega), heap_alloc_old _ _ (by omega), hg.block _ (by rw [hsz]; omega) (by simp), heap_alloc_old _ _ (by simp)]
    exact heap_alloc_new w _
theorem LoopAt.go {w w2 wr wr' : World} {s : ByteArray} {L : List (List Nat)} {ao : Option Addr} {cap : Nat} {vs : List Value} (h : LoopAt w w2 wr s L ao cap vs) (hg : wr.grownBy wr' none) : LoopAt w w2 wr' s L ao cap vs :=
  ⟨grownBy_trans h.grow hg, h.own.kept hg (by cases Value.ownBlock (.slice ao L.length cap) <;> simp) (by simp), (hg.block _ (lt_of_block h.map) (by simp)).trans h.map, (hg.block _ (lt_of_block h.mach) (by simp)).trans h.mach,
    (hg.block _ (lt_of_block h.res) (by simp)).trans h.res, h.sz⟩
theorem blk2 {w : World} {b : Nat} {v0 v1 : Value} {t : TypeId} (h : w.heap[b]? = some (.cells #[v0, v1] t (0, 0))) :
    w.cell? ⟨b, 0, none⟩ = some v0 ∧ w.cell? ⟨b, 1, none⟩ = some v1 ∧ ∀ o, w.frozen? ⟨b, o, none⟩ = false := by
  refine ⟨?_, ?_, fun o => ?_⟩ <;> simp [World.cell?, World.frozen?, h]
/-- Thread k's row, and where it lies. -/
theorem LoopAt.thread {w w2 wr : World} {s : ByteArray} {L : List (List Nat)} {ao : Option Addr} {cap : Nat} {vs : List Value} (h : LoopAt w w2 wr s L ao cap vs) (k : Nat) (hk : k < L.length) :
    ∃ g v, ao = some ⟨g, 0, none⟩ ∧ wr.cell? ⟨g, k, none⟩ = some v ∧ wr.ownsRow (w.heap.size + 2) 102 7 v L[k].length (L[k].flatMap (ccells s)) := by
  obtain ⟨v, hv, hi⟩ := h.own.inn k L[k] (List.getElem?_eq_getElem hk)
  rcases h.own.out.2 with ⟨_, h0⟩ | ⟨g, cp, cur, hvv, _⟩
  · omega
  · simp at hvv
    refine ⟨g, v, hvv.1, ?_, hi.own⟩
    have h1 := h.own.out.cells (g := g) (by rw [hvv.1]; rfl) k v hv
    have hadd : (⟨g, 0, none⟩ : Addr).add k = ⟨g, k, none⟩ := by unfold Addr.add; split <;> simp_all
    rw [hadd] at h1
    exact h1
theorem LoopAt.done {w w2 wr : World} {s : ByteArray} {L : List (List Nat)} {ao : Option Addr} {cap : Nat} {vs : List Value} (h : LoopAt w w2 wr s L ao cap vs) (hr : Wv.rd s 2 0 [] = .ok L) (u v : Value) :
    w.grownBy ((wr.setCell ⟨w.heap.size, 0, none⟩ u).setCell ⟨w.heap.size, 1, none⟩ v) none ∧
    Machine ((wr.setCell ⟨w.heap.size, 0, none⟩ u).setCell ⟨w.heap.size, 1, none⟩ v) (w.heap.size + 2) s L (.slice ao L.length cap) vs w2.heap.size := by
  have hg : wr.grownBy ((wr.setCell ⟨w.heap.size, 0, none⟩ u).setCell ⟨w.heap.size, 1, none⟩ v) (some w.heap.size) := grownBy_trans (grownBy_setCell _ _ _ _) (grownBy_setCell _ _ _ _)
  have hsz := h.sz
  have hlt := lt_of_block h.map
  refine ⟨grownBy_new h.grow hg (fun r e => by simp at e; omega), hr, ?_, ?_⟩
  · refine (h.own.kept hg ?_ (fun r e => by simp at e; omega)).mono (by have := hg.size; omega)
    cases hv : Value.ownBlock (.slice ao L.length cap) with
    | none => exact .inl rfl
    | some g => have := h.own.out.lt g hv; exact .inr (by simp; omega)
  · rw [hg.block _ hlt (by simp; omega)]; exact h.map
theorem jumps_hit {s : ByteArray} {k p : Nat} {L : List (List Nat)} (hk : k < L.length) (h : jump1 s L[k].length L[k] = some p) : jumps s (L.drop k) = some p := by
  rw [List.drop_eq_getElem_cons hk, jumps, h]
theorem jumps_miss {s : ByteArray} {k : Nat} {L : List (List Nat)} (hk : k < L.length) (h : jump1 s L[k].length L[k] = none) : jumps s (L.drop k) = jumps s (L.drop (k + 1)) := by
  rw [List.drop_eq_getElem_cons hk, jumps, h]

set_option maxHeartbeats 1000000 in
set_option maxRecDepth 100000 in
theorem read_rest (s : ByteArray) (L : List (List Nat)) (w : World) (h : ¬ 150 < s.size) (hr : rd s 2 0 [] = .ok L) : Calls Try.prog 19 #[.string s] w (ReadPost w s) := by
  have hrt : ∀ (w1 : World) (b : Nat), RdAt w1 b s 0 → Calls Try.prog 30 #[.pointer (some ⟨b, 0, none⟩)] w1 (fun e w' => ∃ tv vs, e = .returned tv ∧ OwnT w' w1.heap.size 89 102 7 (ccells s) w'.heap.size tv vs L ∧ w1.grownBy w' (some b)) :=
    fun w1 b hb => (readThreads_any s b w1 hb (by omega)).mono fun e w' h => by
      rw [hr] at h
      obtain ⟨h1, tv, vs, h2, h3⟩ := h
      exact ⟨tv, vs, h2, h3, h1⟩
  have hg := rd_good hr (by simp)
  have HG : Hid _ := hg.1
  have hL3 : L.length ≤ 3 := by simpa using hg.2
  have HRT : Hid _ := hrt
  have HR : Hid _ := hr
  clear hrt hr hg
  go_enter Try.func19, Try.ntmps19
  go_wp2_with (first | (go_at_call 30; go_must (refine Calls.mono (HRT.out _ _ (rd_start w _ s)) ?_; rintro e w2 ⟨tv, vs, rfl, hown, hg⟩; have HO : Hid _ := hown; have HGR : Hid _ := hg; obtain ⟨ao, cap, hv⟩ := ownsRow_slice hown.out; clear hown hg; subst hv)) | (go_at_call 31; go_must (refine Calls.mono (deeds_any _) ?_; rintro e w3 ⟨rfl, rfl⟩)))
  have hst := LoopAt.start HGR.out HO.out
  have HH : Hid _ := h
  clear HO HGR h HRT
  go_loopw [20] (fun i wr => ∃ k : Nat, k ≤ L.length ∧ i = .int .i64 k ∧ LoopAt w w2 wr s L ao cap vs ∧ Hid (jumps s (L.drop k) = jumps s L)) (fun i _ => L.length - (intOf i).toNat)
  case atStart => exact ⟨0, Nat.zero_le _, rfl, hst, rfl⟩
  case round =>
    obtain ⟨k, hk, rfl, hat, hj⟩ := hrel
    clear hst
    by_cases hlt : k < L.length
    · obtain ⟨g, v, hao, hcell, hrow⟩ := hat.thread k hlt
      subst hao
      have hgk := HG.out L[k] (List.getElem_mem hlt)
      have hcj := checkJumps_any s _ v L[k] wr hrow hgk.2 hgk.1
      have HAT : Hid _ := hat
      clear hgk hrow hat
      cases hjj : jump1 s L[k].length L[k] with
      | some p =>
        have HC : Hid _ := chk_jump HH.out HR.out (by rw [← hj.out]; exact jumps_hit hlt hjj)
        have HCJ : Hid (Calls Try.prog 32 #[v] wr fun e w' => e = .panicked (refusal 3 (p : Int)) ∧ wr.grownBy w' none) := hcj.mono fun e w' h => by unfold JumpPost at h; rw [hjj] at h; exact h
        clear hcj hj hjj
        go_wp2_with (go_at_call 32; go_must (refine Calls.mono HCJ.out ?_; rintro e w4 ⟨rfl, hg⟩))
        refine ⟨rfl, grownBy_trans HAT.out.grow hg, .inl ?_⟩
        rw [HC.out]
        exact ⟨by simp, rfl⟩
      | none =>
        have HJ : Hid (jumps s (L.drop (k + 1)) = jumps s L) := by rw [← hj.out]; exact (jumps_miss hlt hjj).symm
        have HCJ : Hid (Calls Try.prog 32 #[v] wr fun e w' => e = .returned (.tuple #[]) ∧ wr.grownBy w' none) := hcj.mono fun e w' h => by unfold JumpPost at h; rw [hjj] at h; exact h
        clear hcj hj hjj
        go_wp2_with (go_at_call 32; go_must (refine Calls.mono HCJ.out ?_; rintro e w4 ⟨rfl, hg⟩))
        go_roundw
        case rel => exact ⟨k + 1, by omega, by go_num, HAT.out.go hg, HJ⟩
        case measure => simp [intOf]; omega
    · obtain ⟨m0, m1, mf⟩ := blk2 hat.mach
      obtain ⟨n0, n1, nf⟩ := blk2 hat.res
      have HAT : Hid _ := hat
      have hne : w2.heap.size + 1 ≠ w.heap.size := by have := hat.sz; omega
      have HC : Hid _ := chk_ok HH.out HR.out (by rw [← hj.out, List.drop_of_length_le (by omega)]; rfl)
      clear hat hj
      go_wp2_with fail
      have hd := HAT.out.done HR.out (.slice ao L.length cap) (.map (some w2.heap.size))
      refine bodyPost_ret (v := .agg #[.slice ao L.length cap, .map (some w2.heap.size)]) ?_ rfl ⟨hd.1, .inr ⟨by rw [HC.out], L, _, vs, _, rfl, hd.2⟩⟩
      simp [results, Try.results19, go_sem, n0, n1]

theorem read_any (s : ByteArray) (w : World) (hm : s.size ≤ maxLen) : Calls Try.prog 19 #[.string s] w (ReadPost w s) := by
  by_cases h : 150 < s.size
  · exact read_long s w h hm
  · cases hr : Wv.rd s 2 0 [] with
    | error p => exact read_text s p w h hr
    | ok L => exact read_rest s L w h hr

end Go.Proofs.Ytifidfgihpkgcaa

set_option linter.unusedSimpArgs false
set_option linter.unusedVariables false
namespace Go.Proofs.Ytifidfgihpkgcaa
open Go.RowKit Wv

/-- What is read of a machine in a world: where thread 'who' lies, its row. -/
theorem OwnT.row {w : World} {base : Nat} {s : ByteArray} {B : Nat} {tv : Value} {vs : List Value} {L : List (List Nat)}
    (h : OwnT w base 89 102 7 (ccells s) B tv vs L) (who : Nat) (hw : who < L.length) :
    ∃ g cap bo cp, tv = .slice (some ⟨g, 0, none⟩) L.length cap ∧ g < w.heap.size ∧ w.cell? ⟨g, who, none⟩ = some (.slice bo L[who].length cp) ∧ w.ownsRow base 102 7 (.slice bo L[who].length cp) L[who].length (L[who].flatMap (ccells s)) := by
  obtain ⟨ao, cap, rfl⟩ := ownsRow_slice h.out
  obtain ⟨g, bo, cp, rfl, hc, hr⟩ := h.at who hw
  exact ⟨g, cap, bo, cp, rfl, World.block_lt_of_cell? w ⟨g, who, none⟩ hc, hc, hr⟩

theorem cell_old {w : World} {a : Addr} {v : Value} (h : w.cell? a = some v) (A : Obj) : (w.alloc A).cell? a = some v :=
  (World.grownBy_alloc w A none).cell h (by simp)
theorem cell_old3 {w : World} {a : Addr} {v : Value} (h : w.cell? a = some v) (A B C : Obj) : (((w.alloc A).alloc B).alloc C).cell? a = some v := cell_old (cell_old (cell_old h A) B) C
theorem cell_old2 {w : World} {a : Addr} {v : Value} (h : w.cell? a = some v) (A B : Obj) : ((w.alloc A).alloc B).cell? a = some v := cell_old (cell_old h A) B

set_option maxHeartbeats 1000000 in
set_option maxRecDepth 100000 in
theorem nextStep_any (s : ByteArray) (L : List (List Nat)) (σ : Nat → Int) (who base B : Nat) (tv mv : Value) (vs : List Value) (w : World) (hM : OwnT w base 89 102 7 (ccells s) B tv vs L)
    (hmv : mv.oneCell' = true) (hw3 : who < 3) (hw : who < L.length) (hn : σ (who * 7 + 4) = (nx σ who : Int)) (hk : nx σ who < L[who].length) (h8 : L[who].length ≤ 8) :
    Calls Try.prog 53 #[.agg #[tv, mv], .agg (cst σ), .int .i64 (who : Int)] w fun e w' =>
      e = .returned (.agg (ccells s (stp L σ who)).toArray) ∧ w.grownBy w' none := by
  obtain ⟨g, cap, bo, cp, rfl, hg, hc, hr⟩ := hM.row who hw
  obtain ⟨g2, rfl⟩ : ∃ g2, bo = some ⟨g2, 0, none⟩ := by
    rcases hr.2 with ⟨_, h0⟩ | ⟨g2, c2, cur, hvv, _⟩
    · omega
    · simp at hvv; exact ⟨g2, hvv.1⟩
  obtain ⟨d0, d1, d2, d3, d4, d5, d6⟩ := step_cells hr (grownBy_refl w none) (nx σ who) hk
  have hg2 : g2 < w.heap.size := World.block_lt_of_cell? w _ d0
  have g0 := cst_get σ (who * 7 + 4) (by omega)
  rw [hn] at g0
  have HX : Hid (stp L σ who = L[who][nx σ who]) := stp_in hw hk
  clear hM hr hn
  generalize L[who][nx σ who] = x at *
  generalize L[who].length = len at *
  generalize nx σ who = k at *
  obtain ⟨y0, y1, y2, y3, y4, y5, y6, hcc⟩ : ∃ y0 y1 y2 y3 y4 y5 y6, ccells s x = [.int .u8 y0, .int .u8 y1, .int .u8 y2, .int .u8 y3, .int .u8 y4, .int .u8 y5, .int .i64 y6] ∧ pk s x = y0 ∧ cNum s x = y1 ∧ cSec s x = y2 ∧ cCell s x = y3 ∧ cLock s x = y4 ∧ cDig s x = y5 ∧ cPl s x = y6 := ⟨_, _, _, _, _, _, _, rfl, rfl, rfl, rfl, rfl, rfl, rfl, rfl⟩
  obtain ⟨hcc, e0, e1, e2, e3, e4, e5, e6⟩ := hcc
  rw [e0] at d0; rw [e1] at d1; rw [e2] at d2; rw [e3] at d3; rw [e4] at d4; rw [e5] at d5; rw [e6] at d6
  have HCC : Hid _ := hcc
  clear hcc e0 e1 e2 e3 e4 e5 e6
  have hc3 := cell_old3 hc
  have f0 := cell_old3 d0
  have f1 := cell_old3 d1
  have f2 := cell_old3 d2
  have f3 := cell_old3 d3
  have f4 := cell_old3 d4
  have f5 := cell_old3 d5
  have f6 := cell_old3 d6
  clear hc d0 d1 d2 d3 d4 d5 d6
  go_enter Try.func53, Try.ntmps53
  go_wp2_with fail
  go_region
  all_goals
    go_wp2_with fail
    refine bodyPost_ret (v := .agg #[.int .u8 y0, .int .u8 y1, .int .u8 y2, .int .u8 y3, .int .u8 y4, .int .u8 y5, .int .i64 y6]) (by simp [results, Try.results53, go_sem]) rfl ⟨?_, grown_drew (grown3 _ _ _ _)⟩
    rw [HX.out, HCC.out]

set_option maxHeartbeats 1000000 in
set_option maxRecDepth 100000 in
theorem hasEnded_any (s : ByteArray) (L : List (List Nat)) (σ : Nat → Int) (who base B : Nat) (tv mv : Value) (vs : List Value) (w : World) (hM : OwnT w base 89 102 7 (ccells s) B tv vs L)
    (hmv : mv.oneCell' = true) (hw3 : who < 3) (hw : who < L.length) (hn : σ (who * 7 + 4) = (nx σ who : Int)) (hk : nx σ who ≤ 9) (h8 : L[who].length ≤ 8) :
    Calls Try.prog 51 #[.agg #[tv, mv], .agg (cst σ), .int .i64 (who : Int)] w fun e w' =>
      e = .returned (.bool ((nx σ who : Int) == (L[who].length : Int))) ∧ w.grownBy w' none := by
  obtain ⟨g, cap, bo, cp, rfl, hg, hc, hr⟩ := hM.row who hw
  have g0 := cst_get σ (who * 7 + 4) (by omega)
  rw [hn] at g0
  clear hM hr hn
  generalize L[who].length = len at *
  generalize nx σ who = k at *
  have hc3 := cell_old2 hc
  clear hc
  go_enter Try.func51, Try.ntmps51
  go_wp2_with fail
  go_quiet (fail)
  go_wp2_with fail
  go_ret
  exact ⟨rfl, grownBy_trans (grown2 _ _ _) (grownBy_drewN _ _ _)⟩

theorem keep2 {w w1 : World} {A B : Obj} (hg : ((w.alloc A).alloc B).grownBy w1 none) : w1.heap[w.heap.size]? = some A ∧ w1.heap[w.heap.size + 1]? = some B ∧ w.grownBy w1 none := by
  have hs : ((w.alloc A).alloc B).heap.size = w.heap.size + 2 := by simp
  refine ⟨?_, ?_, grownBy_trans (grown2 w A B) hg⟩
  · rw [hg.block _ (by omega) (by simp)]; exact (heap2 w A B).1
  · rw [hg.block _ (by omega) (by simp)]; exact (heap2 w A B).2

theorem good_lock {s : ByteArray} {x : Nat} (h : stepBad s x = none) (hc : pk s x = 108 ∨ pk s x = 117) : cLock s x = stepA s x ∧ ∃ k : Nat, stepA s x = (k : Int) ∧ k < 2 := by
  refine ⟨by unfold cLock; rw [if_pos hc], ?_⟩
  have hf : frm (pk s x) = [107] := by rcases hc with hc | hc <;> rw [hc] <;> rfl
  have hb := stepBad_one hf
  rw [hb] at h
  have hkin : kin 107 (pk s (x + 1)) = true := by
    by_cases hk : kin ((107 : UInt8).toNat : Int) (pk s (x + 1)) = true
    · exact hk
    · rw [if_neg hk] at h; cases h
  have hA : stepA s x = pk s (x + 1) - 109 := by unfold stepA f0; rw [hf]; rfl
  rw [kin_k] at hkin
  simp at hkin
  exact ⟨(stepA s x).toNat, by omega, by omega⟩

set_option maxHeartbeats 1000000 in
set_option maxRecDepth 100000 in
theorem waits_any (s : ByteArray) (L : List (List Nat)) (σ : Nat → Int) (who base B : Nat) (tv mv : Value) (vs : List Value) (w : World) (hM : OwnT w base 89 102 7 (ccells s) B tv vs L)
    (hmv : mv.oneCell' = true) (hw3 : who < 3) (hw : who < L.length) (hn : σ (who * 7 + 4) = (nx σ who : Int)) (hk : nx σ who < L[who].length) (h8 : L[who].length ≤ 8) (hgood : stepBad s (stp L σ who) = none) :
    Calls Try.prog 52 #[.agg #[tv, mv], .agg (cst σ), .int .i64 (who : Int)] w fun e w' =>
      e = .returned (.bool (waitsB s L σ who)) ∧ w.grownBy w' none := by
  have HN : Hid (∀ A C, Calls Try.prog 53 #[.agg #[tv, mv], .agg (cst σ), .int .i64 (who : Int)] ((w.alloc A).alloc C) fun e w' => e = .returned (.agg (ccells s (stp L σ who)).toArray) ∧ ((w.alloc A).alloc C).grownBy w' none) :=
    fun A C => nextStep_any s L σ who base B tv mv vs _ (hM.kept (grown2 w A C) (Classical.em _) (by simp)) hmv hw3 hw hn hk h8
  have hpr := pk_range s (stp L σ who)
  have hW : waitsB s L σ who = (pk s (stp L σ who) == 108 && σ (24 + (stepA s (stp L σ who)).toNat) != 0) := rfl
  rw [hW]
  have hlk := good_lock hgood
  obtain ⟨ao, cap, rfl⟩ := ownsRow_slice hM.out
  clear hM hn hk h8 hW hgood
  generalize stp L σ who = x at *
  obtain ⟨y0, y1, y2, y3, y4, y5, y6, hcc, e0, e4⟩ : ∃ y0 y1 y2 y3 y4 y5 y6, ccells s x = [.int .u8 y0, .int .u8 y1, .int .u8 y2, .int .u8 y3, .int .u8 y4, .int .u8 y5, .int .i64 y6] ∧ pk s x = y0 ∧ cLock s x = y4 := ⟨_, _, _, _, _, _, _, rfl, rfl, rfl⟩
  have HN2 : Hid (∀ A C, Calls Try.prog 53 #[.agg #[.slice ao L.length cap, mv], .agg (cst σ), .int .i64 (who : Int)] ((w.alloc A).alloc C) fun e w' => e = .returned (.agg #[.int .u8 y0, .int .u8 y1, .int .u8 y2, .int .u8 y3, .int .u8 y4, .int .u8 y5, .int .i64 y6]) ∧ ((w.alloc A).alloc C).grownBy w' none) := by
    have := HN.out
    rw [hcc] at this
    exact this
  rw [e0] at hpr hlk ⊢
  rw [e4] at hlk
  clear HN hcc e0 e4
  by_cases hc : y0 = 108
  · subst hc
    obtain ⟨h1, k, h2, h3⟩ := hlk (.inl rfl)
    rw [h2] at h1 ⊢
    subst h1
    rw [show ((k : Int)).toNat = k from by omega]
    have g0 := cst_get σ (24 + k) (by omega)
    clear hlk h2 hpr
    generalize σ (24 + k) = v at *
    go_enter Try.func52, Try.ntmps52
    go_wp2_with (first | (refine wpList_load_row rfl 72 (.tmp 4) rfl (w.heap.size + 1) rfl 72 (cst σ) (0, 0) _ (heap2 _ _ _).2 Try.underlying72 rfl (info_state _) ?_) | (go_at_call 53; go_must (refine Calls.mono (HN2.out _ _) ?_; rintro e w1 ⟨rfl, hg⟩; have hk2 := keep2 hg; have hcs := cell_of_row w1 (w.heap.size + 1) (24 + k) _ _ _ hk2.2.1; rw [g0] at hcs; have hlt1 := lt_of_block hk2.2.1; have HK : Hid _ := hk2; clear hk2 hg)))
    go_ret
    exact ⟨by simp, grownBy_trans HK.out.2.2 (World.grownBy_alloc _ _ _)⟩
  · have hb : (y0 == 108) = false := by simpa using hc
    rw [hb]
    clear hlk hpr hc
    go_enter Try.func52, Try.ntmps52
    go_wp2_with (first | (refine wpList_load_row rfl 72 (.tmp 4) rfl (w.heap.size + 1) rfl 72 (cst σ) (0, 0) _ (heap2 _ _ _).2 Try.underlying72 rfl (info_state _) ?_) | (go_at_call 53; go_must (refine Calls.mono (HN2.out _ _) ?_; rintro e w1 ⟨rfl, hg⟩; have hk2 := keep2 hg; have HK : Hid _ := hk2; clear hk2 hg)))
    go_ret
    exact ⟨rfl, grownBy_trans HK.out.2.2 (World.grownBy_alloc _ _ _)⟩

end Go.Proofs.Ytifidfgihpkgcaa

