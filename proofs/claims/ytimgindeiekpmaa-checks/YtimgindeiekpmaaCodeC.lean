import Derived.Test.YtimgindeiekpmaaStep61
import Derived.Test.YtimgindeiekpmaaStep122
import Derived.Test.YtimgindeiekpmaaStep43
import Derived.Test.YtimgindeiekpmaaStep45
import Derived.Test.YtimgindeiekpmaaStep114
import Derived.Test.YtimgindeiekpmaaStep119
import Derived.Test.YtimgindeiekpmaaStep108
import Derived.Test.YtimgindeiekpmaaStep117
import Derived.Test.YtimgindeiekpmaaStep106
import Derived.Test.YtimgindeiekpmaaStep33
import Derived.Test.YtimgindeiekpmaaStepNone
set_option linter.unusedSimpArgs false
set_option linter.unusedVariables false
namespace Go.Proofs.Ytimgindeiekpmaa
open Go.RowKit Wv

theorem kin_n (c : Int) : kin 110 c = decide (97 ≤ c ∧ c ≤ 100) := rfl
theorem kin_c (c : Int) : kin 99 c = decide (120 ≤ c ∧ c ≤ 122) := rfl
theorem kin_k (c : Int) : kin 107 c = decide (109 ≤ c ∧ c ≤ 110) := rfl
theorem kin_d (c : Int) : kin 100 c = decide (48 ≤ c ∧ c ≤ 57) := rfl
theorem klo_n : klo 110 = 97 := rfl
theorem klo_c : klo 99 = 120 := rfl
theorem klo_k : klo 107 = 109 := rfl
theorem klo_d : klo 100 = 48 := rfl

/-- What the walk of a step comes to. -/
def StepPost (s : ByteArray) (i b : Nat) (w : World) (e : Ending) (w' : World) : Prop :=
  match stepBad s i with
  | some p => e = .panicked (refusal 2 (p : Int)) ∧ w.grownBy w' (some b)
  | none => e = .returned (.agg (ccells s i).toArray) ∧ RdAt w' b s (stepAt s i + 1) ∧ w.grownBy w' (some b)

theorem post_bad {s : ByteArray} {i b p : Nat} {w : World} {f : Nat} {args : Array Value} (hp : stepBad s i = some p)
    (h : Calls Try.prog f args w fun e w' => e = .panicked (refusal 2 (p : Int)) ∧ w.grownBy w' (some b)) : Calls Try.prog f args w (StepPost s i b w) :=
  h.mono fun _ _ h => by unfold StepPost; rw [hp]; exact h
theorem post_ok {s : ByteArray} {i b j : Nat} {w : World} {f : Nat} {args : Array Value} {cs : Array Value} (hp : stepBad s i = none) (hcs : cs = (ccells s i).toArray) (hj : j = stepAt s i + 1)
    (h : Calls Try.prog f args w fun e w' => e = .returned (.agg cs) ∧ RdAt w' b s j ∧ w.grownBy w' (some b)) : Calls Try.prog f args w (StepPost s i b w) :=
  h.mono fun _ _ h => by unfold StepPost; rw [hp]; subst hcs; subst hj; exact h

theorem frm_61 : frm 61 = [110, 100] := rfl
theorem readStep_61 (s : ByteArray) (i b : Nat) (w : World) (hb : RdAt w b s i) (hi : i ≤ s.size) (hs : s.size ≤ 150) (hc : pk s i = 61) : Calls Try.prog 78 #[.pointer (some ⟨b, 0, none⟩)] w (StepPost s i b w) := by
  have hsb : stepBad s i = scan s [110, 100] (i + 1) := by unfold stepBad; rw [hc, frm_61]; rfl
  by_cases g0 : 97 ≤ pk s (i + 1) ∧ pk s (i + 1) ≤ 100
  · by_cases g1 : 48 ≤ pk s (i + 1 + 1) ∧ pk s (i + 1 + 1) ≤ 57
    · refine post_ok (by rw [hsb]; simp [scan, kin_n, kin_c, kin_k, kin_d, g0, g1]) ?_ ?_ (readStep_61_ok s i b w hb hi hs hc g0.1 g0.2 g1.1 g1.2)
      · simp [ccells, cNum, cSec, cCell, cLock, cDig, cPl, stepA, stepB, stepAt, f0, f1, hc, frm_61, klo_n, klo_c, klo_k, klo_d]
        omega
      · simp [stepAt, hc, frm_61]
    · exact post_bad (by rw [hsb]; simp [scan, kin_n, kin_c, kin_k, kin_d, g0, g1]) (readStep_61_bad1 s i b w hb hi hs hc g0.1 g0.2 (by omega))
  · exact post_bad (by rw [hsb]; simp [scan, kin_n, kin_c, kin_k, kin_d, g0]) (readStep_61_bad0 s i b w hb hi hs hc (by omega))
theorem frm_122 : frm 122 = [110, 100] := rfl
theorem readStep_122 (s : ByteArray) (i b : Nat) (w : World) (hb : RdAt w b s i) (hi : i ≤ s.size) (hs : s.size ≤ 150) (hc : pk s i = 122) : Calls Try.prog 78 #[.pointer (some ⟨b, 0, none⟩)] w (StepPost s i b w) := by
  have hsb : stepBad s i = scan s [110, 100] (i + 1) := by unfold stepBad; rw [hc, frm_122]; rfl
  by_cases g0 : 97 ≤ pk s (i + 1) ∧ pk s (i + 1) ≤ 100
  · by_cases g1 : 48 ≤ pk s (i + 1 + 1) ∧ pk s (i + 1 + 1) ≤ 57
    · refine post_ok (by rw [hsb]; simp [scan, kin_n, kin_c, kin_k, kin_d, g0, g1]) ?_ ?_ (readStep_122_ok s i b w hb hi hs hc g0.1 g0.2 g1.1 g1.2)
      · simp [ccells, cNum, cSec, cCell, cLock, cDig, cPl, stepA, stepB, stepAt, f0, f1, hc, frm_122, klo_n, klo_c, klo_k, klo_d]
        omega
      · simp [stepAt, hc, frm_122]
    · exact post_bad (by rw [hsb]; simp [scan, kin_n, kin_c, kin_k, kin_d, g0, g1]) (readStep_122_bad1 s i b w hb hi hs hc g0.1 g0.2 (by omega))
  · exact post_bad (by rw [hsb]; simp [scan, kin_n, kin_c, kin_k, kin_d, g0]) (readStep_122_bad0 s i b w hb hi hs hc (by omega))
theorem frm_43 : frm 43 = [110, 110] := rfl
theorem readStep_43 (s : ByteArray) (i b : Nat) (w : World) (hb : RdAt w b s i) (hi : i ≤ s.size) (hs : s.size ≤ 150) (hc : pk s i = 43) : Calls Try.prog 78 #[.pointer (some ⟨b, 0, none⟩)] w (StepPost s i b w) := by
  have hsb : stepBad s i = scan s [110, 110] (i + 1) := by unfold stepBad; rw [hc, frm_43]; rfl
  by_cases g0 : 97 ≤ pk s (i + 1) ∧ pk s (i + 1) ≤ 100
  · by_cases g1 : 97 ≤ pk s (i + 1 + 1) ∧ pk s (i + 1 + 1) ≤ 100
    · refine post_ok (by rw [hsb]; simp [scan, kin_n, kin_c, kin_k, kin_d, g0, g1]) ?_ ?_ (readStep_43_ok s i b w hb hi hs hc g0.1 g0.2 g1.1 g1.2)
      · simp [ccells, cNum, cSec, cCell, cLock, cDig, cPl, stepA, stepB, stepAt, f0, f1, hc, frm_43, klo_n, klo_c, klo_k, klo_d]
      · simp [stepAt, hc, frm_43]
    · exact post_bad (by rw [hsb]; simp [scan, kin_n, kin_c, kin_k, kin_d, g0, g1]) (readStep_43_bad1 s i b w hb hi hs hc g0.1 g0.2 (by omega))
  · exact post_bad (by rw [hsb]; simp [scan, kin_n, kin_c, kin_k, kin_d, g0]) (readStep_43_bad0 s i b w hb hi hs hc (by omega))
theorem frm_45 : frm 45 = [110, 110] := rfl
theorem readStep_45 (s : ByteArray) (i b : Nat) (w : World) (hb : RdAt w b s i) (hi : i ≤ s.size) (hs : s.size ≤ 150) (hc : pk s i = 45) : Calls Try.prog 78 #[.pointer (some ⟨b, 0, none⟩)] w (StepPost s i b w) := by
  have hsb : stepBad s i = scan s [110, 110] (i + 1) := by unfold stepBad; rw [hc, frm_45]; rfl
  by_cases g0 : 97 ≤ pk s (i + 1) ∧ pk s (i + 1) ≤ 100
  · by_cases g1 : 97 ≤ pk s (i + 1 + 1) ∧ pk s (i + 1 + 1) ≤ 100
    · refine post_ok (by rw [hsb]; simp [scan, kin_n, kin_c, kin_k, kin_d, g0, g1]) ?_ ?_ (readStep_45_ok s i b w hb hi hs hc g0.1 g0.2 g1.1 g1.2)
      · simp [ccells, cNum, cSec, cCell, cLock, cDig, cPl, stepA, stepB, stepAt, f0, f1, hc, frm_45, klo_n, klo_c, klo_k, klo_d]
      · simp [stepAt, hc, frm_45]
    · exact post_bad (by rw [hsb]; simp [scan, kin_n, kin_c, kin_k, kin_d, g0, g1]) (readStep_45_bad1 s i b w hb hi hs hc g0.1 g0.2 (by omega))
  · exact post_bad (by rw [hsb]; simp [scan, kin_n, kin_c, kin_k, kin_d, g0]) (readStep_45_bad0 s i b w hb hi hs hc (by omega))
theorem frm_114 : frm 114 = [110, 99] := rfl
theorem readStep_114 (s : ByteArray) (i b : Nat) (w : World) (hb : RdAt w b s i) (hi : i ≤ s.size) (hs : s.size ≤ 150) (hc : pk s i = 114) : Calls Try.prog 78 #[.pointer (some ⟨b, 0, none⟩)] w (StepPost s i b w) := by
  have hsb : stepBad s i = scan s [110, 99] (i + 1) := by unfold stepBad; rw [hc, frm_114]; rfl
  by_cases g0 : 97 ≤ pk s (i + 1) ∧ pk s (i + 1) ≤ 100
  · by_cases g1 : 120 ≤ pk s (i + 1 + 1) ∧ pk s (i + 1 + 1) ≤ 122
    · refine post_ok (by rw [hsb]; simp [scan, kin_n, kin_c, kin_k, kin_d, g0, g1]) ?_ ?_ (readStep_114_ok s i b w hb hi hs hc g0.1 g0.2 g1.1 g1.2)
      · simp [ccells, cNum, cSec, cCell, cLock, cDig, cPl, stepA, stepB, stepAt, f0, f1, hc, frm_114, klo_n, klo_c, klo_k, klo_d]
      · simp [stepAt, hc, frm_114]
    · exact post_bad (by rw [hsb]; simp [scan, kin_n, kin_c, kin_k, kin_d, g0, g1]) (readStep_114_bad1 s i b w hb hi hs hc g0.1 g0.2 (by omega))
  · exact post_bad (by rw [hsb]; simp [scan, kin_n, kin_c, kin_k, kin_d, g0]) (readStep_114_bad0 s i b w hb hi hs hc (by omega))
theorem frm_119 : frm 119 = [99, 110] := rfl
theorem readStep_119 (s : ByteArray) (i b : Nat) (w : World) (hb : RdAt w b s i) (hi : i ≤ s.size) (hs : s.size ≤ 150) (hc : pk s i = 119) : Calls Try.prog 78 #[.pointer (some ⟨b, 0, none⟩)] w (StepPost s i b w) := by
  have hsb : stepBad s i = scan s [99, 110] (i + 1) := by unfold stepBad; rw [hc, frm_119]; rfl
  by_cases g0 : 120 ≤ pk s (i + 1) ∧ pk s (i + 1) ≤ 122
  · by_cases g1 : 97 ≤ pk s (i + 1 + 1) ∧ pk s (i + 1 + 1) ≤ 100
    · refine post_ok (by rw [hsb]; simp [scan, kin_n, kin_c, kin_k, kin_d, g0, g1]) ?_ ?_ (readStep_119_ok s i b w hb hi hs hc g0.1 g0.2 g1.1 g1.2)
      · simp [ccells, cNum, cSec, cCell, cLock, cDig, cPl, stepA, stepB, stepAt, f0, f1, hc, frm_119, klo_n, klo_c, klo_k, klo_d]
      · simp [stepAt, hc, frm_119]
    · exact post_bad (by rw [hsb]; simp [scan, kin_n, kin_c, kin_k, kin_d, g0, g1]) (readStep_119_bad1 s i b w hb hi hs hc g0.1 g0.2 (by omega))
  · exact post_bad (by rw [hsb]; simp [scan, kin_n, kin_c, kin_k, kin_d, g0]) (readStep_119_bad0 s i b w hb hi hs hc (by omega))
theorem frm_108 : frm 108 = [107] := rfl
theorem readStep_108 (s : ByteArray) (i b : Nat) (w : World) (hb : RdAt w b s i) (hi : i ≤ s.size) (hs : s.size ≤ 150) (hc : pk s i = 108) : Calls Try.prog 78 #[.pointer (some ⟨b, 0, none⟩)] w (StepPost s i b w) := by
  have hsb : stepBad s i = scan s [107] (i + 1) := by unfold stepBad; rw [hc, frm_108]; rfl
  by_cases g0 : 109 ≤ pk s (i + 1) ∧ pk s (i + 1) ≤ 110
  · refine post_ok (by rw [hsb]; simp [scan, kin_n, kin_c, kin_k, kin_d, g0]) ?_ ?_ (readStep_108_ok s i b w hb hi hs hc g0.1 g0.2)
    · simp [ccells, cNum, cSec, cCell, cLock, cDig, cPl, stepA, stepB, stepAt, f0, f1, hc, frm_108, klo_n, klo_c, klo_k, klo_d]
    · simp [stepAt, hc, frm_108]
  · exact post_bad (by rw [hsb]; simp [scan, kin_n, kin_c, kin_k, kin_d, g0]) (readStep_108_bad0 s i b w hb hi hs hc (by omega))
theorem frm_117 : frm 117 = [107] := rfl
theorem readStep_117 (s : ByteArray) (i b : Nat) (w : World) (hb : RdAt w b s i) (hi : i ≤ s.size) (hs : s.size ≤ 150) (hc : pk s i = 117) : Calls Try.prog 78 #[.pointer (some ⟨b, 0, none⟩)] w (StepPost s i b w) := by
  have hsb : stepBad s i = scan s [107] (i + 1) := by unfold stepBad; rw [hc, frm_117]; rfl
  by_cases g0 : 109 ≤ pk s (i + 1) ∧ pk s (i + 1) ≤ 110
  · refine post_ok (by rw [hsb]; simp [scan, kin_n, kin_c, kin_k, kin_d, g0]) ?_ ?_ (readStep_117_ok s i b w hb hi hs hc g0.1 g0.2)
    · simp [ccells, cNum, cSec, cCell, cLock, cDig, cPl, stepA, stepB, stepAt, f0, f1, hc, frm_117, klo_n, klo_c, klo_k, klo_d]
    · simp [stepAt, hc, frm_117]
  · exact post_bad (by rw [hsb]; simp [scan, kin_n, kin_c, kin_k, kin_d, g0]) (readStep_117_bad0 s i b w hb hi hs hc (by omega))
theorem frm_106 : frm 106 = [100] := rfl
theorem readStep_106 (s : ByteArray) (i b : Nat) (w : World) (hb : RdAt w b s i) (hi : i ≤ s.size) (hs : s.size ≤ 150) (hc : pk s i = 106) : Calls Try.prog 78 #[.pointer (some ⟨b, 0, none⟩)] w (StepPost s i b w) := by
  have hsb : stepBad s i = scan s [100] (i + 1) := by unfold stepBad; rw [hc, frm_106]; rfl
  by_cases g0 : 48 ≤ pk s (i + 1) ∧ pk s (i + 1) ≤ 57
  · refine post_ok (by rw [hsb]; simp [scan, kin_n, kin_c, kin_k, kin_d, g0]) ?_ ?_ (readStep_106_ok s i b w hb hi hs hc g0.1 g0.2)
    · simp [ccells, cNum, cSec, cCell, cLock, cDig, cPl, stepA, stepB, stepAt, f0, f1, hc, frm_106, klo_n, klo_c, klo_k, klo_d]
    · simp [stepAt, hc, frm_106]
  · exact post_bad (by rw [hsb]; simp [scan, kin_n, kin_c, kin_k, kin_d, g0]) (readStep_106_bad0 s i b w hb hi hs hc (by omega))
theorem frm_33 : frm 33 = [110] := rfl
theorem readStep_33 (s : ByteArray) (i b : Nat) (w : World) (hb : RdAt w b s i) (hi : i ≤ s.size) (hs : s.size ≤ 150) (hc : pk s i = 33) : Calls Try.prog 78 #[.pointer (some ⟨b, 0, none⟩)] w (StepPost s i b w) := by
  have hsb : stepBad s i = scan s [110] (i + 1) := by unfold stepBad; rw [hc, frm_33]; rfl
  by_cases g0 : 97 ≤ pk s (i + 1) ∧ pk s (i + 1) ≤ 100
  · refine post_ok (by rw [hsb]; simp [scan, kin_n, kin_c, kin_k, kin_d, g0]) ?_ ?_ (readStep_33_ok s i b w hb hi hs hc g0.1 g0.2)
    · simp [ccells, cNum, cSec, cCell, cLock, cDig, cPl, stepA, stepB, stepAt, f0, f1, hc, frm_33, klo_n, klo_c, klo_k, klo_d]
    · simp [stepAt, hc, frm_33]
  · exact post_bad (by rw [hsb]; simp [scan, kin_n, kin_c, kin_k, kin_d, g0]) (readStep_33_bad0 s i b w hb hi hs hc (by omega))

theorem readStep_any (s : ByteArray) (i b : Nat) (w : World) (hb : RdAt w b s i) (hi : i ≤ s.size) (hs : s.size ≤ 150) : Calls Try.prog 78 #[.pointer (some ⟨b, 0, none⟩)] w (StepPost s i b w) := by
  by_cases h61 : pk s i = 61
  · exact readStep_61 s i b w hb hi hs h61
  by_cases h122 : pk s i = 122
  · exact readStep_122 s i b w hb hi hs h122
  by_cases h43 : pk s i = 43
  · exact readStep_43 s i b w hb hi hs h43
  by_cases h45 : pk s i = 45
  · exact readStep_45 s i b w hb hi hs h45
  by_cases h114 : pk s i = 114
  · exact readStep_114 s i b w hb hi hs h114
  by_cases h119 : pk s i = 119
  · exact readStep_119 s i b w hb hi hs h119
  by_cases h108 : pk s i = 108
  · exact readStep_108 s i b w hb hi hs h108
  by_cases h117 : pk s i = 117
  · exact readStep_117 s i b w hb hi hs h117
  by_cases h106 : pk s i = 106
  · exact readStep_106 s i b w hb hi hs h106
  by_cases h33 : pk s i = 33
  · exact readStep_33 s i b w hb hi hs h33
  refine post_bad ?_ (readStep_none s i b w hb hi hs ⟨h61, h122, h43, h45, h114, h119, h108, h117, h106, h33⟩)
  simp [stepBad, frm, h61, h122, h43, h45, h114, h119, h108, h117, h106, h33]

end Go.Proofs.Ytimgindeiekpmaa
