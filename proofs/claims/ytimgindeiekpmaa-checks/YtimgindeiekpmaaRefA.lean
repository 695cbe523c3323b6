import Derived.Test.YtimgindeiekpmaaRows
import Derived.Test.YtimgindeiekpmaaSpec
import Derived.WalkKit
import Derived.WalkSpells
import Derived.WalkLawsBesides
import Derived.BigQuiet
set_option linter.unusedSimpArgs false
set_option linter.unusedVariables false
namespace Go.Proofs.Ytimgindeiekpmaa
open Go.RowKit Wv

theorem letv_yes {f c lo hi : Int} (h1 : klo f = lo) (h2 : khi f = hi) (a : lo ≤ c) (b : c ≤ hi) : letv f c = c - lo := by
  subst h1; subst h2; simp [letv, kin, a, b]
theorem letv_lo {f c lo : Int} (h1 : klo f = lo) (a : ¬ lo ≤ c) : letv f c = -1 := by
  subst h1; simp [letv, kin, a]
theorem letv_hi {f c hi : Int} (h2 : khi f = hi) (b : ¬ c ≤ hi) : letv f c = -1 := by
  subst h2; simp [letv, kin, b]

set_option maxHeartbeats 1000000 in
theorem letter_any (f c : Int) (w : World) (h0 : 0 ≤ f) (h1 : f < 256) (h2 : 0 ≤ c) (h3 : c < 256) :
    Calls Try.prog 95 #[.int .u8 f, .int .u8 c] w fun e w' => e = .returned (.int .i64 (letv f c)) ∧ w' = w := by
  by_cases e : f = 110
  · subst e
    by_cases hlo : 97 ≤ c
    · by_cases hhi : c ≤ 100
      · rw [letv_yes (f := 110) rfl rfl hlo hhi]
        go_enter Try.func95, Try.ntmps95
        go_wp2
        go_ret
        exact ⟨rfl, rfl⟩
      · rw [letv_hi (f := 110) rfl hhi]
        go_enter Try.func95, Try.ntmps95
        go_wp2
        go_ret
        exact ⟨rfl, rfl⟩
    · rw [letv_lo (f := 110) rfl hlo]
      go_enter Try.func95, Try.ntmps95
      go_wp2
      go_ret
      exact ⟨rfl, rfl⟩
  have g110 : (f == 110) = false := by simpa using e
  have k110 := e
  clear e
  by_cases e : f = 99
  · subst e
    by_cases hlo : 120 ≤ c
    · by_cases hhi : c ≤ 122
      · rw [letv_yes (f := 99) rfl rfl hlo hhi]
        go_enter Try.func95, Try.ntmps95
        go_wp2
        go_ret
        exact ⟨rfl, rfl⟩
      · rw [letv_hi (f := 99) rfl hhi]
        go_enter Try.func95, Try.ntmps95
        go_wp2
        go_ret
        exact ⟨rfl, rfl⟩
    · rw [letv_lo (f := 99) rfl hlo]
      go_enter Try.func95, Try.ntmps95
      go_wp2
      go_ret
      exact ⟨rfl, rfl⟩
  have g99 : (f == 99) = false := by simpa using e
  have k99 := e
  clear e
  by_cases e : f = 107
  · subst e
    by_cases hlo : 109 ≤ c
    · by_cases hhi : c ≤ 110
      · rw [letv_yes (f := 107) rfl rfl hlo hhi]
        go_enter Try.func95, Try.ntmps95
        go_wp2
        go_ret
        exact ⟨rfl, rfl⟩
      · rw [letv_hi (f := 107) rfl hhi]
        go_enter Try.func95, Try.ntmps95
        go_wp2
        go_ret
        exact ⟨rfl, rfl⟩
    · rw [letv_lo (f := 107) rfl hlo]
      go_enter Try.func95, Try.ntmps95
      go_wp2
      go_ret
      exact ⟨rfl, rfl⟩
  have g107 : (f == 107) = false := by simpa using e
  have k107 := e
  clear e
  have k1 : klo f = 48 := by simp [klo, k110, k99, k107]
  have k2 : khi f = 57 := by simp [khi, k110, k99, k107]
  clear k110 k99 k107
  by_cases hlo : 48 ≤ c
  · by_cases hhi : c ≤ 57
    · rw [letv_yes k1 k2 hlo hhi]
      clear k1 k2
      go_enter Try.func95, Try.ntmps95
      go_wp2
      go_ret
      exact ⟨rfl, rfl⟩
    · rw [letv_hi k2 hhi]
      clear k1 k2
      go_enter Try.func95, Try.ntmps95
      go_wp2
      go_ret
      exact ⟨rfl, rfl⟩
  · rw [letv_lo k1 hlo]
    clear k1 k2
    go_enter Try.func95, Try.ntmps95
    go_wp2
    go_ret
    exact ⟨rfl, rfl⟩

set_option maxHeartbeats 400000 in
theorem forms_any (c : Int) (w : World) :
    Calls Try.prog 94 #[.int .u8 c] w fun e w' => e = .returned (.string ⟨(frm c).toArray⟩) ∧ w' = w := by
  go_enter Try.func94, Try.ntmps94
  go_wp2
  all_goals
    go_ret
    simp_all [frm]

set_option maxHeartbeats 400000 in
theorem num_any (n : Int) (w : World) :
    Calls Try.prog 16 #[.int .i64 n] w fun e w' => e = .returned (.int .i64 n) ∧ w' = w := by
  go_enter Try.func16, Try.ntmps16
  go_wp2
  go_ret
  exact ⟨rfl, rfl⟩

end Go.Proofs.Ytimgindeiekpmaa
