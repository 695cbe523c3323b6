import Derived.Test.YtimgindeiekpmaaRefE
import Derived.Test.YtimgindeiekpmaaCodeH
set_option linter.unusedSimpArgs false
set_option linter.unusedVariables false
namespace Go.Proofs.Ytimgindeiekpmaa
open Go.RowKit Wv

set_option maxHeartbeats 1000000 in
theorem checks_walk (s : ByteArray) (w : World) (hm : s.size ≤ maxLen) :
    Calls Try.prog 3 #[.string s] w fun e w' => e = .returned (.bool true) ∧ w.grownBy w' none := by
  have HA : Hid _ := fun W => check_any s W hm
  have hB := fun W => rcheck_any s W hm
  unfold RChkPost at hB
  have HB : Hid _ := hB
  clear hB
  generalize (chk s).1 = c at *
  generalize (chk s).2 = d at *
  go_enter Try.func3, Try.ntmps3
  go_wp2_with (first | (go_at_call 14; go_must (refine Calls.mono (HA.out _) ?_; rintro e w1 ⟨rfl, hg1⟩)) | (go_at_call 15; go_must (refine Calls.mono (HB.out _) ?_; rintro e w2 ⟨rfl, hg2⟩)) | (go_at_call 16; go_must (refine Calls.mono (num_any _ _) ?_; rintro e w3 ⟨rfl, rfl⟩)))
  go_ret
  exact ⟨rfl, grownBy_trans hg1 hg2⟩

end Go.Proofs.Ytimgindeiekpmaa
