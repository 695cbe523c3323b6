import Derived.Test.YtimgindeiekpmaaCodeB
set_option linter.unusedSimpArgs false
set_option linter.unusedVariables false
namespace Go.Proofs.Ytimgindeiekpmaa
open Go.RowKit Wv

set_option maxHeartbeats 1000000 in
theorem readStep_none (s : ByteArray) (i b : Nat) (w : World) (hb : RdAt w b s i) (hi : i ≤ s.size) (hs : s.size ≤ 150) (hc : pk s i ≠ 61 ∧ pk s i ≠ 122 ∧ pk s i ≠ 43 ∧ pk s i ≠ 45 ∧ pk s i ≠ 114 ∧ pk s i ≠ 119 ∧ pk s i ≠ 108 ∧ pk s i ≠ 117 ∧ pk s i ≠ 106 ∧ pk s i ≠ 33) :
    Calls Try.prog 78 #[.pointer (some ⟨b, 0, none⟩)] w fun e w' => e = .panicked (refusal 2 (i : Int)) ∧ w.grownBy w' (some b) := by
  obtain ⟨x61, x122, x43, x45, x114, x119, x108, x117, x106, x33⟩ := hc
  have y61 : (pk s i == 61) = false := by simpa using x61
  have y122 : (pk s i == 122) = false := by simpa using x122
  have y43 : (pk s i == 43) = false := by simpa using x43
  have y45 : (pk s i == 45) = false := by simpa using x45
  have y114 : (pk s i == 114) = false := by simpa using x114
  have y119 : (pk s i == 119) = false := by simpa using x119
  have y108 : (pk s i == 108) = false := by simpa using x108
  have y117 : (pk s i == 117) = false := by simpa using x117
  have y106 : (pk s i == 106) = false := by simpa using x106
  have y33 : (pk s i == 33) = false := by simpa using x33
  clear x61 x122 x43 x45 x114 x119 x108 x117 x106 x33
  have hr := pk_range s i
  have hlt := hb.lt
  have c1 := hb.c1
  have fz := hb.f1
  have HB : Hid _ := hb
  clear hb
  have hp := fun o => peek_any s i b (w.alloc o) (HB.out.alloc o) hi hs
  have HP : Hid _ := hp
  clear hp
  generalize pk s i = p at *
  go_enter Try.func78, Try.ntmps78
  go_wp2
  refine wp_scope_once ?_
  go_wp2_with (go_at_call 77; go_must (refine Calls.mono (HP.out _) ?_; rintro e w1 ⟨rfl, n, rfl⟩))
  exact ⟨rfl, rfl, (St.start HB.out n _ (by omega) _).grow⟩

end Go.Proofs.Ytimgindeiekpmaa
