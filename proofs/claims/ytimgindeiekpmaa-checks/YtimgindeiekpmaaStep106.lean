import Derived.Test.YtimgindeiekpmaaCodeB
set_option linter.unusedSimpArgs false
set_option linter.unusedVariables false
namespace Go.Proofs.Ytimgindeiekpmaa
open Go.RowKit Wv

set_option maxHeartbeats 1000000 in
theorem readStep_106_ok (s : ByteArray) (i b : Nat) (w : World) (hb : RdAt w b s i) (hi : i ≤ s.size) (hs : s.size ≤ 150) (hc : pk s i = 106) (a0 : 48 ≤ pk s (i + 1)) (b0 : pk s (i + 1) ≤ 57) :
    Calls Try.prog 78 #[.pointer (some ⟨b, 0, none⟩)] w fun e w' =>
      e = .returned (.agg #[.int .u8 106, .int .u8 0, .int .u8 0, .int .u8 0, .int .u8 0, .int .u8 (pk s (i + 1) - 48), .int .i64 ((i : Int) + 1)]) ∧ RdAt w' b s (i + 1 + 1) ∧ w.grownBy w' (some b) := by
  have l0 := pk_some (s := s) (i := i) (by omega)
  have l1 := pk_some (s := s) (i := i + 1) (by omega)
  have hlt := hb.lt
  have c1 := hb.c1
  have fz := hb.f1
  have HB : Hid _ := hb
  clear hb
  have hp := fun o => peek_any s i b (w.alloc o) (HB.out.alloc o) hi hs
  simp only [hc] at hp
  have HP : Hid _ := hp
  clear hp hc
  go_enter Try.func78, Try.ntmps78
  go_wp2
  refine wp_scope_once ?_
  go_wp2_with (go_at_call 77; go_must (refine Calls.mono (HP.out _) ?_; rintro e w1 ⟨rfl, n, rfl⟩))
  go_step3
  refine ⟨_, rfl, ?_⟩
  go_wp2_with fail
  refine Calls.mono (sDigit_yes (St.start HB.out n _ (by omega) _) (by omega) hs a0 b0) ?_
  rintro e w2 ⟨rfl, h2⟩
  obtain ⟨q0, q1, q2, q3, q4, q5, q6, qf⟩ := blk7 h2.st
  have r1 := h2.rd.c1
  obtain ⟨n0, n1, n2, n3, n4, n5, n6, nf⟩ := blk7 h2.res
  have H2 : Hid _ := h2
  clear h2 HP c1 fz
  go_wp2_with fail
  rw [Exit.noGoto_ret]
  have hd := H2.out.done 5 (.int .u8 (pk s (i + 1) - 48)) (.int .u8 106) (.int .u8 0) (.int .u8 0) (.int .u8 0) (.int .u8 0) (.int .u8 (pk s (i + 1) - 48)) (.int .i64 ((i : Int) + 1))
  refine bodyPost_ret (v := .agg #[.int .u8 106, .int .u8 0, .int .u8 0, .int .u8 0, .int .u8 0, .int .u8 (pk s (i + 1) - 48), .int .i64 ((i : Int) + 1)]) ?_ rfl ⟨rfl, hd.1, hd.2⟩
  simp [results, Try.results78, go_sem, n0, n1, n2, n3, n4, n5, n6]

set_option maxHeartbeats 1000000 in
theorem readStep_106_bad0 (s : ByteArray) (i b : Nat) (w : World) (hb : RdAt w b s i) (hi : i ≤ s.size) (hs : s.size ≤ 150) (hc : pk s i = 106) (hno : pk s (i + 1) < 48 ∨ 57 < pk s (i + 1)) :
    Calls Try.prog 78 #[.pointer (some ⟨b, 0, none⟩)] w fun e w' =>
      e = .panicked (refusal 2 ((i + 1 : Nat) : Int)) ∧ w.grownBy w' (some b) := by
  have l0 := pk_some (s := s) (i := i) (by omega)
  have hlt := hb.lt
  have c1 := hb.c1
  have fz := hb.f1
  have HB : Hid _ := hb
  clear hb
  have hp := fun o => peek_any s i b (w.alloc o) (HB.out.alloc o) hi hs
  simp only [hc] at hp
  have HP : Hid _ := hp
  clear hp hc
  go_enter Try.func78, Try.ntmps78
  go_wp2
  refine wp_scope_once ?_
  go_wp2_with (go_at_call 77; go_must (refine Calls.mono (HP.out _) ?_; rintro e w1 ⟨rfl, n, rfl⟩))
  go_step3
  refine ⟨_, rfl, ?_⟩
  go_wp2_with fail
  refine Calls.mono (sDigit_no (St.start HB.out n _ (by omega) _) (by omega) hs hno) ?_
  rintro e w2 ⟨rfl, hg⟩
  exact ⟨rfl, rfl, hg⟩

end Go.Proofs.Ytimgindeiekpmaa
