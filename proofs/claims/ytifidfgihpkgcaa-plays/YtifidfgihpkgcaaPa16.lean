import Derived.Test.YtifidfgihpkgcaaPa15
set_option linter.unusedSimpArgs false
set_option linter.unusedVariables false
namespace Go.Proofs.Ytifidfgihpkgcaa
open Go.RowKit Wv

set_option maxHeartbeats 1000000 in
theorem readStep_122_ok (s : ByteArray) (i b : Nat) (w : World) (hb : RdAt w b s i) (hi : i ≤ s.size) (hs : s.size ≤ 150) (hc : pk s i = 122) (a0 : 97 ≤ pk s (i + 1)) (b0 : pk s (i + 1) ≤ 100) (a1 : 48 ≤ pk s (i + 1 + 1)) (b1 : pk s (i + 1 + 1) ≤ 57) :
    Calls Try.prog 40 #[.pointer (some ⟨b, 0, none⟩)] w fun e w' =>
      e = .returned (.agg #[.int .u8 122, .int .u8 (pk s (i + 1) - 97), .int .u8 0, .int .u8 0, .int .u8 0, .int .u8 (pk s (i + 1 + 1) - 48), .int .i64 ((i : Int) + 1 + 1)]) ∧ RdAt w' b s (i + 1 + 1 + 1) ∧ w.grownBy w' (some b) := by
  have l0 := pk_some (s := s) (i := i) (by omega)
  have l1 := pk_some (s := s) (i := i + 1) (by omega)
  have l2 := pk_some (s := s) (i := i + 1 + 1) (by omega)
  have hlt := hb.lt
  have c1 := hb.c1
  have fz := hb.f1
  have HB : Hid _ := hb
  clear hb
  have hp := fun o => peek_any s i b (w.alloc o) (HB.out.alloc o) hi hs
  simp only [hc] at hp
  have HP : Hid _ := hp
  clear hp hc
  go_enter Try.func40, Try.ntmps40
  go_wp2
  refine wp_scope_once ?_
  go_wp2_with (go_at_call 39; go_must (refine Calls.mono (HP.out _) ?_; rintro e w1 ⟨rfl, n, rfl⟩))
  go_step3
  refine ⟨_, rfl, ?_⟩
  go_wp2_with fail
  refine Calls.mono (sNumber_yes (St.start HB.out n _ (by omega) _) (by omega) hs a0 b0) ?_
  rintro e w2 ⟨rfl, h2⟩
  obtain ⟨q0, q1, q2, q3, q4, q5, q6, qf⟩ := blk7 h2.st
  have r1 := h2.rd.c1
  have H2 : Hid _ := h2
  clear h2 HP c1 fz
  go_wp2_with fail
  go_step3
  go_wp2_with fail
  refine Calls.mono (sDigit_yes ((H2.out.store 1 _ rfl).store 6 _ rfl) (by omega) hs a1 b1) ?_
  rintro e w3 ⟨rfl, h3⟩
  clear q0 q1 q2 q3 q4 q5 q6 qf r1
  obtain ⟨q0, q1, q2, q3, q4, q5, q6, qf⟩ := blk7 h3.st
  have r1 := h3.rd.c1
  obtain ⟨n0, n1, n2, n3, n4, n5, n6, nf⟩ := blk7 h3.res
  have H3 : Hid _ := h3
  clear h3 H2
  go_wp2_with fail
  rw [Exit.noGoto_ret]
  have hd := H3.out.done 5 (.int .u8 (pk s (i + 1 + 1) - 48)) (.int .u8 122) (.int .u8 (pk s (i + 1) - 97)) (.int .u8 0) (.int .u8 0) (.int .u8 0) (.int .u8 (pk s (i + 1 + 1) - 48)) (.int .i64 ((i : Int) + 1 + 1))
  refine bodyPost_ret (v := .agg #[.int .u8 122, .int .u8 (pk s (i + 1) - 97), .int .u8 0, .int .u8 0, .int .u8 0, .int .u8 (pk s (i + 1 + 1) - 48), .int .i64 ((i : Int) + 1 + 1)]) ?_ rfl ⟨rfl, hd.1, hd.2⟩
  simp [results, Try.results40, go_sem, n0, n1, n2, n3, n4, n5, n6]

set_option maxHeartbeats 1000000 in
theorem readStep_122_bad0 (s : ByteArray) (i b : Nat) (w : World) (hb : RdAt w b s i) (hi : i ≤ s.size) (hs : s.size ≤ 150) (hc : pk s i = 122) (hno : pk s (i + 1) < 97 ∨ 100 < pk s (i + 1)) :
    Calls Try.prog 40 #[.pointer (some ⟨b, 0, none⟩)] w fun e w' =>
      e = .panicked (refusal 2 ((i + 1 : Nat) : Int)) ∧ w.grownBy w' (some b) := by
  have l0 := pk_some (s := s) (i := i) (by omega)
  have hlt := hb.lt
  have c1 := hb.c1
  have fz := hb.f1
  have HB : Hid _ := hb
  clear hb
  have hp := fun o => peek_any s i b (w.alloc o) (HB.out.alloc o) hi hs
  simp only [hc] at hp
  have HP : Hid _ := hp
  clear hp hc
  go_enter Try.func40, Try.ntmps40
  go_wp2
  refine wp_scope_once ?_
  go_wp2_with (go_at_call 39; go_must (refine Calls.mono (HP.out _) ?_; rintro e w1 ⟨rfl, n, rfl⟩))
  go_step3
  refine ⟨_, rfl, ?_⟩
  go_wp2_with fail
  refine Calls.mono (sNumber_no (St.start HB.out n _ (by omega) _) (by omega) hs hno) ?_
  rintro e w2 ⟨rfl, hg⟩
  exact ⟨rfl, rfl, hg⟩

set_option maxHeartbeats 1000000 in
theorem readStep_122_bad1 (s : ByteArray) (i b : Nat) (w : World) (hb : RdAt w b s i) (hi : i ≤ s.size) (hs : s.size ≤ 150) (hc : pk s i = 122) (a0 : 97 ≤ pk s (i + 1)) (b0 : pk s (i + 1) ≤ 100) (hno : pk s (i + 1 + 1) < 48 ∨ 57 < pk s (i + 1 + 1)) :
    Calls Try.prog 40 #[.pointer (some ⟨b, 0, none⟩)] w fun e w' =>
      e = .panicked (refusal 2 ((i + 1 + 1 : Nat) : Int)) ∧ w.grownBy w' (some b) := by
  have l0 := pk_some (s := s) (i := i) (by omega)
  have l1 := pk_some (s := s) (i := i + 1) (by omega)
  have hlt := hb.lt
  have c1 := hb.c1
  have fz := hb.f1
  have HB : Hid _ := hb
  clear hb
  have hp := fun o => peek_any s i b (w.alloc o) (HB.out.alloc o) hi hs
  simp only [hc] at hp
  have HP : Hid _ := hp
  clear hp hc
  go_enter Try.func40, Try.ntmps40
  go_wp2
  refine wp_scope_once ?_
  go_wp2_with (go_at_call 39; go_must (refine Calls.mono (HP.out _) ?_; rintro e w1 ⟨rfl, n, rfl⟩))
  go_step3
  refine ⟨_, rfl, ?_⟩
  go_wp2_with fail
  refine Calls.mono (sNumber_yes (St.start HB.out n _ (by omega) _) (by omega) hs a0 b0) ?_
  rintro e w2 ⟨rfl, h2⟩
  obtain ⟨q0, q1, q2, q3, q4, q5, q6, qf⟩ := blk7 h2.st
  have r1 := h2.rd.c1
  have H2 : Hid _ := h2
  clear h2 HP c1 fz
  go_wp2_with fail
  go_step3
  go_wp2_with fail
  refine Calls.mono (sDigit_no ((H2.out.store 1 _ rfl).store 6 _ rfl) (by omega) hs hno) ?_
  rintro e w3 ⟨rfl, hg⟩
  exact ⟨rfl, rfl, hg⟩

end Go.Proofs.Ytifidfgihpkgcaa

set_option linter.unusedSimpArgs false
set_option linter.unusedVariables false
namespace Go.Proofs.Ytifidfgihpkgcaa
open Go.RowKit Wv

set_option maxHeartbeats 1000000 in
theorem readStep_43_ok (s : ByteArray) (i b : Nat) (w : World) (hb : RdAt w b s i) (hi : i ≤ s.size) (hs : s.size ≤ 150) (hc : pk s i = 43) (a0 : 97 ≤ pk s (i + 1)) (b0 : pk s (i + 1) ≤ 100) (a1 : 97 ≤ pk s (i + 1 + 1)) (b1 : pk s (i + 1 + 1) ≤ 100) :
    Calls Try.prog 40 #[.pointer (some ⟨b, 0, none⟩)] w fun e w' =>
      e = .returned (.agg #[.int .u8 43, .int .u8 (pk s (i + 1) - 97), .int .u8 (pk s (i + 1 + 1) - 97), .int .u8 0, .int .u8 0, .int .u8 0, .int .i64 0]) ∧ RdAt w' b s (i + 1 + 1 + 1) ∧ w.grownBy w' (some b) := by
  have l0 := pk_some (s := s) (i := i) (by omega)
  have l1 := pk_some (s := s) (i := i + 1) (by omega)
  have l2 := pk_some (s := s) (i := i + 1 + 1) (by omega)
  have hlt := hb.lt
  have c1 := hb.c1
  have fz := hb.f1
  have HB : Hid _ := hb
  clear hb
  have hp := fun o => peek_any s i b (w.alloc o) (HB.out.alloc o) hi hs
  simp only [hc] at hp
  have HP : Hid _ := hp
  clear hp hc
  go_enter Try.func40, Try.ntmps40
  go_wp2
  refine wp_scope_once ?_
  go_wp2_with (go_at_call 39; go_must (refine Calls.mono (HP.out _) ?_; rintro e w1 ⟨rfl, n, rfl⟩))
  go_step3
  refine ⟨_, rfl, ?_⟩
  go_wp2_with fail
  refine Calls.mono (sNumber_yes (St.start HB.out n _ (by omega) _) (by omega) hs a0 b0) ?_
  rintro e w2 ⟨rfl, h2⟩
  obtain ⟨q0, q1, q2, q3, q4, q5, q6, qf⟩ := blk7 h2.st
  have r1 := h2.rd.c1
  have H2 : Hid _ := h2
  clear h2 HP c1 fz
  go_wp2_with fail
  refine Calls.mono (sNumber_yes (H2.out.store 1 _ rfl) (by omega) hs a1 b1) ?_
  rintro e w3 ⟨rfl, h3⟩
  clear q0 q1 q2 q3 q4 q5 q6 qf r1
  obtain ⟨q0, q1, q2, q3, q4, q5, q6, qf⟩ := blk7 h3.st
  have r1 := h3.rd.c1
  obtain ⟨n0, n1, n2, n3, n4, n5, n6, nf⟩ := blk7 h3.res
  have H3 : Hid _ := h3
  clear h3 H2
  go_wp2_with fail
  rw [Exit.noGoto_ret]
  have hd := H3.out.done 2 (.int .u8 (pk s (i + 1 + 1) - 97)) (.int .u8 43) (.int .u8 (pk s (i + 1) - 97)) (.int .u8 (pk s (i + 1 + 1) - 97)) (.int .u8 0) (.int .u8 0) (.int .u8 0) (.int .i64 0)
  refine bodyPost_ret (v := .agg #[.int .u8 43, .int .u8 (pk s (i + 1) - 97), .int .u8 (pk s (i + 1 + 1) - 97), .int .u8 0, .int .u8 0, .int .u8 0, .int .i64 0]) ?_ rfl ⟨rfl, hd.1, hd.2⟩
  simp [results, Try.results40, go_sem, n0, n1, n2, n3, n4, n5, n6]

set_option maxHeartbeats 1000000 in
theorem readStep_43_bad0 (s : ByteArray) (i b : Nat) (w : World) (hb : RdAt w b s i) (hi : i ≤ s.size) (hs : s.size ≤ 150) (hc : pk s i = 43) (hno : pk s (i + 1) < 97 ∨ 100 < pk s (i + 1)) :
    Calls Try.prog 40 #[.pointer (some ⟨b, 0, none⟩)] w fun e w' =>
      e = .panicked (refusal 2 ((i + 1 : Nat) : Int)) ∧ w.grownBy w' (some b) := by
  have l0 := pk_some (s := s) (i := i) (by omega)
  have hlt := hb.lt
  have c1 := hb.c1
  have fz := hb.f1
  have HB : Hid _ := hb
  clear hb
  have hp := fun o => peek_any s i b (w.alloc o) (HB.out.alloc o) hi hs
  simp only [hc] at hp
  have HP : Hid _ := hp
  clear hp hc
  go_enter Try.func40, Try.ntmps40
  go_wp2
  refine wp_scope_once ?_
  go_wp2_with (go_at_call 39; go_must (refine Calls.mono (HP.out _) ?_; rintro e w1 ⟨rfl, n, rfl⟩))
  go_step3
  refine ⟨_, rfl, ?_⟩
  go_wp2_with fail
  refine Calls.mono (sNumber_no (St.start HB.out n _ (by omega) _) (by omega) hs hno) ?_
  rintro e w2 ⟨rfl, hg⟩
  exact ⟨rfl, rfl, hg⟩

set_option maxHeartbeats 1000000 in
theorem readStep_43_bad1 (s : ByteArray) (i b : Nat) (w : World) (hb : RdAt w b s i) (hi : i ≤ s.size) (hs : s.size ≤ 150) (hc : pk s i = 43) (a0 : 97 ≤ pk s (i + 1)) (b0 : pk s (i + 1) ≤ 100) (hno : pk s (i + 1 + 1) < 97 ∨ 100 < pk s (i + 1 + 1)) :
    Calls Try.prog 40 #[.pointer (some ⟨b, 0, none⟩)] w fun e w' =>
      e = .panicked (refusal 2 ((i + 1 + 1 : Nat) : Int)) ∧ w.grownBy w' (some b) := by
  have l0 := pk_some (s := s) (i := i) (by omega)
  have l1 := pk_some (s := s) (i := i + 1) (by omega)
  have hlt := hb.lt
  have c1 := hb.c1
  have fz := hb.f1
  have HB : Hid _ := hb
  clear hb
  have hp := fun o => peek_any s i b (w.alloc o) (HB.out.alloc o) hi hs
  simp only [hc] at hp
  have HP : Hid _ := hp
  clear hp hc
  go_enter Try.func40, Try.ntmps40
  go_wp2
  refine wp_scope_once ?_
  go_wp2_with (go_at_call 39; go_must (refine Calls.mono (HP.out _) ?_; rintro e w1 ⟨rfl, n, rfl⟩))
  go_step3
  refine ⟨_, rfl, ?_⟩
  go_wp2_with fail
  refine Calls.mono (sNumber_yes (St.start HB.out n _ (by omega) _) (by omega) hs a0 b0) ?_
  rintro e w2 ⟨rfl, h2⟩
  obtain ⟨q0, q1, q2, q3, q4, q5, q6, qf⟩ := blk7 h2.st
  have r1 := h2.rd.c1
  have H2 : Hid _ := h2
  clear h2 HP c1 fz
  go_wp2_with fail
  refine Calls.mono (sNumber_no (H2.out.store 1 _ rfl) (by omega) hs hno) ?_
  rintro e w3 ⟨rfl, hg⟩
  exact ⟨rfl, rfl, hg⟩

end Go.Proofs.Ytifidfgihpkgcaa

set_option linter.unusedSimpArgs false
set_option linter.unusedVariables false
namespace Go.Proofs.Ytifidfgihpkgcaa
open Go.RowKit Wv

set_option maxHeartbeats 1000000 in
theorem readStep_45_ok (s : ByteArray) (i b : Nat) (w : World) (hb : RdAt w b s i) (hi : i ≤ s.size) (hs : s.size ≤ 150) (hc : pk s i = 45) (a0 : 97 ≤ pk s (i + 1)) (b0 : pk s (i + 1) ≤ 100) (a1 : 97 ≤ pk s (i + 1 + 1)) (b1 : pk s (i + 1 + 1) ≤ 100) :
    Calls Try.prog 40 #[.pointer (some ⟨b, 0, none⟩)] w fun e w' =>
      e = .returned (.agg #[.int .u8 45, .int .u8 (pk s (i + 1) - 97), .int .u8 (pk s (i + 1 + 1) - 97), .int .u8 0, .int .u8 0, .int .u8 0, .int .i64 0]) ∧ RdAt w' b s (i + 1 + 1 + 1) ∧ w.grownBy w' (some b) := by
  have l0 := pk_some (s := s) (i := i) (by omega)
  have l1 := pk_some (s := s) (i := i + 1) (by omega)
  have l2 := pk_some (s := s) (i := i + 1 + 1) (by omega)
  have hlt := hb.lt
  have c1 := hb.c1
  have fz := hb.f1
  have HB : Hid _ := hb
  clear hb
  have hp := fun o => peek_any s i b (w.alloc o) (HB.out.alloc o) hi hs
  simp only [hc] at hp
  have HP : Hid _ := hp
  clear hp hc
  go_enter Try.func40, Try.ntmps40
  go_wp2
  refine wp_scope_once ?_
  go_wp2_with (go_at_call 39; go_must (refine Calls.mono (HP.out _) ?_; rintro e w1 ⟨rfl, n, rfl⟩))
  go_step3
  refine ⟨_, rfl, ?_⟩
  go_wp2_with fail
  refine Calls.mono (sNumber_yes (St.start HB.out n _ (by omega) _) (by omega) hs a0 b0) ?_
  rintro e w2 ⟨rfl, h2⟩
  obtain ⟨q0, q1, q2, q3, q4, q5, q6, qf⟩ := blk7 h2.st
  have r1 := h2.rd.c1
  have H2 : Hid _ := h2
  clear h2 HP c1 fz
  go_wp2_with fail
  refine Calls.mono (sNumber_yes (H2.out.store 1 _ rfl) (by omega) hs a1 b1) ?_
  rintro e w3 ⟨rfl, h3⟩
  clear q0 q1 q2 q3 q4 q5 q6 qf r1
  obtain ⟨q0, q1, q2, q3, q4, q5, q6, qf⟩ := blk7 h3.st
  have r1 := h3.rd.c1
  obtain ⟨n0, n1, n2, n3, n4, n5, n6, nf⟩ := blk7 h3.res
  have H3 : Hid _ := h3
  clear h3 H2
  go_wp2_with fail
  rw [Exit.noGoto_ret]
  have hd := H3.out.done 2 (.int .u8 (pk s (i + 1 + 1) - 97)) (.int .u8 45) (.int .u8 (pk s (i + 1) - 97)) (.int .u8 (pk s (i + 1 + 1) - 97)) (.int .u8 0) (.int .u8 0) (.int .u8 0) (.int .i64 0)
  refine bodyPost_ret (v := .agg #[.int .u8 45, .int .u8 (pk s (i + 1) - 97), .int .u8 (pk s (i + 1 + 1) - 97), .int .u8 0, .int .u8 0, .int .u8 0, .int .i64 0]) ?_ rfl ⟨rfl, hd.1, hd.2⟩
  simp [results, Try.results40, go_sem, n0, n1, n2, n3, n4, n5, n6]

set_option maxHeartbeats 1000000 in
theorem readStep_45_bad0 (s : ByteArray) (i b : Nat) (w : World) (hb : RdAt w b s i) (hi : i ≤ s.size) (hs : s.size ≤ 150) (hc : pk s i = 45) (hno : pk s (i + 1) < 97 ∨ 100 < pk s (i + 1)) :
    Calls Try.prog 40 #[.pointer (some ⟨b, 0, none⟩)] w fun e w' =>
      e = .panicked (refusal 2 ((i + 1 : Nat) : Int)) ∧ w.grownBy w' (some b) := by
  have l0 := pk_some (s := s) (i := i) (by omega)
  have hlt := hb.lt
  have c1 := hb.c1
  have fz := hb.f1
  have HB : Hid _ := hb
  clear hb
  have hp := fun o => peek_any s i b (w.alloc o) (HB.out.alloc o) hi hs
  simp only [hc] at hp
  have HP : Hid _ := hp
  clear hp hc
  go_enter Try.func40, Try.ntmps40
  go_wp2
  refine wp_scope_once ?_
  go_wp2_with (go_at_call 39; go_must (refine Calls.mono (HP.out _) ?_; rintro e w1 ⟨rfl, n, rfl⟩))
  go_step3
  refine ⟨_, rfl, ?_⟩
  go_wp2_with fail
  refine Calls.mono (sNumber_no (St.start HB.out n _ (by omega) _) (by omega) hs hno) ?_
  rintro e w2 ⟨rfl, hg⟩
  exact ⟨rfl, rfl, hg⟩

set_option maxHeartbeats 1000000 in
theorem readStep_45_bad1 (s : ByteArray) (i b : Nat) (w : World) (hb : RdAt w b s i) (hi : i ≤ s.size) (hs : s.size ≤ 150) (hc : pk s i = 45) (a0 : 97 ≤ pk s (i + 1)) (b0 : pk s (i + 1) ≤ 100) (hno : pk s (i + 1 + 1) < 97 ∨ 100 < pk s (i + 1 + 1)) :
    Calls Try.prog 40 #[.pointer (some ⟨b, 0, none⟩)] w fun e w' =>
      e = .panicked (refusal 2 ((i + 1 + 1 : Nat) : Int)) ∧ w.grownBy w' (some b) := by
  have l0 := pk_some (s := s) (i := i) (by omega)
  have l1 := pk_some (s := s) (i := i + 1) (by omega)
  have hlt := hb.lt
  have c1 := hb.c1
  have fz := hb.f1
  have HB : Hid _ := hb
  clear hb
  have hp := fun o => peek_any s i b (w.alloc o) (HB.out.alloc o) hi hs
  simp only [hc] at hp
  have HP : Hid _ := hp
  clear hp hc
  go_enter Try.func40, Try.ntmps40
  go_wp2
  refine wp_scope_once ?_
  go_wp2_with (go_at_call 39; go_must (refine Calls.mono (HP.out _) ?_; rintro e w1 ⟨rfl, n, rfl⟩))
  go_step3
  refine ⟨_, rfl, ?_⟩
  go_wp2_with fail
  refine Calls.mono (sNumber_yes (St.start HB.out n _ (by omega) _) (by omega) hs a0 b0) ?_
  rintro e w2 ⟨rfl, h2⟩
  obtain ⟨q0, q1, q2, q3, q4, q5, q6, qf⟩ := blk7 h2.st
  have r1 := h2.rd.c1
  have H2 : Hid _ := h2
  clear h2 HP c1 fz
  go_wp2_with fail
  refine Calls.mono (sNumber_no (H2.out.store 1 _ rfl) (by omega) hs hno) ?_
  rintro e w3 ⟨rfl, hg⟩
  exact ⟨rfl, rfl, hg⟩

end Go.Proofs.Ytifidfgihpkgcaa

set_option linter.unusedSimpArgs false
set_option linter.unusedVariables false
namespace Go.Proofs.Ytifidfgihpkgcaa
open Go.RowKit Wv

set_option maxHeartbeats 1000000 in
theorem readStep_114_ok (s : ByteArray) (i b : Nat) (w : World) (hb : RdAt w b s i) (hi : i ≤ s.size) (hs : s.size ≤ 150) (hc : pk s i = 114) (a0 : 97 ≤ pk s (i + 1)) (b0 : pk s (i + 1) ≤ 100) (a1 : 120 ≤ pk s (i + 1 + 1)) (b1 : pk s (i + 1 + 1) ≤ 122) :
    Calls Try.prog 40 #[.pointer (some ⟨b, 0, none⟩)] w fun e w' =>
      e = .returned (.agg #[.int .u8 114, .int .u8 (pk s (i + 1) - 97), .int .u8 0, .int .u8 (pk s (i + 1 + 1) - 120), .int .u8 0, .int .u8 0, .int .i64 0]) ∧ RdAt w' b s (i + 1 + 1 + 1) ∧ w.grownBy w' (some b) := by
  have l0 := pk_some (s := s) (i := i) (by omega)
  have l1 := pk_some (s := s) (i := i + 1) (by omega)
  have l2 := pk_some (s := s) (i := i + 1 + 1) (by omega)
  have hlt := hb.lt
  have c1 := hb.c1
  have fz := hb.f1
  have HB : Hid _ := hb
  clear hb
  have hp := fun o => peek_any s i b (w.alloc o) (HB.out.alloc o) hi hs
  simp only [hc] at hp
  have HP : Hid _ := hp
  clear hp hc
  go_enter Try.func40, Try.ntmps40
  go_wp2
  refine wp_scope_once ?_
  go_wp2_with (go_at_call 39; go_must (refine Calls.mono (HP.out _) ?_; rintro e w1 ⟨rfl, n, rfl⟩))
  go_step3
  refine ⟨_, rfl, ?_⟩
  go_wp2_with fail
  refine Calls.mono (sNumber_yes (St.start HB.out n _ (by omega) _) (by omega) hs a0 b0) ?_
  rintro e w2 ⟨rfl, h2⟩
  obtain ⟨q0, q1, q2, q3, q4, q5, q6, qf⟩ := blk7 h2.st
  have r1 := h2.rd.c1
  have H2 : Hid _ := h2
  clear h2 HP c1 fz
  go_wp2_with fail
  refine Calls.mono (sCell_yes (H2.out.store 1 _ rfl) (by omega) hs a1 b1) ?_
  rintro e w3 ⟨rfl, h3⟩
  clear q0 q1 q2 q3 q4 q5 q6 qf r1
  obtain ⟨q0, q1, q2, q3, q4, q5, q6, qf⟩ := blk7 h3.st
  have r1 := h3.rd.c1
  obtain ⟨n0, n1, n2, n3, n4, n5, n6, nf⟩ := blk7 h3.res
  have H3 : Hid _ := h3
  clear h3 H2
  go_wp2_with fail
  rw [Exit.noGoto_ret]
  have hd := H3.out.done 3 (.int .u8 (pk s (i + 1 + 1) - 120)) (.int .u8 114) (.int .u8 (pk s (i + 1) - 97)) (.int .u8 0) (.int .u8 (pk s (i + 1 + 1) - 120)) (.int .u8 0) (.int .u8 0) (.int .i64 0)
  refine bodyPost_ret (v := .agg #[.int .u8 114, .int .u8 (pk s (i + 1) - 97), .int .u8 0, .int .u8 (pk s (i + 1 + 1) - 120), .int .u8 0, .int .u8 0, .int .i64 0]) ?_ rfl ⟨rfl, hd.1, hd.2⟩
  simp [results, Try.results40, go_sem, n0, n1, n2, n3, n4, n5, n6]

set_option maxHeartbeats 1000000 in
theorem readStep_114_bad0 (s : ByteArray) (i b : Nat) (w : World) (hb : RdAt w b s i) (hi : i ≤ s.size) (hs : s.size ≤ 150) (hc : pk s i = 114) (hno : pk s (i + 1) < 97 ∨ 100 < pk s (i + 1)) :
    Calls Try.prog 40 #[.pointer (some ⟨b, 0, none⟩)] w fun e w' =>
      e = .panicked (refusal 2 ((i + 1 : Nat) : Int)) ∧ w.grownBy w' (some b) := by
  have l0 := pk_some (s := s) (i := i) (by omega)
  have hlt := hb.lt
  have c1 := hb.c1
  have fz := hb.f1
  have HB : Hid _ := hb
  clear hb
  have hp := fun o => peek_any s i b (w.alloc o) (HB.out.alloc o) hi hs
  simp only [hc] at hp
  have HP : Hid _ := hp
  clear hp hc
  go_enter Try.func40, Try.ntmps40
  go_wp2
  refine wp_scope_once ?_
  go_wp2_with (go_at_call 39; go_must (refine Calls.mono (HP.out _) ?_; rintro e w1 ⟨rfl, n, rfl⟩))
  go_step3
  refine ⟨_, rfl, ?_⟩
  go_wp2_with fail
  refine Calls.mono (sNumber_no (St.start HB.out n _ (by omega) _) (by omega) hs hno) ?_
  rintro e w2 ⟨rfl, hg⟩
  exact ⟨rfl, rfl, hg⟩

set_option maxHeartbeats 1000000 in
theorem readStep_114_bad1 (s : ByteArray) (i b : Nat) (w : World) (hb : RdAt w b s i) (hi : i ≤ s.size) (hs : s.size ≤ 150) (hc : pk s i = 114) (a0 : 97 ≤ pk s (i + 1)) (b0 : pk s (i + 1) ≤ 100) (hno : pk s (i + 1 + 1) < 120 ∨ 122 < pk s (i + 1 + 1)) :
    Calls Try.prog 40 #[.pointer (some ⟨b, 0, none⟩)] w fun e w' =>
      e = .panicked (refusal 2 ((i + 1 + 1 : Nat) : Int)) ∧ w.grownBy w' (some b) := by
  have l0 := pk_some (s := s) (i := i) (by omega)
  have l1 := pk_some (s := s) (i := i + 1) (by omega)
  have hlt := hb.lt
  have c1 := hb.c1
  have fz := hb.f1
  have HB : Hid _ := hb
  clear hb
  have hp := fun o => peek_any s i b (w.alloc o) (HB.out.alloc o) hi hs
  simp only [hc] at hp
  have HP : Hid _ := hp
  clear hp hc
  go_enter Try.func40, Try.ntmps40
  go_wp2
  refine wp_scope_once ?_
  go_wp2_with (go_at_call 39; go_must (refine Calls.mono (HP.out _) ?_; rintro e w1 ⟨rfl, n, rfl⟩))
  go_step3
  refine ⟨_, rfl, ?_⟩
  go_wp2_with fail
  refine Calls.mono (sNumber_yes (St.start HB.out n _ (by omega) _) (by omega) hs a0 b0) ?_
  rintro e w2 ⟨rfl, h2⟩
  obtain ⟨q0, q1, q2, q3, q4, q5, q6, qf⟩ := blk7 h2.st
  have r1 := h2.rd.c1
  have H2 : Hid _ := h2
  clear h2 HP c1 fz
  go_wp2_with fail
  refine Calls.mono (sCell_no (H2.out.store 1 _ rfl) (by omega) hs hno) ?_
  rintro e w3 ⟨rfl, hg⟩
  exact ⟨rfl, rfl, hg⟩

end Go.Proofs.Ytifidfgihpkgcaa

set_option linter.unusedSimpArgs false
set_option linter.unusedVariables false
namespace Go.Proofs.Ytifidfgihpkgcaa
open Go.RowKit Wv

set_option maxHeartbeats 1000000 in
theorem readStep_119_ok (s : ByteArray) (i b : Nat) (w : World) (hb : RdAt w b s i) (hi : i ≤ s.size) (hs : s.size ≤ 150) (hc : pk s i = 119) (a0 : 120 ≤ pk s (i + 1)) (b0 : pk s (i + 1) ≤ 122) (a1 : 97 ≤ pk s (i + 1 + 1)) (b1 : pk s (i + 1 + 1) ≤ 100) :
    Calls Try.prog 40 #[.pointer (some ⟨b, 0, none⟩)] w fun e w' =>
      e = .returned (.agg #[.int .u8 119, .int .u8 (pk s (i + 1 + 1) - 97), .int .u8 0, .int .u8 (pk s (i + 1) - 120), .int .u8 0, .int .u8 0, .int .i64 0]) ∧ RdAt w' b s (i + 1 + 1 + 1) ∧ w.grownBy w' (some b) := by
  have l0 := pk_some (s := s) (i := i) (by omega)
  have l1 := pk_some (s := s) (i := i + 1) (by omega)
  have l2 := pk_some (s := s) (i := i + 1 + 1) (by omega)
  have hlt := hb.lt
  have c1 := hb.c1
  have fz := hb.f1
  have HB : Hid _ := hb
  clear hb
  have hp := fun o => peek_any s i b (w.alloc o) (HB.out.alloc o) hi hs
  simp only [hc] at hp
  have HP : Hid _ := hp
  clear hp hc
  go_enter Try.func40, Try.ntmps40
  go_wp2
  refine wp_scope_once ?_
  go_wp2_with (go_at_call 39; go_must (refine Calls.mono (HP.out _) ?_; rintro e w1 ⟨rfl, n, rfl⟩))
  go_step3
  refine ⟨_, rfl, ?_⟩
  go_wp2_with fail
  refine Calls.mono (sCell_yes (St.start HB.out n _ (by omega) _) (by omega) hs a0 b0) ?_
  rintro e w2 ⟨rfl, h2⟩
  obtain ⟨q0, q1, q2, q3, q4, q5, q6, qf⟩ := blk7 h2.st
  have r1 := h2.rd.c1
  have H2 : Hid _ := h2
  clear h2 HP c1 fz
  go_wp2_with fail
  go_step3
  go_wp2_with fail
  refine Calls.mono (sNumber_yes (H2.out.store 3 _ rfl) (by omega) hs a1 b1) ?_
  rintro e w3 ⟨rfl, h3⟩
  clear q0 q1 q2 q3 q4 q5 q6 qf r1
  obtain ⟨q0, q1, q2, q3, q4, q5, q6, qf⟩ := blk7 h3.st
  have r1 := h3.rd.c1
  obtain ⟨n0, n1, n2, n3, n4, n5, n6, nf⟩ := blk7 h3.res
  have H3 : Hid _ := h3
  clear h3 H2
  go_wp2_with fail
  rw [Exit.noGoto_ret]
  have hd := H3.out.done 1 (.int .u8 (pk s (i + 1 + 1) - 97)) (.int .u8 119) (.int .u8 (pk s (i + 1 + 1) - 97)) (.int .u8 0) (.int .u8 (pk s (i + 1) - 120)) (.int .u8 0) (.int .u8 0) (.int .i64 0)
  refine bodyPost_ret (v := .agg #[.int .u8 119, .int .u8 (pk s (i + 1 + 1) - 97), .int .u8 0, .int .u8 (pk s (i + 1) - 120), .int .u8 0, .int .u8 0, .int .i64 0]) ?_ rfl ⟨rfl, hd.1, hd.2⟩
  simp [results, Try.results40, go_sem, n0, n1, n2, n3, n4, n5, n6]

set_option maxHeartbeats 1000000 in
theorem readStep_119_bad0 (s : ByteArray) (i b : Nat) (w : World) (hb : RdAt w b s i) (hi : i ≤ s.size) (hs : s.size ≤ 150) (hc : pk s i = 119) (hno : pk s (i + 1) < 120 ∨ 122 < pk s (i + 1)) :
    Calls Try.prog 40 #[.pointer (some ⟨b, 0, none⟩)] w fun e w' =>
      e = .panicked (refusal 2 ((i + 1 : Nat) : Int)) ∧ w.grownBy w' (some b) := by
  have l0 := pk_some (s := s) (i := i) (by omega)
  have hlt := hb.lt
  have c1 := hb.c1
  have fz := hb.f1
  have HB : Hid _ := hb
  clear hb
  have hp := fun o => peek_any s i b (w.alloc o) (HB.out.alloc o) hi hs
  simp only [hc] at hp
  have HP : Hid _ := hp
  clear hp hc
  go_enter Try.func40, Try.ntmps40
  go_wp2
  refine wp_scope_once ?_
  go_wp2_with (go_at_call 39; go_must (refine Calls.mono (HP.out _) ?_; rintro e w1 ⟨rfl, n, rfl⟩))
  go_step3
  refine ⟨_, rfl, ?_⟩
  go_wp2_with fail
  refine Calls.mono (sCell_no (St.start HB.out n _ (by omega) _) (by omega) hs hno) ?_
  rintro e w2 ⟨rfl, hg⟩
  exact ⟨rfl, rfl, hg⟩

set_option maxHeartbeats 1000000 in
theorem readStep_119_bad1 (s : ByteArray) (i b : Nat) (w : World) (hb : RdAt w b s i) (hi : i ≤ s.size) (hs : s.size ≤ 150) (hc : pk s i = 119) (a0 : 120 ≤ pk s (i + 1)) (b0 : pk s (i + 1) ≤ 122) (hno : pk s (i + 1 + 1) < 97 ∨ 100 < pk s (i + 1 + 1)) :
    Calls Try.prog 40 #[.pointer (some ⟨b, 0, none⟩)] w fun e w' =>
      e = .panicked (refusal 2 ((i + 1 + 1 : Nat) : Int)) ∧ w.grownBy w' (some b) := by
  have l0 := pk_some (s := s) (i := i) (by omega)
  have l1 := pk_some (s := s) (i := i + 1) (by omega)
  have hlt := hb.lt
  have c1 := hb.c1
  have fz := hb.f1
  have HB : Hid _ := hb
  clear hb
  have hp := fun o => peek_any s i b (w.alloc o) (HB.out.alloc o) hi hs
  simp only [hc] at hp
  have HP : Hid _ := hp
  clear hp hc
  go_enter Try.func40, Try.ntmps40
  go_wp2
  refine wp_scope_once ?_
  go_wp2_with (go_at_call 39; go_must (refine Calls.mono (HP.out _) ?_; rintro e w1 ⟨rfl, n, rfl⟩))
  go_step3
  refine ⟨_, rfl, ?_⟩
  go_wp2_with fail
  refine Calls.mono (sCell_yes (St.start HB.out n _ (by omega) _) (by omega) hs a0 b0) ?_
  rintro e w2 ⟨rfl, h2⟩
  obtain ⟨q0, q1, q2, q3, q4, q5, q6, qf⟩ := blk7 h2.st
  have r1 := h2.rd.c1
  have H2 : Hid _ := h2
  clear h2 HP c1 fz
  go_wp2_with fail
  go_step3
  go_wp2_with fail
  refine Calls.mono (sNumber_no (H2.out.store 3 _ rfl) (by omega) hs hno) ?_
  rintro e w3 ⟨rfl, hg⟩
  exact ⟨rfl, rfl, hg⟩

end Go.Proofs.Ytifidfgihpkgcaa

set_option linter.unusedSimpArgs false
set_option linter.unusedVariables false
namespace Go.Proofs.Ytifidfgihpkgcaa
open Go.RowKit Wv

set_option maxHeartbeats 1000000 in
theorem readStep_108_ok (s : ByteArray) (i b : Nat) (w : World) (hb : RdAt w b s i) (hi : i ≤ s.size) (hs : s.size ≤ 150) (hc : pk s i = 108) (a0 : 109 ≤ pk s (i + 1)) (b0 : pk s (i + 1) ≤ 110) :
    Calls Try.prog 40 #[.pointer (some ⟨b, 0, none⟩)] w fun e w' =>
      e = .returned (.agg #[.int .u8 108, .int .u8 0, .int .u8 0, .int .u8 0, .int .u8 (pk s (i + 1) - 109), .int .u8 0, .int .i64 0]) ∧ RdAt w' b s (i + 1 + 1) ∧ w.grownBy w' (some b) := by
  have l0 := pk_some (s := s) (i := i) (by omega)
  have l1 := pk_some (s := s) (i := i + 1) (by omega)
  have hlt := hb.lt
  have c1 := hb.c1
  have fz := hb.f1
  have HB : Hid _ := hb
  clear hb
  have hp := fun o => peek_any s i b (w.alloc o) (HB.out.alloc o) hi hs
  simp only [hc] at hp
  have HP : Hid _ := hp
  clear hp hc
  go_enter Try.func40, Try.ntmps40
  go_wp2
  refine wp_scope_once ?_
  go_wp2_with (go_at_call 39; go_must (refine Calls.mono (HP.out _) ?_; rintro e w1 ⟨rfl, n, rfl⟩))
  go_step3
  refine ⟨_, rfl, ?_⟩
  go_wp2_with fail
  refine Calls.mono (sLock_yes (St.start HB.out n _ (by omega) _) (by omega) hs a0 b0) ?_
  rintro e w2 ⟨rfl, h2⟩
  obtain ⟨q0, q1, q2, q3, q4, q5, q6, qf⟩ := blk7 h2.st
  have r1 := h2.rd.c1
  obtain ⟨n0, n1, n2, n3, n4, n5, n6, nf⟩ := blk7 h2.res
  have H2 : Hid _ := h2
  clear h2 HP c1 fz
  go_wp2_with fail
  rw [Exit.noGoto_ret]
  have hd := H2.out.done 4 (.int .u8 (pk s (i + 1) - 109)) (.int .u8 108) (.int .u8 0) (.int .u8 0) (.int .u8 0) (.int .u8 (pk s (i + 1) - 109)) (.int .u8 0) (.int .i64 0)
  refine bodyPost_ret (v := .agg #[.int .u8 108, .int .u8 0, .int .u8 0, .int .u8 0, .int .u8 (pk s (i + 1) - 109), .int .u8 0, .int .i64 0]) ?_ rfl ⟨rfl, hd.1, hd.2⟩
  simp [results, Try.results40, go_sem, n0, n1, n2, n3, n4, n5, n6]

set_option maxHeartbeats 1000000 in
theorem readStep_108_bad0 (s : ByteArray) (i b : Nat) (w : World) (hb : RdAt w b s i) (hi : i ≤ s.size) (hs : s.size ≤ 150) (hc : pk s i = 108) (hno : pk s (i + 1) < 109 ∨ 110 < pk s (i + 1)) :
    Calls Try.prog 40 #[.pointer (some ⟨b, 0, none⟩)] w fun e w' =>
      e = .panicked (refusal 2 ((i + 1 : Nat) : Int)) ∧ w.grownBy w' (some b) := by
  have l0 := pk_some (s := s) (i := i) (by omega)
  have hlt := hb.lt
  have c1 := hb.c1
  have fz := hb.f1
  have HB : Hid _ := hb
  clear hb
  have hp := fun o => peek_any s i b (w.alloc o) (HB.out.alloc o) hi hs
  simp only [hc] at hp
  have HP : Hid _ := hp
  clear hp hc
  go_enter Try.func40, Try.ntmps40
  go_wp2
  refine wp_scope_once ?_
  go_wp2_with (go_at_call 39; go_must (refine Calls.mono (HP.out _) ?_; rintro e w1 ⟨rfl, n, rfl⟩))
  go_step3
  refine ⟨_, rfl, ?_⟩
  go_wp2_with fail
  refine Calls.mono (sLock_no (St.start HB.out n _ (by omega) _) (by omega) hs hno) ?_
  rintro e w2 ⟨rfl, hg⟩
  exact ⟨rfl, rfl, hg⟩

end Go.Proofs.Ytifidfgihpkgcaa

set_option linter.unusedSimpArgs false
set_option linter.unusedVariables false
namespace Go.Proofs.Ytifidfgihpkgcaa
open Go.RowKit Wv

set_option maxHeartbeats 1000000 in
theorem readStep_117_ok (s : ByteArray) (i b : Nat) (w : World) (hb : RdAt w b s i) (hi : i ≤ s.size) (hs : s.size ≤ 150) (hc : pk s i = 117) (a0 : 109 ≤ pk s (i + 1)) (b0 : pk s (i + 1) ≤ 110) :
    Calls Try.prog 40 #[.pointer (some ⟨b, 0, none⟩)] w fun e w' =>
      e = .returned (.agg #[.int .u8 117, .int .u8 0, .int .u8 0, .int .u8 0, .int .u8 (pk s (i + 1) - 109), .int .u8 0, .int .i64 0]) ∧ RdAt w' b s (i + 1 + 1) ∧ w.grownBy w' (some b) := by
  have l0 := pk_some (s := s) (i := i) (by omega)
  have l1 := pk_some (s := s) (i := i + 1) (by omega)
  have hlt := hb.lt
  have c1 := hb.c1
  have fz := hb.f1
  have HB : Hid _ := hb
  clear hb
  have hp := fun o => peek_any s i b (w.alloc o) (HB.out.alloc o) hi hs
  simp only [hc] at hp
  have HP : Hid _ := hp
  clear hp hc
  go_enter Try.func40, Try.ntmps40
  go_wp2
  refine wp_scope_once ?_
  go_wp2_with (go_at_call 39; go_must (refine Calls.mono (HP.out _) ?_; rintro e w1 ⟨rfl, n, rfl⟩))
  go_step3
  refine ⟨_, rfl, ?_⟩
  go_wp2_with fail
  refine Calls.mono (sLock_yes (St.start HB.out n _ (by omega) _) (by omega) hs a0 b0) ?_
  rintro e w2 ⟨rfl, h2⟩
  obtain ⟨q0, q1, q2, q3, q4, q5, q6, qf⟩ := blk7 h2.st
  have r1 := h2.rd.c1
  obtain ⟨n0, n1, n2, n3, n4, n5, n6, nf⟩ := blk7 h2.res
  have H2 : Hid _ := h2
  clear h2 HP c1 fz
  go_wp2_with fail
  rw [Exit.noGoto_ret]
  have hd := H2.out.done 4 (.int .u8 (pk s (i + 1) - 109)) (.int .u8 117) (.int .u8 0) (.int .u8 0) (.int .u8 0) (.int .u8 (pk s (i + 1) - 109)) (.int .u8 0) (.int .i64 0)
  refine bodyPost_ret (v := .agg #[.int .u8 117, .int .u8 0, .int .u8 0, .int .u8 0, .int .u8 (pk s (i + 1) - 109), .int .u8 0, .int .i64 0]) ?_ rfl ⟨rfl, hd.1, hd.2⟩
  simp [results, Try.results40, go_sem, n0, n1, n2, n3, n4, n5, n6]

set_option maxHeartbeats 1000000 in
theorem readStep_117_bad0 (s : ByteArray) (i b : Nat) (w : World) (hb : RdAt w b s i) (hi : i ≤ s.size) (hs : s.size ≤ 150) (hc : pk s i = 117) (hno : pk s (i + 1) < 109 ∨ 110 < pk s (i + 1)) :
    Calls Try.prog 40 #[.pointer (some ⟨b, 0, none⟩)] w fun e w' =>
      e = .panicked (refusal 2 ((i + 1 : Nat) : Int)) ∧ w.grownBy w' (some b) := by
  have l0 := pk_some (s := s) (i := i) (by omega)
  have hlt := hb.lt
  have c1 := hb.c1
  have fz := hb.f1
  have HB : Hid _ := hb
  clear hb
  have hp := fun o => peek_any s i b (w.alloc o) (HB.out.alloc o) hi hs
  simp only [hc] at hp
  have HP : Hid _ := hp
  clear hp hc
  go_enter Try.func40, Try.ntmps40
  go_wp2
  refine wp_scope_once ?_
  go_wp2_with (go_at_call 39; go_must (refine Calls.mono (HP.out _) ?_; rintro e w1 ⟨rfl, n, rfl⟩))
  go_step3
  refine ⟨_, rfl, ?_⟩
  go_wp2_with fail
  refine Calls.mono (sLock_no (St.start HB.out n _ (by omega) _) (by omega) hs hno) ?_
  rintro e w2 ⟨rfl, hg⟩
  exact ⟨rfl, rfl, hg⟩

end Go.Proofs.Ytifidfgihpkgcaa

set_option linter.unusedSimpArgs false
set_option linter.unusedVariables false
namespace Go.Proofs.Ytifidfgihpkgcaa
open Go.RowKit Wv

set_option maxHeartbeats 1000000 in
theorem readStep_106_ok (s : ByteArray) (i b : Nat) (w : World) (hb : RdAt w b s i) (hi : i ≤ s.size) (hs : s.size ≤ 150) (hc : pk s i = 106) (a0 : 48 ≤ pk s (i + 1)) (b0 : pk s (i + 1) ≤ 57) :
    Calls Try.prog 40 #[.pointer (some ⟨b, 0, none⟩)] w fun e w' =>
      e = .returned (.agg #[.int .u8 106, .int .u8 0, .int .u8 0, .int .u8 0, .int .u8 0, .int .u8 (pk s (i + 1) - 48), .int .i64 ((i : Int) + 1)]) ∧ RdAt w' b s (i + 1 + 1) ∧ w.grownBy w' (some b) := by
  have l0 := pk_some (s := s) (i := i) (by omega)
  have l1 := pk_some (s := s) (i := i + 1) (by omega)
  have hlt := hb.lt
  have c1 := hb.c1
  have fz := hb.f1
  have HB : Hid _ := hb
  clear hb
  have hp := fun o => peek_any s i b (w.alloc o) (HB.out.alloc o) hi hs
  simp only [hc] at hp
  have HP : Hid _ := hp
  clear hp hc
  go_enter Try.func40, Try.ntmps40
  go_wp2
  refine wp_scope_once ?_
  go_wp2_with (go_at_call 39; go_must (refine Calls.mono (HP.out _) ?_; rintro e w1 ⟨rfl, n, rfl⟩))
  go_step3
  refine ⟨_, rfl, ?_⟩
  go_wp2_with fail
  refine Calls.mono (sDigit_yes (St.start HB.out n _ (by omega) _) (by omega) hs a0 b0) ?_
  rintro e w2 ⟨rfl, h2⟩
  obtain ⟨q0, q1, q2, q3, q4, q5, q6, qf⟩ := blk7 h2.st
  have r1 := h2.rd.c1
  obtain ⟨n0, n1, n2, n3, n4, n5, n6, nf⟩ := blk7 h2.res
  have H2 : Hid _ := h2
  clear h2 HP c1 fz
  go_wp2_with fail
  rw [Exit.noGoto_ret]
  have hd := H2.out.done 5 (.int .u8 (pk s (i + 1) - 48)) (.int .u8 106) (.int .u8 0) (.int .u8 0) (.int .u8 0) (.int .u8 0) (.int .u8 (pk s (i + 1) - 48)) (.int .i64 ((i : Int) + 1))
  refine bodyPost_ret (v := .agg #[.int .u8 106, .int .u8 0, .int .u8 0, .int .u8 0, .int .u8 0, .int .u8 (pk s (i + 1) - 48), .int .i64 ((i : Int) + 1)]) ?_ rfl ⟨rfl, hd.1, hd.2⟩
  simp [results, Try.results40, go_sem, n0, n1, n2, n3, n4, n5, n6]

set_option maxHeartbeats 1000000 in
theorem readStep_106_bad0 (s : ByteArray) (i b : Nat) (w : World) (hb : RdAt w b s i) (hi : i ≤ s.size) (hs : s.size ≤ 150) (hc : pk s i = 106) (hno : pk s (i + 1) < 48 ∨ 57 < pk s (i + 1)) :
    Calls Try.prog 40 #[.pointer (some ⟨b, 0, none⟩)] w fun e w' =>
      e = .panicked (refusal 2 ((i + 1 : Nat) : Int)) ∧ w.grownBy w' (some b) := by
  have l0 := pk_some (s := s) (i := i) (by omega)
  have hlt := hb.lt
  have c1 := hb.c1
  have fz := hb.f1
  have HB : Hid _ := hb
  clear hb
  have hp := fun o => peek_any s i b (w.alloc o) (HB.out.alloc o) hi hs
  simp only [hc] at hp
  have HP : Hid _ := hp
  clear hp hc
  go_enter Try.func40, Try.ntmps40
  go_wp2
  refine wp_scope_once ?_
  go_wp2_with (go_at_call 39; go_must (refine Calls.mono (HP.out _) ?_; rintro e w1 ⟨rfl, n, rfl⟩))
  go_step3
  refine ⟨_, rfl, ?_⟩
  go_wp2_with fail
  refine Calls.mono (sDigit_no (St.start HB.out n _ (by omega) _) (by omega) hs hno) ?_
  rintro e w2 ⟨rfl, hg⟩
  exact ⟨rfl, rfl, hg⟩

end Go.Proofs.Ytifidfgihpkgcaa

