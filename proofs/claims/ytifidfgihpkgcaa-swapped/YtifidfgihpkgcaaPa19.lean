import Derived.Test.YtifidfgihpkgcaaPa18
import Derived.Test.YtifidfgihpkgcaaPa02
set_option linter.unusedSimpArgs false
set_option linter.unusedVariables false
namespace Go.Proofs.Ytifidfgihpkgcaa
open Go.RowKit Wv

set_option maxHeartbeats 1000000 in
set_option maxRecDepth 100000 in
theorem turn_122 (s : ByteArray) (L : List (List Nat)) (σ τ : Nat → Int) (who base B : Nat) (tv : Value) (mb : Nat) (vs : List Value) (w : World) (hM : OwnT w base 89 102 7 (ccells s) B tv vs L)
    (hmb : w.heap[mb]? = some (.map deedEntries 10)) (hw3 : who < 3) (hw : who < L.length) (hn : σ (who * 7 + 4) = (nx σ who : Int)) (hk : nx σ who < L[who].length) (h8 : L[who].length ≤ 8)
    (f0 : 1 ≤ σ (who * 7 + 5)) (f1 : σ (who * 7 + 5) ≤ 9) (hc : pk s (stp L σ who) = 122)
    (hdeed : ∀ W, Calls Try.prog 48 #[.agg (cst (pre σ who)), .int .i64 (who : Int), .agg (ccells s (stp L σ who)).toArray] W fun e w' => e = .returned (.agg (cst τ)) ∧ W.grownBy w' none) :
    Calls Try.prog 34 #[.agg #[tv, .map (some mb)], .agg (cst σ), .int .i64 (who : Int)] w fun e w' =>
      e = .returned (.agg (cst τ)) ∧ w.grownBy w' none := by
  have HN : Hid (∀ A C D, Calls Try.prog 53 #[.agg #[tv, .map (some mb)], .agg (cst σ), .int .i64 (who : Int)] (((w.alloc A).alloc C).alloc D) fun e w' => e = .returned (.agg (ccells s (stp L σ who)).toArray) ∧ (((w.alloc A).alloc C).alloc D).grownBy w' none) :=
    fun A C D => nextStep_any s L σ who base B tv _ vs _ (hM.kept (grown3 w A C D) (Classical.em _) (by simp)) rfl hw3 hw hn hk h8
  obtain ⟨ao, cap, rfl⟩ := ownsRow_slice hM.out
  have hn4 : 0 ≤ σ (who * 7 + 4) ∧ σ (who * 7 + 4) ≤ 7 := by omega
  clear hM hn hk h8
  generalize stp L σ who = x at *
  obtain ⟨y1, y2, y3, y4, y5, y6, hcc⟩ : ∃ y1 y2 y3 y4 y5 y6, ccells s x = [.int .u8 122, .int .u8 y1, .int .u8 y2, .int .u8 y3, .int .u8 y4, .int .u8 y5, .int .i64 y6] := ⟨_, _, _, _, _, _, by unfold ccells; rw [hc]⟩
  rw [hcc] at hdeed
  have HD : Hid _ := hdeed
  have HN2 : Hid (∀ A C D, Calls Try.prog 53 #[.agg #[.slice ao L.length cap, .map (some mb)], .agg (cst σ), .int .i64 (who : Int)] (((w.alloc A).alloc C).alloc D) fun e w' => e = .returned (.agg #[.int .u8 122, .int .u8 y1, .int .u8 y2, .int .u8 y3, .int .u8 y4, .int .u8 y5, .int .i64 y6]) ∧ (((w.alloc A).alloc C).alloc D).grownBy w' none) := by
    have := HN.out
    rw [hcc] at this
    exact this
  clear HN hcc hdeed hc
  have g5 := cst_get σ (who * 7 + 5) (by omega)
  have g4 := cst_get σ (who * 7 + 4) (by omega)
  have HMB : Hid _ := hmb
  clear hmb
  go_enter Try.func34, Try.ntmps34
  go_wp2_with (refine wpList_load_row rfl 72 (.tmp 4) rfl (w.heap.size + 1) ?_ 72 (cst σ) (0, 0) _ ?_ Try.underlying72 rfl (info_state _) ?_; rfl; exact (heap3 _ _ _ _).2.1)
  refine Calls.mono (HN2.out _ _ _) ?_
  rintro e w1 ⟨rfl, hg⟩
  have hT := TurnAt.mk' HMB.out hg
  obtain ⟨m0, m1, mf⟩ := blk2 hT.m
  have c5 := cell_of_row w1 (w.heap.size + 1) (who * 7 + 5) _ _ _ hT.st
  have c4 := cell_of_row w1 (w.heap.size + 1) (who * 7 + 4) _ _ _ hT.st
  rw [g5] at c5
  rw [g4] at c4
  have fz := fun o => frozen_of_row w1 (w.heap.size + 1) o _ _ hT.st
  have lt1 : w.heap.size + 1 < w1.heap.size := lt_of_block hT.st
  have lt0 : w.heap.size < w1.heap.size := by omega
  have hlook : ∀ X, (Instr.lookup 59 (.map (some mb)) (.int .u8 122) false).run Try.prog (((w1.setCell ⟨w.heap.size + 1, who * 7 + 5, none⟩ (.int .u8 (σ (who * 7 + 5) - 1))).setCell ⟨w.heap.size + 1, who * 7 + 4, none⟩ (.int .u8 (σ (who * 7 + 4) + 1))).alloc X) = .ok (.func (.func 48) #[] #[]) (((w1.setCell ⟨w.heap.size + 1, who * 7 + 5, none⟩ (.int .u8 (σ (who * 7 + 5) - 1))).setCell ⟨w.heap.size + 1, who * 7 + 4, none⟩ (.int .u8 (σ (who * 7 + 4) + 1))).alloc X) :=
    fun X => run_look (j := 7) (hT.two X who).2.2.1 rfl
  have HT : Hid _ := hT
  clear hg hT HN2 HMB
  go_wp2_with (first | (refine wpList_load_row rfl 72 (.tmp 4) rfl (w.heap.size + 1) ?_ 72 (cst (pre σ who)) (0, 0) _ ?_ Try.underlying72 rfl (info_state _) ?_; rfl; exact (HT.out.two _ who).1) | (go_at_call 48; go_must (refine Calls.mono (HD.out _) ?_; rintro e w2 ⟨rfl, hg2⟩; have HA : Hid _ := HT.out.after hg2; clear hg2)) | (refine wpList_store_row rfl 72 (.tmp 6) (.tmp 38) rfl (w.heap.size + 1 + 1) (cst τ) ?_ ?_ 72 _ HA.out.1 (info_state _) ?_ (cst_oneCell _) ?_; rfl; rfl; (rw [cst_size]; rfl)))
  refine bodyPost_ret (v := .agg (cst τ)) (results_cell_row Try.results34 _ _ (w.heap.size + 1 + 1) 72 _ (0, 0) _ rfl (setRow_heap _ _ _ _ 72 (0, 0) HA.out.1) Try.underlying72 rfl (info_state _)) rfl ⟨rfl, ?_⟩
  exact grownBy_setRow HA.out.2 (by omega) _

end Go.Proofs.Ytifidfgihpkgcaa

set_option linter.unusedSimpArgs false
set_option linter.unusedVariables false
namespace Go.Proofs.Ytifidfgihpkgcaa
open Go.RowKit Wv

set_option maxHeartbeats 1000000 in
set_option maxRecDepth 100000 in
theorem turn_43 (s : ByteArray) (L : List (List Nat)) (σ τ : Nat → Int) (who base B : Nat) (tv : Value) (mb : Nat) (vs : List Value) (w : World) (hM : OwnT w base 89 102 7 (ccells s) B tv vs L)
    (hmb : w.heap[mb]? = some (.map deedEntries 10)) (hw3 : who < 3) (hw : who < L.length) (hn : σ (who * 7 + 4) = (nx σ who : Int)) (hk : nx σ who < L[who].length) (h8 : L[who].length ≤ 8)
    (f0 : 1 ≤ σ (who * 7 + 5)) (f1 : σ (who * 7 + 5) ≤ 9) (hc : pk s (stp L σ who) = 43)
    (hdeed : ∀ W, Calls Try.prog 42 #[.agg (cst (pre σ who)), .int .i64 (who : Int), .agg (ccells s (stp L σ who)).toArray] W fun e w' => e = .returned (.agg (cst τ)) ∧ W.grownBy w' none) :
    Calls Try.prog 34 #[.agg #[tv, .map (some mb)], .agg (cst σ), .int .i64 (who : Int)] w fun e w' =>
      e = .returned (.agg (cst τ)) ∧ w.grownBy w' none := by
  have HN : Hid (∀ A C D, Calls Try.prog 53 #[.agg #[tv, .map (some mb)], .agg (cst σ), .int .i64 (who : Int)] (((w.alloc A).alloc C).alloc D) fun e w' => e = .returned (.agg (ccells s (stp L σ who)).toArray) ∧ (((w.alloc A).alloc C).alloc D).grownBy w' none) :=
    fun A C D => nextStep_any s L σ who base B tv _ vs _ (hM.kept (grown3 w A C D) (Classical.em _) (by simp)) rfl hw3 hw hn hk h8
  obtain ⟨ao, cap, rfl⟩ := ownsRow_slice hM.out
  have hn4 : 0 ≤ σ (who * 7 + 4) ∧ σ (who * 7 + 4) ≤ 7 := by omega
  clear hM hn hk h8
  generalize stp L σ who = x at *
  obtain ⟨y1, y2, y3, y4, y5, y6, hcc⟩ : ∃ y1 y2 y3 y4 y5 y6, ccells s x = [.int .u8 43, .int .u8 y1, .int .u8 y2, .int .u8 y3, .int .u8 y4, .int .u8 y5, .int .i64 y6] := ⟨_, _, _, _, _, _, by unfold ccells; rw [hc]⟩
  rw [hcc] at hdeed
  have HD : Hid _ := hdeed
  have HN2 : Hid (∀ A C D, Calls Try.prog 53 #[.agg #[.slice ao L.length cap, .map (some mb)], .agg (cst σ), .int .i64 (who : Int)] (((w.alloc A).alloc C).alloc D) fun e w' => e = .returned (.agg #[.int .u8 43, .int .u8 y1, .int .u8 y2, .int .u8 y3, .int .u8 y4, .int .u8 y5, .int .i64 y6]) ∧ (((w.alloc A).alloc C).alloc D).grownBy w' none) := by
    have := HN.out
    rw [hcc] at this
    exact this
  clear HN hcc hdeed hc
  have g5 := cst_get σ (who * 7 + 5) (by omega)
  have g4 := cst_get σ (who * 7 + 4) (by omega)
  have HMB : Hid _ := hmb
  clear hmb
  go_enter Try.func34, Try.ntmps34
  go_wp2_with (refine wpList_load_row rfl 72 (.tmp 4) rfl (w.heap.size + 1) ?_ 72 (cst σ) (0, 0) _ ?_ Try.underlying72 rfl (info_state _) ?_; rfl; exact (heap3 _ _ _ _).2.1)
  refine Calls.mono (HN2.out _ _ _) ?_
  rintro e w1 ⟨rfl, hg⟩
  have hT := TurnAt.mk' HMB.out hg
  obtain ⟨m0, m1, mf⟩ := blk2 hT.m
  have c5 := cell_of_row w1 (w.heap.size + 1) (who * 7 + 5) _ _ _ hT.st
  have c4 := cell_of_row w1 (w.heap.size + 1) (who * 7 + 4) _ _ _ hT.st
  rw [g5] at c5
  rw [g4] at c4
  have fz := fun o => frozen_of_row w1 (w.heap.size + 1) o _ _ hT.st
  have lt1 : w.heap.size + 1 < w1.heap.size := lt_of_block hT.st
  have lt0 : w.heap.size < w1.heap.size := by omega
  have hlook : ∀ X, (Instr.lookup 59 (.map (some mb)) (.int .u8 43) false).run Try.prog (((w1.setCell ⟨w.heap.size + 1, who * 7 + 5, none⟩ (.int .u8 (σ (who * 7 + 5) - 1))).setCell ⟨w.heap.size + 1, who * 7 + 4, none⟩ (.int .u8 (σ (who * 7 + 4) + 1))).alloc X) = .ok (.func (.func 42) #[] #[]) (((w1.setCell ⟨w.heap.size + 1, who * 7 + 5, none⟩ (.int .u8 (σ (who * 7 + 5) - 1))).setCell ⟨w.heap.size + 1, who * 7 + 4, none⟩ (.int .u8 (σ (who * 7 + 4) + 1))).alloc X) :=
    fun X => run_look (j := 1) (hT.two X who).2.2.1 rfl
  have HT : Hid _ := hT
  clear hg hT HN2 HMB
  go_wp2_with (first | (refine wpList_load_row rfl 72 (.tmp 4) rfl (w.heap.size + 1) ?_ 72 (cst (pre σ who)) (0, 0) _ ?_ Try.underlying72 rfl (info_state _) ?_; rfl; exact (HT.out.two _ who).1) | (go_at_call 42; go_must (refine Calls.mono (HD.out _) ?_; rintro e w2 ⟨rfl, hg2⟩; have HA : Hid _ := HT.out.after hg2; clear hg2)) | (refine wpList_store_row rfl 72 (.tmp 6) (.tmp 38) rfl (w.heap.size + 1 + 1) (cst τ) ?_ ?_ 72 _ HA.out.1 (info_state _) ?_ (cst_oneCell _) ?_; rfl; rfl; (rw [cst_size]; rfl)))
  refine bodyPost_ret (v := .agg (cst τ)) (results_cell_row Try.results34 _ _ (w.heap.size + 1 + 1) 72 _ (0, 0) _ rfl (setRow_heap _ _ _ _ 72 (0, 0) HA.out.1) Try.underlying72 rfl (info_state _)) rfl ⟨rfl, ?_⟩
  exact grownBy_setRow HA.out.2 (by omega) _

end Go.Proofs.Ytifidfgihpkgcaa

set_option linter.unusedSimpArgs false
set_option linter.unusedVariables false
namespace Go.Proofs.Ytifidfgihpkgcaa
open Go.RowKit Wv

set_option maxHeartbeats 1000000 in
set_option maxRecDepth 100000 in
theorem turn_45 (s : ByteArray) (L : List (List Nat)) (σ τ : Nat → Int) (who base B : Nat) (tv : Value) (mb : Nat) (vs : List Value) (w : World) (hM : OwnT w base 89 102 7 (ccells s) B tv vs L)
    (hmb : w.heap[mb]? = some (.map deedEntries 10)) (hw3 : who < 3) (hw : who < L.length) (hn : σ (who * 7 + 4) = (nx σ who : Int)) (hk : nx σ who < L[who].length) (h8 : L[who].length ≤ 8)
    (f0 : 1 ≤ σ (who * 7 + 5)) (f1 : σ (who * 7 + 5) ≤ 9) (hc : pk s (stp L σ who) = 45)
    (hdeed : ∀ W, Calls Try.prog 43 #[.agg (cst (pre σ who)), .int .i64 (who : Int), .agg (ccells s (stp L σ who)).toArray] W fun e w' => e = .returned (.agg (cst τ)) ∧ W.grownBy w' none) :
    Calls Try.prog 34 #[.agg #[tv, .map (some mb)], .agg (cst σ), .int .i64 (who : Int)] w fun e w' =>
      e = .returned (.agg (cst τ)) ∧ w.grownBy w' none := by
  have HN : Hid (∀ A C D, Calls Try.prog 53 #[.agg #[tv, .map (some mb)], .agg (cst σ), .int .i64 (who : Int)] (((w.alloc A).alloc C).alloc D) fun e w' => e = .returned (.agg (ccells s (stp L σ who)).toArray) ∧ (((w.alloc A).alloc C).alloc D).grownBy w' none) :=
    fun A C D => nextStep_any s L σ who base B tv _ vs _ (hM.kept (grown3 w A C D) (Classical.em _) (by simp)) rfl hw3 hw hn hk h8
  obtain ⟨ao, cap, rfl⟩ := ownsRow_slice hM.out
  have hn4 : 0 ≤ σ (who * 7 + 4) ∧ σ (who * 7 + 4) ≤ 7 := by omega
  clear hM hn hk h8
  generalize stp L σ who = x at *
  obtain ⟨y1, y2, y3, y4, y5, y6, hcc⟩ : ∃ y1 y2 y3 y4 y5 y6, ccells s x = [.int .u8 45, .int .u8 y1, .int .u8 y2, .int .u8 y3, .int .u8 y4, .int .u8 y5, .int .i64 y6] := ⟨_, _, _, _, _, _, by unfold ccells; rw [hc]⟩
  rw [hcc] at hdeed
  have HD : Hid _ := hdeed
  have HN2 : Hid (∀ A C D, Calls Try.prog 53 #[.agg #[.slice ao L.length cap, .map (some mb)], .agg (cst σ), .int .i64 (who : Int)] (((w.alloc A).alloc C).alloc D) fun e w' => e = .returned (.agg #[.int .u8 45, .int .u8 y1, .int .u8 y2, .int .u8 y3, .int .u8 y4, .int .u8 y5, .int .i64 y6]) ∧ (((w.alloc A).alloc C).alloc D).grownBy w' none) := by
    have := HN.out
    rw [hcc] at this
    exact this
  clear HN hcc hdeed hc
  have g5 := cst_get σ (who * 7 + 5) (by omega)
  have g4 := cst_get σ (who * 7 + 4) (by omega)
  have HMB : Hid _ := hmb
  clear hmb
  go_enter Try.func34, Try.ntmps34
  go_wp2_with (refine wpList_load_row rfl 72 (.tmp 4) rfl (w.heap.size + 1) ?_ 72 (cst σ) (0, 0) _ ?_ Try.underlying72 rfl (info_state _) ?_; rfl; exact (heap3 _ _ _ _).2.1)
  refine Calls.mono (HN2.out _ _ _) ?_
  rintro e w1 ⟨rfl, hg⟩
  have hT := TurnAt.mk' HMB.out hg
  obtain ⟨m0, m1, mf⟩ := blk2 hT.m
  have c5 := cell_of_row w1 (w.heap.size + 1) (who * 7 + 5) _ _ _ hT.st
  have c4 := cell_of_row w1 (w.heap.size + 1) (who * 7 + 4) _ _ _ hT.st
  rw [g5] at c5
  rw [g4] at c4
  have fz := fun o => frozen_of_row w1 (w.heap.size + 1) o _ _ hT.st
  have lt1 : w.heap.size + 1 < w1.heap.size := lt_of_block hT.st
  have lt0 : w.heap.size < w1.heap.size := by omega
  have hlook : ∀ X, (Instr.lookup 59 (.map (some mb)) (.int .u8 45) false).run Try.prog (((w1.setCell ⟨w.heap.size + 1, who * 7 + 5, none⟩ (.int .u8 (σ (who * 7 + 5) - 1))).setCell ⟨w.heap.size + 1, who * 7 + 4, none⟩ (.int .u8 (σ (who * 7 + 4) + 1))).alloc X) = .ok (.func (.func 43) #[] #[]) (((w1.setCell ⟨w.heap.size + 1, who * 7 + 5, none⟩ (.int .u8 (σ (who * 7 + 5) - 1))).setCell ⟨w.heap.size + 1, who * 7 + 4, none⟩ (.int .u8 (σ (who * 7 + 4) + 1))).alloc X) :=
    fun X => run_look (j := 2) (hT.two X who).2.2.1 rfl
  have HT : Hid _ := hT
  clear hg hT HN2 HMB
  go_wp2_with (first | (refine wpList_load_row rfl 72 (.tmp 4) rfl (w.heap.size + 1) ?_ 72 (cst (pre σ who)) (0, 0) _ ?_ Try.underlying72 rfl (info_state _) ?_; rfl; exact (HT.out.two _ who).1) | (go_at_call 43; go_must (refine Calls.mono (HD.out _) ?_; rintro e w2 ⟨rfl, hg2⟩; have HA : Hid _ := HT.out.after hg2; clear hg2)) | (refine wpList_store_row rfl 72 (.tmp 6) (.tmp 38) rfl (w.heap.size + 1 + 1) (cst τ) ?_ ?_ 72 _ HA.out.1 (info_state _) ?_ (cst_oneCell _) ?_; rfl; rfl; (rw [cst_size]; rfl)))
  refine bodyPost_ret (v := .agg (cst τ)) (results_cell_row Try.results34 _ _ (w.heap.size + 1 + 1) 72 _ (0, 0) _ rfl (setRow_heap _ _ _ _ 72 (0, 0) HA.out.1) Try.underlying72 rfl (info_state _)) rfl ⟨rfl, ?_⟩
  exact grownBy_setRow HA.out.2 (by omega) _

end Go.Proofs.Ytifidfgihpkgcaa

set_option linter.unusedSimpArgs false
set_option linter.unusedVariables false
namespace Go.Proofs.Ytifidfgihpkgcaa
open Go.RowKit Wv

set_option maxHeartbeats 1000000 in
set_option maxRecDepth 100000 in
theorem turn_114 (s : ByteArray) (L : List (List Nat)) (σ τ : Nat → Int) (who base B : Nat) (tv : Value) (mb : Nat) (vs : List Value) (w : World) (hM : OwnT w base 89 102 7 (ccells s) B tv vs L)
    (hmb : w.heap[mb]? = some (.map deedEntries 10)) (hw3 : who < 3) (hw : who < L.length) (hn : σ (who * 7 + 4) = (nx σ who : Int)) (hk : nx σ who < L[who].length) (h8 : L[who].length ≤ 8)
    (f0 : 1 ≤ σ (who * 7 + 5)) (f1 : σ (who * 7 + 5) ≤ 9) (hc : pk s (stp L σ who) = 114)
    (hdeed : ∀ W, Calls Try.prog 44 #[.agg (cst (pre σ who)), .int .i64 (who : Int), .agg (ccells s (stp L σ who)).toArray] W fun e w' => e = .returned (.agg (cst τ)) ∧ W.grownBy w' none) :
    Calls Try.prog 34 #[.agg #[tv, .map (some mb)], .agg (cst σ), .int .i64 (who : Int)] w fun e w' =>
      e = .returned (.agg (cst τ)) ∧ w.grownBy w' none := by
  have HN : Hid (∀ A C D, Calls Try.prog 53 #[.agg #[tv, .map (some mb)], .agg (cst σ), .int .i64 (who : Int)] (((w.alloc A).alloc C).alloc D) fun e w' => e = .returned (.agg (ccells s (stp L σ who)).toArray) ∧ (((w.alloc A).alloc C).alloc D).grownBy w' none) :=
    fun A C D => nextStep_any s L σ who base B tv _ vs _ (hM.kept (grown3 w A C D) (Classical.em _) (by simp)) rfl hw3 hw hn hk h8
  obtain ⟨ao, cap, rfl⟩ := ownsRow_slice hM.out
  have hn4 : 0 ≤ σ (who * 7 + 4) ∧ σ (who * 7 + 4) ≤ 7 := by omega
  clear hM hn hk h8
  generalize stp L σ who = x at *
  obtain ⟨y1, y2, y3, y4, y5, y6, hcc⟩ : ∃ y1 y2 y3 y4 y5 y6, ccells s x = [.int .u8 114, .int .u8 y1, .int .u8 y2, .int .u8 y3, .int .u8 y4, .int .u8 y5, .int .i64 y6] := ⟨_, _, _, _, _, _, by unfold ccells; rw [hc]⟩
  rw [hcc] at hdeed
  have HD : Hid _ := hdeed
  have HN2 : Hid (∀ A C D, Calls Try.prog 53 #[.agg #[.slice ao L.length cap, .map (some mb)], .agg (cst σ), .int .i64 (who : Int)] (((w.alloc A).alloc C).alloc D) fun e w' => e = .returned (.agg #[.int .u8 114, .int .u8 y1, .int .u8 y2, .int .u8 y3, .int .u8 y4, .int .u8 y5, .int .i64 y6]) ∧ (((w.alloc A).alloc C).alloc D).grownBy w' none) := by
    have := HN.out
    rw [hcc] at this
    exact this
  clear HN hcc hdeed hc
  have g5 := cst_get σ (who * 7 + 5) (by omega)
  have g4 := cst_get σ (who * 7 + 4) (by omega)
  have HMB : Hid _ := hmb
  clear hmb
  go_enter Try.func34, Try.ntmps34
  go_wp2_with (refine wpList_load_row rfl 72 (.tmp 4) rfl (w.heap.size + 1) ?_ 72 (cst σ) (0, 0) _ ?_ Try.underlying72 rfl (info_state _) ?_; rfl; exact (heap3 _ _ _ _).2.1)
  refine Calls.mono (HN2.out _ _ _) ?_
  rintro e w1 ⟨rfl, hg⟩
  have hT := TurnAt.mk' HMB.out hg
  obtain ⟨m0, m1, mf⟩ := blk2 hT.m
  have c5 := cell_of_row w1 (w.heap.size + 1) (who * 7 + 5) _ _ _ hT.st
  have c4 := cell_of_row w1 (w.heap.size + 1) (who * 7 + 4) _ _ _ hT.st
  rw [g5] at c5
  rw [g4] at c4
  have fz := fun o => frozen_of_row w1 (w.heap.size + 1) o _ _ hT.st
  have lt1 : w.heap.size + 1 < w1.heap.size := lt_of_block hT.st
  have lt0 : w.heap.size < w1.heap.size := by omega
  have hlook : ∀ X, (Instr.lookup 59 (.map (some mb)) (.int .u8 114) false).run Try.prog (((w1.setCell ⟨w.heap.size + 1, who * 7 + 5, none⟩ (.int .u8 (σ (who * 7 + 5) - 1))).setCell ⟨w.heap.size + 1, who * 7 + 4, none⟩ (.int .u8 (σ (who * 7 + 4) + 1))).alloc X) = .ok (.func (.func 44) #[] #[]) (((w1.setCell ⟨w.heap.size + 1, who * 7 + 5, none⟩ (.int .u8 (σ (who * 7 + 5) - 1))).setCell ⟨w.heap.size + 1, who * 7 + 4, none⟩ (.int .u8 (σ (who * 7 + 4) + 1))).alloc X) :=
    fun X => run_look (j := 3) (hT.two X who).2.2.1 rfl
  have HT : Hid _ := hT
  clear hg hT HN2 HMB
  go_wp2_with (first | (refine wpList_load_row rfl 72 (.tmp 4) rfl (w.heap.size + 1) ?_ 72 (cst (pre σ who)) (0, 0) _ ?_ Try.underlying72 rfl (info_state _) ?_; rfl; exact (HT.out.two _ who).1) | (go_at_call 44; go_must (refine Calls.mono (HD.out _) ?_; rintro e w2 ⟨rfl, hg2⟩; have HA : Hid _ := HT.out.after hg2; clear hg2)) | (refine wpList_store_row rfl 72 (.tmp 6) (.tmp 38) rfl (w.heap.size + 1 + 1) (cst τ) ?_ ?_ 72 _ HA.out.1 (info_state _) ?_ (cst_oneCell _) ?_; rfl; rfl; (rw [cst_size]; rfl)))
  refine bodyPost_ret (v := .agg (cst τ)) (results_cell_row Try.results34 _ _ (w.heap.size + 1 + 1) 72 _ (0, 0) _ rfl (setRow_heap _ _ _ _ 72 (0, 0) HA.out.1) Try.underlying72 rfl (info_state _)) rfl ⟨rfl, ?_⟩
  exact grownBy_setRow HA.out.2 (by omega) _

end Go.Proofs.Ytifidfgihpkgcaa

set_option linter.unusedSimpArgs false
set_option linter.unusedVariables false
namespace Go.Proofs.Ytifidfgihpkgcaa
open Go.RowKit Wv

set_option maxHeartbeats 1000000 in
set_option maxRecDepth 100000 in
theorem turn_119 (s : ByteArray) (L : List (List Nat)) (σ τ : Nat → Int) (who base B : Nat) (tv : Value) (mb : Nat) (vs : List Value) (w : World) (hM : OwnT w base 89 102 7 (ccells s) B tv vs L)
    (hmb : w.heap[mb]? = some (.map deedEntries 10)) (hw3 : who < 3) (hw : who < L.length) (hn : σ (who * 7 + 4) = (nx σ who : Int)) (hk : nx σ who < L[who].length) (h8 : L[who].length ≤ 8)
    (f0 : 1 ≤ σ (who * 7 + 5)) (f1 : σ (who * 7 + 5) ≤ 9) (hc : pk s (stp L σ who) = 119)
    (hdeed : ∀ W, Calls Try.prog 45 #[.agg (cst (pre σ who)), .int .i64 (who : Int), .agg (ccells s (stp L σ who)).toArray] W fun e w' => e = .returned (.agg (cst τ)) ∧ W.grownBy w' none) :
    Calls Try.prog 34 #[.agg #[tv, .map (some mb)], .agg (cst σ), .int .i64 (who : Int)] w fun e w' =>
      e = .returned (.agg (cst τ)) ∧ w.grownBy w' none := by
  have HN : Hid (∀ A C D, Calls Try.prog 53 #[.agg #[tv, .map (some mb)], .agg (cst σ), .int .i64 (who : Int)] (((w.alloc A).alloc C).alloc D) fun e w' => e = .returned (.agg (ccells s (stp L σ who)).toArray) ∧ (((w.alloc A).alloc C).alloc D).grownBy w' none) :=
    fun A C D => nextStep_any s L σ who base B tv _ vs _ (hM.kept (grown3 w A C D) (Classical.em _) (by simp)) rfl hw3 hw hn hk h8
  obtain ⟨ao, cap, rfl⟩ := ownsRow_slice hM.out
  have hn4 : 0 ≤ σ (who * 7 + 4) ∧ σ (who * 7 + 4) ≤ 7 := by omega
  clear hM hn hk h8
  generalize stp L σ who = x at *
  obtain ⟨y1, y2, y3, y4, y5, y6, hcc⟩ : ∃ y1 y2 y3 y4 y5 y6, ccells s x = [.int .u8 119, .int .u8 y1, .int .u8 y2, .int .u8 y3, .int .u8 y4, .int .u8 y5, .int .i64 y6] := ⟨_, _, _, _, _, _, by unfold ccells; rw [hc]⟩
  rw [hcc] at hdeed
  have HD : Hid _ := hdeed
  have HN2 : Hid (∀ A C D, Calls Try.prog 53 #[.agg #[.slice ao L.length cap, .map (some mb)], .agg (cst σ), .int .i64 (who : Int)] (((w.alloc A).alloc C).alloc D) fun e w' => e = .returned (.agg #[.int .u8 119, .int .u8 y1, .int .u8 y2, .int .u8 y3, .int .u8 y4, .int .u8 y5, .int .i64 y6]) ∧ (((w.alloc A).alloc C).alloc D).grownBy w' none) := by
    have := HN.out
    rw [hcc] at this
    exact this
  clear HN hcc hdeed hc
  have g5 := cst_get σ (who * 7 + 5) (by omega)
  have g4 := cst_get σ (who * 7 + 4) (by omega)
  have HMB : Hid _ := hmb
  clear hmb
  go_enter Try.func34, Try.ntmps34
  go_wp2_with (refine wpList_load_row rfl 72 (.tmp 4) rfl (w.heap.size + 1) ?_ 72 (cst σ) (0, 0) _ ?_ Try.underlying72 rfl (info_state _) ?_; rfl; exact (heap3 _ _ _ _).2.1)
  refine Calls.mono (HN2.out _ _ _) ?_
  rintro e w1 ⟨rfl, hg⟩
  have hT := TurnAt.mk' HMB.out hg
  obtain ⟨m0, m1, mf⟩ := blk2 hT.m
  have c5 := cell_of_row w1 (w.heap.size + 1) (who * 7 + 5) _ _ _ hT.st
  have c4 := cell_of_row w1 (w.heap.size + 1) (who * 7 + 4) _ _ _ hT.st
  rw [g5] at c5
  rw [g4] at c4
  have fz := fun o => frozen_of_row w1 (w.heap.size + 1) o _ _ hT.st
  have lt1 : w.heap.size + 1 < w1.heap.size := lt_of_block hT.st
  have lt0 : w.heap.size < w1.heap.size := by omega
  have hlook : ∀ X, (Instr.lookup 59 (.map (some mb)) (.int .u8 119) false).run Try.prog (((w1.setCell ⟨w.heap.size + 1, who * 7 + 5, none⟩ (.int .u8 (σ (who * 7 + 5) - 1))).setCell ⟨w.heap.size + 1, who * 7 + 4, none⟩ (.int .u8 (σ (who * 7 + 4) + 1))).alloc X) = .ok (.func (.func 45) #[] #[]) (((w1.setCell ⟨w.heap.size + 1, who * 7 + 5, none⟩ (.int .u8 (σ (who * 7 + 5) - 1))).setCell ⟨w.heap.size + 1, who * 7 + 4, none⟩ (.int .u8 (σ (who * 7 + 4) + 1))).alloc X) :=
    fun X => run_look (j := 4) (hT.two X who).2.2.1 rfl
  have HT : Hid _ := hT
  clear hg hT HN2 HMB
  go_wp2_with (first | (refine wpList_load_row rfl 72 (.tmp 4) rfl (w.heap.size + 1) ?_ 72 (cst (pre σ who)) (0, 0) _ ?_ Try.underlying72 rfl (info_state _) ?_; rfl; exact (HT.out.two _ who).1) | (go_at_call 45; go_must (refine Calls.mono (HD.out _) ?_; rintro e w2 ⟨rfl, hg2⟩; have HA : Hid _ := HT.out.after hg2; clear hg2)) | (refine wpList_store_row rfl 72 (.tmp 6) (.tmp 38) rfl (w.heap.size + 1 + 1) (cst τ) ?_ ?_ 72 _ HA.out.1 (info_state _) ?_ (cst_oneCell _) ?_; rfl; rfl; (rw [cst_size]; rfl)))
  refine bodyPost_ret (v := .agg (cst τ)) (results_cell_row Try.results34 _ _ (w.heap.size + 1 + 1) 72 _ (0, 0) _ rfl (setRow_heap _ _ _ _ 72 (0, 0) HA.out.1) Try.underlying72 rfl (info_state _)) rfl ⟨rfl, ?_⟩
  exact grownBy_setRow HA.out.2 (by omega) _

end Go.Proofs.Ytifidfgihpkgcaa

set_option linter.unusedSimpArgs false
set_option linter.unusedVariables false
namespace Go.Proofs.Ytifidfgihpkgcaa
open Go.RowKit Wv

set_option maxHeartbeats 1000000 in
set_option maxRecDepth 100000 in
theorem turn_108 (s : ByteArray) (L : List (List Nat)) (σ τ : Nat → Int) (who base B : Nat) (tv : Value) (mb : Nat) (vs : List Value) (w : World) (hM : OwnT w base 89 102 7 (ccells s) B tv vs L)
    (hmb : w.heap[mb]? = some (.map deedEntries 10)) (hw3 : who < 3) (hw : who < L.length) (hn : σ (who * 7 + 4) = (nx σ who : Int)) (hk : nx σ who < L[who].length) (h8 : L[who].length ≤ 8)
    (f0 : 1 ≤ σ (who * 7 + 5)) (f1 : σ (who * 7 + 5) ≤ 9) (hc : pk s (stp L σ who) = 108)
    (hdeed : ∀ W, Calls Try.prog 46 #[.agg (cst (pre σ who)), .int .i64 (who : Int), .agg (ccells s (stp L σ who)).toArray] W fun e w' => e = .returned (.agg (cst τ)) ∧ W.grownBy w' none) :
    Calls Try.prog 34 #[.agg #[tv, .map (some mb)], .agg (cst σ), .int .i64 (who : Int)] w fun e w' =>
      e = .returned (.agg (cst τ)) ∧ w.grownBy w' none := by
  have HN : Hid (∀ A C D, Calls Try.prog 53 #[.agg #[tv, .map (some mb)], .agg (cst σ), .int .i64 (who : Int)] (((w.alloc A).alloc C).alloc D) fun e w' => e = .returned (.agg (ccells s (stp L σ who)).toArray) ∧ (((w.alloc A).alloc C).alloc D).grownBy w' none) :=
    fun A C D => nextStep_any s L σ who base B tv _ vs _ (hM.kept (grown3 w A C D) (Classical.em _) (by simp)) rfl hw3 hw hn hk h8
  obtain ⟨ao, cap, rfl⟩ := ownsRow_slice hM.out
  have hn4 : 0 ≤ σ (who * 7 + 4) ∧ σ (who * 7 + 4) ≤ 7 := by omega
  clear hM hn hk h8
  generalize stp L σ who = x at *
  obtain ⟨y1, y2, y3, y4, y5, y6, hcc⟩ : ∃ y1 y2 y3 y4 y5 y6, ccells s x = [.int .u8 108, .int .u8 y1, .int .u8 y2, .int .u8 y3, .int .u8 y4, .int .u8 y5, .int .i64 y6] := ⟨_, _, _, _, _, _, by unfold ccells; rw [hc]⟩
  rw [hcc] at hdeed
  have HD : Hid _ := hdeed
  have HN2 : Hid (∀ A C D, Calls Try.prog 53 #[.agg #[.slice ao L.length cap, .map (some mb)], .agg (cst σ), .int .i64 (who : Int)] (((w.alloc A).alloc C).alloc D) fun e w' => e = .returned (.agg #[.int .u8 108, .int .u8 y1, .int .u8 y2, .int .u8 y3, .int .u8 y4, .int .u8 y5, .int .i64 y6]) ∧ (((w.alloc A).alloc C).alloc D).grownBy w' none) := by
    have := HN.out
    rw [hcc] at this
    exact this
  clear HN hcc hdeed hc
  have g5 := cst_get σ (who * 7 + 5) (by omega)
  have g4 := cst_get σ (who * 7 + 4) (by omega)
  have HMB : Hid _ := hmb
  clear hmb
  go_enter Try.func34, Try.ntmps34
  go_wp2_with (refine wpList_load_row rfl 72 (.tmp 4) rfl (w.heap.size + 1) ?_ 72 (cst σ) (0, 0) _ ?_ Try.underlying72 rfl (info_state _) ?_; rfl; exact (heap3 _ _ _ _).2.1)
  refine Calls.mono (HN2.out _ _ _) ?_
  rintro e w1 ⟨rfl, hg⟩
  have hT := TurnAt.mk' HMB.out hg
  obtain ⟨m0, m1, mf⟩ := blk2 hT.m
  have c5 := cell_of_row w1 (w.heap.size + 1) (who * 7 + 5) _ _ _ hT.st
  have c4 := cell_of_row w1 (w.heap.size + 1) (who * 7 + 4) _ _ _ hT.st
  rw [g5] at c5
  rw [g4] at c4
  have fz := fun o => frozen_of_row w1 (w.heap.size + 1) o _ _ hT.st
  have lt1 : w.heap.size + 1 < w1.heap.size := lt_of_block hT.st
  have lt0 : w.heap.size < w1.heap.size := by omega
  have hlook : ∀ X, (Instr.lookup 59 (.map (some mb)) (.int .u8 108) false).run Try.prog (((w1.setCell ⟨w.heap.size + 1, who * 7 + 5, none⟩ (.int .u8 (σ (who * 7 + 5) - 1))).setCell ⟨w.heap.size + 1, who * 7 + 4, none⟩ (.int .u8 (σ (who * 7 + 4) + 1))).alloc X) = .ok (.func (.func 46) #[] #[]) (((w1.setCell ⟨w.heap.size + 1, who * 7 + 5, none⟩ (.int .u8 (σ (who * 7 + 5) - 1))).setCell ⟨w.heap.size + 1, who * 7 + 4, none⟩ (.int .u8 (σ (who * 7 + 4) + 1))).alloc X) :=
    fun X => run_look (j := 5) (hT.two X who).2.2.1 rfl
  have HT : Hid _ := hT
  clear hg hT HN2 HMB
  go_wp2_with (first | (refine wpList_load_row rfl 72 (.tmp 4) rfl (w.heap.size + 1) ?_ 72 (cst (pre σ who)) (0, 0) _ ?_ Try.underlying72 rfl (info_state _) ?_; rfl; exact (HT.out.two _ who).1) | (go_at_call 46; go_must (refine Calls.mono (HD.out _) ?_; rintro e w2 ⟨rfl, hg2⟩; have HA : Hid _ := HT.out.after hg2; clear hg2)) | (refine wpList_store_row rfl 72 (.tmp 6) (.tmp 38) rfl (w.heap.size + 1 + 1) (cst τ) ?_ ?_ 72 _ HA.out.1 (info_state _) ?_ (cst_oneCell _) ?_; rfl; rfl; (rw [cst_size]; rfl)))
  refine bodyPost_ret (v := .agg (cst τ)) (results_cell_row Try.results34 _ _ (w.heap.size + 1 + 1) 72 _ (0, 0) _ rfl (setRow_heap _ _ _ _ 72 (0, 0) HA.out.1) Try.underlying72 rfl (info_state _)) rfl ⟨rfl, ?_⟩
  exact grownBy_setRow HA.out.2 (by omega) _

end Go.Proofs.Ytifidfgihpkgcaa

set_option linter.unusedSimpArgs false
set_option linter.unusedVariables false
namespace Go.Proofs.Ytifidfgihpkgcaa
open Go.RowKit Wv

set_option maxHeartbeats 1000000 in
set_option maxRecDepth 100000 in
theorem turn_117 (s : ByteArray) (L : List (List Nat)) (σ τ : Nat → Int) (who base B : Nat) (tv : Value) (mb : Nat) (vs : List Value) (w : World) (hM : OwnT w base 89 102 7 (ccells s) B tv vs L)
    (hmb : w.heap[mb]? = some (.map deedEntries 10)) (hw3 : who < 3) (hw : who < L.length) (hn : σ (who * 7 + 4) = (nx σ who : Int)) (hk : nx σ who < L[who].length) (h8 : L[who].length ≤ 8)
    (f0 : 1 ≤ σ (who * 7 + 5)) (f1 : σ (who * 7 + 5) ≤ 9) (hc : pk s (stp L σ who) = 117)
    (hdeed : ∀ W, Calls Try.prog 47 #[.agg (cst (pre σ who)), .int .i64 (who : Int), .agg (ccells s (stp L σ who)).toArray] W fun e w' => e = .returned (.agg (cst τ)) ∧ W.grownBy w' none) :
    Calls Try.prog 34 #[.agg #[tv, .map (some mb)], .agg (cst σ), .int .i64 (who : Int)] w fun e w' =>
      e = .returned (.agg (cst τ)) ∧ w.grownBy w' none := by
  have HN : Hid (∀ A C D, Calls Try.prog 53 #[.agg #[tv, .map (some mb)], .agg (cst σ), .int .i64 (who : Int)] (((w.alloc A).alloc C).alloc D) fun e w' => e = .returned (.agg (ccells s (stp L σ who)).toArray) ∧ (((w.alloc A).alloc C).alloc D).grownBy w' none) :=
    fun A C D => nextStep_any s L σ who base B tv _ vs _ (hM.kept (grown3 w A C D) (Classical.em _) (by simp)) rfl hw3 hw hn hk h8
  obtain ⟨ao, cap, rfl⟩ := ownsRow_slice hM.out
  have hn4 : 0 ≤ σ (who * 7 + 4) ∧ σ (who * 7 + 4) ≤ 7 := by omega
  clear hM hn hk h8
  generalize stp L σ who = x at *
  obtain ⟨y1, y2, y3, y4, y5, y6, hcc⟩ : ∃ y1 y2 y3 y4 y5 y6, ccells s x = [.int .u8 117, .int .u8 y1, .int .u8 y2, .int .u8 y3, .int .u8 y4, .int .u8 y5, .int .i64 y6] := ⟨_, _, _, _, _, _, by unfold ccells; rw [hc]⟩
  rw [hcc] at hdeed
  have HD : Hid _ := hdeed
  have HN2 : Hid (∀ A C D, Calls Try.prog 53 #[.agg #[.slice ao L.length cap, .map (some mb)], .agg (cst σ), .int .i64 (who : Int)] (((w.alloc A).alloc C).alloc D) fun e w' => e = .returned (.agg #[.int .u8 117, .int .u8 y1, .int .u8 y2, .int .u8 y3, .int .u8 y4, .int .u8 y5, .int .i64 y6]) ∧ (((w.alloc A).alloc C).alloc D).grownBy w' none) := by
    have := HN.out
    rw [hcc] at this
    exact this
  clear HN hcc hdeed hc
  have g5 := cst_get σ (who * 7 + 5) (by omega)
  have g4 := cst_get σ (who * 7 + 4) (by omega)
  have HMB : Hid _ := hmb
  clear hmb
  go_enter Try.func34, Try.ntmps34
  go_wp2_with (refine wpList_load_row rfl 72 (.tmp 4) rfl (w.heap.size + 1) ?_ 72 (cst σ) (0, 0) _ ?_ Try.underlying72 rfl (info_state _) ?_; rfl; exact (heap3 _ _ _ _).2.1)
  refine Calls.mono (HN2.out _ _ _) ?_
  rintro e w1 ⟨rfl, hg⟩
  have hT := TurnAt.mk' HMB.out hg
  obtain ⟨m0, m1, mf⟩ := blk2 hT.m
  have c5 := cell_of_row w1 (w.heap.size + 1) (who * 7 + 5) _ _ _ hT.st
  have c4 := cell_of_row w1 (w.heap.size + 1) (who * 7 + 4) _ _ _ hT.st
  rw [g5] at c5
  rw [g4] at c4
  have fz := fun o => frozen_of_row w1 (w.heap.size + 1) o _ _ hT.st
  have lt1 : w.heap.size + 1 < w1.heap.size := lt_of_block hT.st
  have lt0 : w.heap.size < w1.heap.size := by omega
  have hlook : ∀ X, (Instr.lookup 59 (.map (some mb)) (.int .u8 117) false).run Try.prog (((w1.setCell ⟨w.heap.size + 1, who * 7 + 5, none⟩ (.int .u8 (σ (who * 7 + 5) - 1))).setCell ⟨w.heap.size + 1, who * 7 + 4, none⟩ (.int .u8 (σ (who * 7 + 4) + 1))).alloc X) = .ok (.func (.func 47) #[] #[]) (((w1.setCell ⟨w.heap.size + 1, who * 7 + 5, none⟩ (.int .u8 (σ (who * 7 + 5) - 1))).setCell ⟨w.heap.size + 1, who * 7 + 4, none⟩ (.int .u8 (σ (who * 7 + 4) + 1))).alloc X) :=
    fun X => run_look (j := 6) (hT.two X who).2.2.1 rfl
  have HT : Hid _ := hT
  clear hg hT HN2 HMB
  go_wp2_with (first | (refine wpList_load_row rfl 72 (.tmp 4) rfl (w.heap.size + 1) ?_ 72 (cst (pre σ who)) (0, 0) _ ?_ Try.underlying72 rfl (info_state _) ?_; rfl; exact (HT.out.two _ who).1) | (go_at_call 47; go_must (refine Calls.mono (HD.out _) ?_; rintro e w2 ⟨rfl, hg2⟩; have HA : Hid _ := HT.out.after hg2; clear hg2)) | (refine wpList_store_row rfl 72 (.tmp 6) (.tmp 38) rfl (w.heap.size + 1 + 1) (cst τ) ?_ ?_ 72 _ HA.out.1 (info_state _) ?_ (cst_oneCell _) ?_; rfl; rfl; (rw [cst_size]; rfl)))
  refine bodyPost_ret (v := .agg (cst τ)) (results_cell_row Try.results34 _ _ (w.heap.size + 1 + 1) 72 _ (0, 0) _ rfl (setRow_heap _ _ _ _ 72 (0, 0) HA.out.1) Try.underlying72 rfl (info_state _)) rfl ⟨rfl, ?_⟩
  exact grownBy_setRow HA.out.2 (by omega) _

end Go.Proofs.Ytifidfgihpkgcaa

set_option linter.unusedSimpArgs false
set_option linter.unusedVariables false
namespace Go.Proofs.Ytifidfgihpkgcaa
open Go.RowKit Wv

set_option maxHeartbeats 1000000 in
set_option maxRecDepth 100000 in
theorem turn_106 (s : ByteArray) (L : List (List Nat)) (σ τ : Nat → Int) (who base B : Nat) (tv : Value) (mb : Nat) (vs : List Value) (w : World) (hM : OwnT w base 89 102 7 (ccells s) B tv vs L)
    (hmb : w.heap[mb]? = some (.map deedEntries 10)) (hw3 : who < 3) (hw : who < L.length) (hn : σ (who * 7 + 4) = (nx σ who : Int)) (hk : nx σ who < L[who].length) (h8 : L[who].length ≤ 8)
    (f0 : 1 ≤ σ (who * 7 + 5)) (f1 : σ (who * 7 + 5) ≤ 9) (hc : pk s (stp L σ who) = 106)
    (hdeed : ∀ W, Calls Try.prog 49 #[.agg (cst (pre σ who)), .int .i64 (who : Int), .agg (ccells s (stp L σ who)).toArray] W fun e w' => e = .returned (.agg (cst τ)) ∧ W.grownBy w' none) :
    Calls Try.prog 34 #[.agg #[tv, .map (some mb)], .agg (cst σ), .int .i64 (who : Int)] w fun e w' =>
      e = .returned (.agg (cst τ)) ∧ w.grownBy w' none := by
  have HN : Hid (∀ A C D, Calls Try.prog 53 #[.agg #[tv, .map (some mb)], .agg (cst σ), .int .i64 (who : Int)] (((w.alloc A).alloc C).alloc D) fun e w' => e = .returned (.agg (ccells s (stp L σ who)).toArray) ∧ (((w.alloc A).alloc C).alloc D).grownBy w' none) :=
    fun A C D => nextStep_any s L σ who base B tv _ vs _ (hM.kept (grown3 w A C D) (Classical.em _) (by simp)) rfl hw3 hw hn hk h8
  obtain ⟨ao, cap, rfl⟩ := ownsRow_slice hM.out
  have hn4 : 0 ≤ σ (who * 7 + 4) ∧ σ (who * 7 + 4) ≤ 7 := by omega
  clear hM hn hk h8
  generalize stp L σ who = x at *
  obtain ⟨y1, y2, y3, y4, y5, y6, hcc⟩ : ∃ y1 y2 y3 y4 y5 y6, ccells s x = [.int .u8 106, .int .u8 y1, .int .u8 y2, .int .u8 y3, .int .u8 y4, .int .u8 y5, .int .i64 y6] := ⟨_, _, _, _, _, _, by unfold ccells; rw [hc]⟩
  rw [hcc] at hdeed
  have HD : Hid _ := hdeed
  have HN2 : Hid (∀ A C D, Calls Try.prog 53 #[.agg #[.slice ao L.length cap, .map (some mb)], .agg (cst σ), .int .i64 (who : Int)] (((w.alloc A).alloc C).alloc D) fun e w' => e = .returned (.agg #[.int .u8 106, .int .u8 y1, .int .u8 y2, .int .u8 y3, .int .u8 y4, .int .u8 y5, .int .i64 y6]) ∧ (((w.alloc A).alloc C).alloc D).grownBy w' none) := by
    have := HN.out
    rw [hcc] at this
    exact this
  clear HN hcc hdeed hc
  have g5 := cst_get σ (who * 7 + 5) (by omega)
  have g4 := cst_get σ (who * 7 + 4) (by omega)
  have HMB : Hid _ := hmb
  clear hmb
  go_enter Try.func34, Try.ntmps34
  go_wp2_with (refine wpList_load_row rfl 72 (.tmp 4) rfl (w.heap.size + 1) ?_ 72 (cst σ) (0, 0) _ ?_ Try.underlying72 rfl (info_state _) ?_; rfl; exact (heap3 _ _ _ _).2.1)
  refine Calls.mono (HN2.out _ _ _) ?_
  rintro e w1 ⟨rfl, hg⟩
  have hT := TurnAt.mk' HMB.out hg
  obtain ⟨m0, m1, mf⟩ := blk2 hT.m
  have c5 := cell_of_row w1 (w.heap.size + 1) (who * 7 + 5) _ _ _ hT.st
  have c4 := cell_of_row w1 (w.heap.size + 1) (who * 7 + 4) _ _ _ hT.st
  rw [g5] at c5
  rw [g4] at c4
  have fz := fun o => frozen_of_row w1 (w.heap.size + 1) o _ _ hT.st
  have lt1 : w.heap.size + 1 < w1.heap.size := lt_of_block hT.st
  have lt0 : w.heap.size < w1.heap.size := by omega
  have hlook : ∀ X, (Instr.lookup 59 (.map (some mb)) (.int .u8 106) false).run Try.prog (((w1.setCell ⟨w.heap.size + 1, who * 7 + 5, none⟩ (.int .u8 (σ (who * 7 + 5) - 1))).setCell ⟨w.heap.size + 1, who * 7 + 4, none⟩ (.int .u8 (σ (who * 7 + 4) + 1))).alloc X) = .ok (.func (.func 49) #[] #[]) (((w1.setCell ⟨w.heap.size + 1, who * 7 + 5, none⟩ (.int .u8 (σ (who * 7 + 5) - 1))).setCell ⟨w.heap.size + 1, who * 7 + 4, none⟩ (.int .u8 (σ (who * 7 + 4) + 1))).alloc X) :=
    fun X => run_look (j := 8) (hT.two X who).2.2.1 rfl
  have HT : Hid _ := hT
  clear hg hT HN2 HMB
  go_wp2_with (first | (refine wpList_load_row rfl 72 (.tmp 4) rfl (w.heap.size + 1) ?_ 72 (cst (pre σ who)) (0, 0) _ ?_ Try.underlying72 rfl (info_state _) ?_; rfl; exact (HT.out.two _ who).1) | (go_at_call 49; go_must (refine Calls.mono (HD.out _) ?_; rintro e w2 ⟨rfl, hg2⟩; have HA : Hid _ := HT.out.after hg2; clear hg2)) | (refine wpList_store_row rfl 72 (.tmp 6) (.tmp 38) rfl (w.heap.size + 1 + 1) (cst τ) ?_ ?_ 72 _ HA.out.1 (info_state _) ?_ (cst_oneCell _) ?_; rfl; rfl; (rw [cst_size]; rfl)))
  refine bodyPost_ret (v := .agg (cst τ)) (results_cell_row Try.results34 _ _ (w.heap.size + 1 + 1) 72 _ (0, 0) _ rfl (setRow_heap _ _ _ _ 72 (0, 0) HA.out.1) Try.underlying72 rfl (info_state _)) rfl ⟨rfl, ?_⟩
  exact grownBy_setRow HA.out.2 (by omega) _

end Go.Proofs.Ytifidfgihpkgcaa

set_option linter.unusedSimpArgs false
set_option linter.unusedVariables false
namespace Go.Proofs.Ytifidfgihpkgcaa
open Go.RowKit Wv

set_option maxHeartbeats 1000000 in
set_option maxRecDepth 100000 in
theorem turn_33 (s : ByteArray) (L : List (List Nat)) (σ τ : Nat → Int) (who base B : Nat) (tv : Value) (mb : Nat) (vs : List Value) (w : World) (hM : OwnT w base 89 102 7 (ccells s) B tv vs L)
    (hmb : w.heap[mb]? = some (.map deedEntries 10)) (hw3 : who < 3) (hw : who < L.length) (hn : σ (who * 7 + 4) = (nx σ who : Int)) (hk : nx σ who < L[who].length) (h8 : L[who].length ≤ 8)
    (f0 : 1 ≤ σ (who * 7 + 5)) (f1 : σ (who * 7 + 5) ≤ 9) (hc : pk s (stp L σ who) = 33)
    (hdeed : ∀ W, Calls Try.prog 50 #[.agg (cst (pre σ who)), .int .i64 (who : Int), .agg (ccells s (stp L σ who)).toArray] W fun e w' => e = .returned (.agg (cst τ)) ∧ W.grownBy w' none) :
    Calls Try.prog 34 #[.agg #[tv, .map (some mb)], .agg (cst σ), .int .i64 (who : Int)] w fun e w' =>
      e = .returned (.agg (cst τ)) ∧ w.grownBy w' none := by
  have HN : Hid (∀ A C D, Calls Try.prog 53 #[.agg #[tv, .map (some mb)], .agg (cst σ), .int .i64 (who : Int)] (((w.alloc A).alloc C).alloc D) fun e w' => e = .returned (.agg (ccells s (stp L σ who)).toArray) ∧ (((w.alloc A).alloc C).alloc D).grownBy w' none) :=
    fun A C D => nextStep_any s L σ who base B tv _ vs _ (hM.kept (grown3 w A C D) (Classical.em _) (by simp)) rfl hw3 hw hn hk h8
  obtain ⟨ao, cap, rfl⟩ := ownsRow_slice hM.out
  have hn4 : 0 ≤ σ (who * 7 + 4) ∧ σ (who * 7 + 4) ≤ 7 := by omega
  clear hM hn hk h8
  generalize stp L σ who = x at *
  obtain ⟨y1, y2, y3, y4, y5, y6, hcc⟩ : ∃ y1 y2 y3 y4 y5 y6, ccells s x = [.int .u8 33, .int .u8 y1, .int .u8 y2, .int .u8 y3, .int .u8 y4, .int .u8 y5, .int .i64 y6] := ⟨_, _, _, _, _, _, by unfold ccells; rw [hc]⟩
  rw [hcc] at hdeed
  have HD : Hid _ := hdeed
  have HN2 : Hid (∀ A C D, Calls Try.prog 53 #[.agg #[.slice ao L.length cap, .map (some mb)], .agg (cst σ), .int .i64 (who : Int)] (((w.alloc A).alloc C).alloc D) fun e w' => e = .returned (.agg #[.int .u8 33, .int .u8 y1, .int .u8 y2, .int .u8 y3, .int .u8 y4, .int .u8 y5, .int .i64 y6]) ∧ (((w.alloc A).alloc C).alloc D).grownBy w' none) := by
    have := HN.out
    rw [hcc] at this
    exact this
  clear HN hcc hdeed hc
  have g5 := cst_get σ (who * 7 + 5) (by omega)
  have g4 := cst_get σ (who * 7 + 4) (by omega)
  have HMB : Hid _ := hmb
  clear hmb
  go_enter Try.func34, Try.ntmps34
  go_wp2_with (refine wpList_load_row rfl 72 (.tmp 4) rfl (w.heap.size + 1) ?_ 72 (cst σ) (0, 0) _ ?_ Try.underlying72 rfl (info_state _) ?_; rfl; exact (heap3 _ _ _ _).2.1)
  refine Calls.mono (HN2.out _ _ _) ?_
  rintro e w1 ⟨rfl, hg⟩
  have hT := TurnAt.mk' HMB.out hg
  obtain ⟨m0, m1, mf⟩ := blk2 hT.m
  have c5 := cell_of_row w1 (w.heap.size + 1) (who * 7 + 5) _ _ _ hT.st
  have c4 := cell_of_row w1 (w.heap.size + 1) (who * 7 + 4) _ _ _ hT.st
  rw [g5] at c5
  rw [g4] at c4
  have fz := fun o => frozen_of_row w1 (w.heap.size + 1) o _ _ hT.st
  have lt1 : w.heap.size + 1 < w1.heap.size := lt_of_block hT.st
  have lt0 : w.heap.size < w1.heap.size := by omega
  have hlook : ∀ X, (Instr.lookup 59 (.map (some mb)) (.int .u8 33) false).run Try.prog (((w1.setCell ⟨w.heap.size + 1, who * 7 + 5, none⟩ (.int .u8 (σ (who * 7 + 5) - 1))).setCell ⟨w.heap.size + 1, who * 7 + 4, none⟩ (.int .u8 (σ (who * 7 + 4) + 1))).alloc X) = .ok (.func (.func 50) #[] #[]) (((w1.setCell ⟨w.heap.size + 1, who * 7 + 5, none⟩ (.int .u8 (σ (who * 7 + 5) - 1))).setCell ⟨w.heap.size + 1, who * 7 + 4, none⟩ (.int .u8 (σ (who * 7 + 4) + 1))).alloc X) :=
    fun X => run_look (j := 9) (hT.two X who).2.2.1 rfl
  have HT : Hid _ := hT
  clear hg hT HN2 HMB
  go_wp2_with (first | (refine wpList_load_row rfl 72 (.tmp 4) rfl (w.heap.size + 1) ?_ 72 (cst (pre σ who)) (0, 0) _ ?_ Try.underlying72 rfl (info_state _) ?_; rfl; exact (HT.out.two _ who).1) | (go_at_call 50; go_must (refine Calls.mono (HD.out _) ?_; rintro e w2 ⟨rfl, hg2⟩; have HA : Hid _ := HT.out.after hg2; clear hg2)) | (refine wpList_store_row rfl 72 (.tmp 6) (.tmp 38) rfl (w.heap.size + 1 + 1) (cst τ) ?_ ?_ 72 _ HA.out.1 (info_state _) ?_ (cst_oneCell _) ?_; rfl; rfl; (rw [cst_size]; rfl)))
  refine bodyPost_ret (v := .agg (cst τ)) (results_cell_row Try.results34 _ _ (w.heap.size + 1 + 1) 72 _ (0, 0) _ rfl (setRow_heap _ _ _ _ 72 (0, 0) HA.out.1) Try.underlying72 rfl (info_state _)) rfl ⟨rfl, ?_⟩
  exact grownBy_setRow HA.out.2 (by omega) _

end Go.Proofs.Ytifidfgihpkgcaa

set_option linter.unusedSimpArgs false
set_option linter.unusedVariables false
namespace Go.Proofs.Ytifidfgihpkgcaa
open Go.RowKit Wv

theorem pre_other (σ : Nat → Int) (who j : Nat) (h1 : j ≠ who * 7 + 5) (h2 : j ≠ who * 7 + 4) : pre σ who j = σ j := by
  unfold pre; rw [upd_other _ _ h2, upd_other _ _ h1]
theorem pre_next (σ : Nat → Int) (who : Nat) : pre σ who (who * 7 + 4) = σ (who * 7 + 4) + 1 := by unfold pre; rw [upd_same]

/-- What may be asked of a thread that may go on. -/
theorem may_out {s : ByteArray} {L : List (List Nat)} {σ : Nat → Int} {who : Nat} (hG : StOk L σ) (hw3 : who < 3) (hw : who < L.length) (h : mayB s L σ who = true) :
    nx σ who < L[who].length ∧ 1 ≤ σ (who * 7 + 5) ∧ σ (who * 7 + 6) = 0 ∧ waitsB s L σ who = false := by
  unfold mayB at h
  rw [thOf_in hw, hG.nx hw3] at h
  simp at h
  obtain ⟨⟨⟨h1, h2⟩, h3⟩, h4⟩ := h
  have := hG.nxt who hw
  rw [thOf_in hw, hG.nx hw3] at this
  exact ⟨by omega, by omega, h1, h4⟩

theorem turn_any (s : ByteArray) (L : List (List Nat)) (σ : Nat → Int) (who base B : Nat) (tv : Value) (mb : Nat) (vs : List Value) (w : World) (hM : OwnT w base 89 102 7 (ccells s) B tv vs L) (hmb : w.heap[mb]? = some (.map deedEntries 10)) (hw3 : who < 3) (hw : who < L.length) (hG : StOk L σ) (h8 : L[who].length ≤ 8) (hgood : ∀ x ∈ L[who], stepBad s x = none) (hmay : mayB s L σ who = true) :
    Calls Try.prog 34 #[.agg #[tv, .map (some mb)], .agg (cst σ), .int .i64 (who : Int)] w fun e w' => e = .returned (.agg (cst (turnF s L σ who))) ∧ w.grownBy w' none := by
  obtain ⟨hk, hf1, hfate, _⟩ := may_out hG hw3 hw hmay
  have hn := hG.nx hw3
  have hfu := hG.inv (who * 7 + 5) (by omega)
  have hsb : stepBad s (stp L σ who) = none := by rw [stp_in hw hk]; exact hgood _ (List.getElem_mem _)
  have hb4 : 1 ≤ pre σ who (who * 7 + 4) ∧ pre σ who (who * 7 + 4) ≤ 9 := by rw [pre_next]; omega
  have hinv : ∀ j, j < 26 → j ≠ who * 7 + 5 → j ≠ who * 7 + 4 → 0 ≤ pre σ who j ∧ pre σ who j ≤ 9 := fun j hj h1 h2 => by rw [pre_other _ _ _ h1 h2]; exact hG.inv j hj
  unfold turnF
  rcases sign_of hsb with hc | hc | hc | hc | hc | hc | hc | hc | hc | hc
  · obtain ⟨a, b, ha, hb, hA, hB, hcc⟩ := fields_61 hsb hc
    have eA : (stepA s (stp L σ who)).toNat = a := by omega
    have eB : (stepB s (stp L σ who)).toNat = b := by omega
    have he : eff s (stp L σ who) (pre σ who) who = upd (pre σ who) (who * 7 + a) (b : Int) := by
      simp only [eff, hc, eA, eB]
      simp []
    rw [he]
    refine turn_61 s L σ _ who base B tv mb vs w hM hmb hw3 hw hn hk h8 hf1 hfu.2 hc (fun W => ?_)
    rw [hcc]
    exact set_any (pre σ who) who a b _ _ _ _ _ W hw3 ha (by omega)
  · obtain ⟨a, b, ha, hb, hA, hB, hcc⟩ := fields_122 hsb hc
    have eA : (stepA s (stp L σ who)).toNat = a := by omega
    have eB : (stepB s (stp L σ who)).toNat = b := by omega
    by_cases ho : pre σ who (who * 7 + a) = 0
    · have he : eff s (stp L σ who) (pre σ who) who = upd (pre σ who) (who * 7 + 4) (b : Int) := by
        simp only [eff, hc, eA, eB]
        simp [ho]
      rw [he]
      refine turn_122 s L σ _ who base B tv mb vs w hM hmb hw3 hw hn hk h8 hf1 hfu.2 hc (fun W => ?_)
      rw [hcc]
      exact goIfZero_yes (pre σ who) who a b _ _ _ _ _ ha (by omega) (by simp [ho]) W hw3
    · have he : eff s (stp L σ who) (pre σ who) who = pre σ who := by
        simp only [eff, hc, eA, eB]
        simp [ho]
      rw [he]
      refine turn_122 s L σ _ who base B tv mb vs w hM hmb hw3 hw hn hk h8 hf1 hfu.2 hc (fun W => ?_)
      rw [hcc]
      exact goIfZero_no (pre σ who) who a b _ _ _ _ _ ha (by omega) (by simpa using ho) W hw3
  · obtain ⟨a, b, ha, hb, hA, hB, hcc⟩ := fields_43 hsb hc
    have eA : (stepA s (stp L σ who)).toNat = a := by omega
    have eB : (stepB s (stp L σ who)).toNat = b := by omega
    have he : eff s (stp L σ who) (pre σ who) who = upd (pre σ who) (who * 7 + a) ((pre σ who (who * 7 + a) + pre σ who (who * 7 + b)) % 10) := by
      simp only [eff, hc, eA, eB]
      simp []
    rw [he]
    have i1 := hinv (who * 7 + a) (by omega) (by omega) (by omega)
    have i2 := hinv (who * 7 + b) (by omega) (by omega) (by omega)
    refine turn_43 s L σ _ who base B tv mb vs w hM hmb hw3 hw hn hk h8 hf1 hfu.2 hc (fun W => ?_)
    rw [hcc]
    exact add_any (pre σ who) who a b _ _ _ _ _ ha hb i1.1 i1.2 i2.1 i2.2 W hw3
  · obtain ⟨a, b, ha, hb, hA, hB, hcc⟩ := fields_45 hsb hc
    have eA : (stepA s (stp L σ who)).toNat = a := by omega
    have eB : (stepB s (stp L σ who)).toNat = b := by omega
    have he : eff s (stp L σ who) (pre σ who) who = upd (pre σ who) (who * 7 + a) ((pre σ who (who * 7 + a) + 10 - pre σ who (who * 7 + b)) % 10) := by
      simp only [eff, hc, eA, eB]
      simp []
    rw [he]
    have i1 := hinv (who * 7 + a) (by omega) (by omega) (by omega)
    have i2 := hinv (who * 7 + b) (by omega) (by omega) (by omega)
    refine turn_45 s L σ _ who base B tv mb vs w hM hmb hw3 hw hn hk h8 hf1 hfu.2 hc (fun W => ?_)
    rw [hcc]
    exact subtract_any (pre σ who) who a b _ _ _ _ _ ha hb i1.1 i1.2 i2.1 i2.2 W hw3
  · obtain ⟨a, b, ha, hb, hA, hB, hcc⟩ := fields_114 hsb hc
    have eA : (stepA s (stp L σ who)).toNat = a := by omega
    have eB : (stepB s (stp L σ who)).toNat = b := by omega
    have he : eff s (stp L σ who) (pre σ who) who = upd (pre σ who) (who * 7 + a) (pre σ who (21 + b)) := by
      simp only [eff, hc, eA, eB]
      simp []
    rw [he]
    refine turn_114 s L σ _ who base B tv mb vs w hM hmb hw3 hw hn hk h8 hf1 hfu.2 hc (fun W => ?_)
    rw [hcc]
    exact readCell_any (pre σ who) who a b _ _ _ _ _ ha hb W hw3
  · obtain ⟨a, b, ha, hb, hA, hB, hcc⟩ := fields_119 hsb hc
    have eA : (stepA s (stp L σ who)).toNat = a := by omega
    have eB : (stepB s (stp L σ who)).toNat = b := by omega
    have he : eff s (stp L σ who) (pre σ who) who = upd (pre σ who) (21 + a) (pre σ who (who * 7 + b)) := by
      simp only [eff, hc, eA, eB]
      simp []
    rw [he]
    refine turn_119 s L σ _ who base B tv mb vs w hM hmb hw3 hw hn hk h8 hf1 hfu.2 hc (fun W => ?_)
    rw [hcc]
    exact writeCell_any (pre σ who) who b a _ _ _ _ _ hb ha W hw3
  · obtain ⟨a, ha, hA, hcc⟩ := fields_108 hsb hc
    have eA : (stepA s (stp L σ who)).toNat = a := by omega
    have he : eff s (stp L σ who) (pre σ who) who = upd (pre σ who) (24 + a) ((who : Int) + 1) := by
      simp only [eff, hc, eA]
      simp []
    rw [he]
    refine turn_108 s L σ _ who base B tv mb vs w hM hmb hw3 hw hn hk h8 hf1 hfu.2 hc (fun W => ?_)
    rw [hcc]
    exact takeLock_any (pre σ who) who a _ _ _ _ _ _ ha W hw3
  · obtain ⟨a, ha, hA, hcc⟩ := fields_117 hsb hc
    have eA : (stepA s (stp L σ who)).toNat = a := by omega
    by_cases ho : pre σ who (24 + a) = (who : Int) + 1
    · have he : eff s (stp L σ who) (pre σ who) who = upd (pre σ who) (24 + a) 0 := by
        simp only [eff, hc, eA]
        simp [ho]
      rw [he]
      refine turn_117 s L σ _ who base B tv mb vs w hM hmb hw3 hw hn hk h8 hf1 hfu.2 hc (fun W => ?_)
      rw [hcc]
      exact letLockGo_yes (pre σ who) who a _ _ _ _ _ _ ha (by simp [ho]) W hw3
    · have he : eff s (stp L σ who) (pre σ who) who = stopF (pre σ who) who ((1 : Nat) : Int) := by
        simp only [eff, hc, eA]
        simp [ho]
      rw [he]
      refine turn_117 s L σ _ who base B tv mb vs w hM hmb hw3 hw hn hk h8 hf1 hfu.2 hc (fun W => ?_)
      rw [hcc]
      exact letLockGo_no (pre σ who) who a _ _ _ _ _ _ ha (by simpa using ho) hb4.1 hb4.2 W hw3
  · obtain ⟨a, ha, hA, hcc⟩ := fields_106 hsb hc
    have eA : (stepA s (stp L σ who)).toNat = a := by omega
    have he : eff s (stp L σ who) (pre σ who) who = upd (pre σ who) (who * 7 + 4) (a : Int) := by
      simp only [eff, hc, eA]
      simp []
    rw [he]
    refine turn_106 s L σ _ who base B tv mb vs w hM hmb hw3 hw hn hk h8 hf1 hfu.2 hc (fun W => ?_)
    rw [hcc]
    exact goTo_any (pre σ who) who a _ _ _ _ _ _ (by omega) W hw3
  · obtain ⟨a, ha, hA, hcc⟩ := fields_33 hsb hc
    have eA : (stepA s (stp L σ who)).toNat = a := by omega
    by_cases ho : pre σ who (who * 7 + a) = 0
    · have he : eff s (stp L σ who) (pre σ who) who = stopF (pre σ who) who ((2 : Nat) : Int) := by
        simp only [eff, hc, eA]
        simp [ho]
      rw [he]
      refine turn_33 s L σ _ who base B tv mb vs w hM hmb hw3 hw hn hk h8 hf1 hfu.2 hc (fun W => ?_)
      rw [hcc]
      exact claim_yes (pre σ who) who a _ _ _ _ _ _ ha (by simp [ho]) hb4.1 hb4.2 W hw3
    · have he : eff s (stp L σ who) (pre σ who) who = pre σ who := by
        simp only [eff, hc, eA]
        simp [ho]
      rw [he]
      refine turn_33 s L σ _ who base B tv mb vs w hM hmb hw3 hw hn hk h8 hf1 hfu.2 hc (fun W => ?_)
      rw [hcc]
      exact claim_no (pre σ who) who a _ _ _ _ _ _ ha (by simpa using ho) W hw3

end Go.Proofs.Ytifidfgihpkgcaa

