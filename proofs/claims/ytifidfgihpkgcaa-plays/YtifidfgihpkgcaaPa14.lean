import Derived.Test.YtifidfgihpkgcaaPa13
import Derived.BigQuiet
import Derived.Deep.RegionWith
set_option linter.unusedSimpArgs false
set_option linter.unusedVariables false
namespace Go.Proofs.Ytifidfgihpkgcaa
open Go.RowKit Wv

set_option maxHeartbeats 400000 in
theorem owner_any (who : Nat) (w : World) (hw : who < 3) : Calls Try.prog 63 #[.int .i64 (who : Int)] w fun e w' => e = .returned (.int .u8 ((who : Int) + 1)) ∧ w' = w := by
  go_enter Try.func63, Try.ntmps63
  go_wp2
  go_ret
  exact ⟨rfl, rfl⟩

set_option maxHeartbeats 1000000 in
set_option maxRecDepth 100000 in
theorem readCell_any (σ : Nat → Int) (who : Nat) (a c : Nat) (x0 x2 x4 x5 x6 : Int) (ha : a < 4) (hc : c < 3) (w : World) (hw : who < 3) :
    Calls Try.prog 44 #[.agg (cst σ), .int .i64 (who : Int), .agg #[.int .u8 x0, .int .u8 (a : Int), .int .u8 x2, .int .u8 (c : Int), .int .u8 x4, .int .u8 x5, .int .i64 x6]] w fun e w' =>
      e = .returned (.agg (cst (upd σ (who * 7 + a) (σ (21 + c))))) ∧ w.grownBy w' none := by
  have g0 := cst_get σ (who * 7 + a) (by omega)
  have g1 := cst_get σ (21 + c) (by omega)
  go_enter Try.func44, Try.ntmps44
  go_wp2_with fail
  go_region
  all_goals
    go_wp2_with (first | (refine wpList_load_row rfl 72 (.tmp 3) rfl w.heap.size rfl 72 (cst (upd σ (who * 7 + a) (σ (21 + c)))) (0, 0) _ (by rw [← cst_set]; exact (heap3 _ _ _ _).1) Try.underlying72 rfl (info_state _) ?_) | (refine wpList_store_row rfl 72 (.tmp 6) (.tmp 19) rfl (w.heap.size + 1 + 1) (cst (upd σ (who * 7 + a) (σ (21 + c)))) rfl rfl 72 _ (heap3 _ _ _ _).2.2 (info_state _) (by rw [cst_size]; rfl) (cst_oneCell _) ?_))
    refine bodyPost_ret (v := .agg (cst (upd σ (who * 7 + a) (σ (21 + c))))) (results_cell_row Try.results44 _ _ (w.heap.size + 1 + 1) 72 _ (0, 0) _ rfl (setRow_heap _ _ _ _ 72 (0, 0) (heap3 _ _ _ _).2.2) Try.underlying72 rfl (info_state _)) rfl ⟨rfl, ?_⟩
    first | exact grownBy_setRow (grown_drew (grown3 _ _ _ _)) (by omega) _ | exact grownBy_setRow (grown3 _ _ _ _) (by omega) _

set_option maxHeartbeats 1000000 in
set_option maxRecDepth 100000 in
theorem writeCell_any (σ : Nat → Int) (who : Nat) (a c : Nat) (x0 x2 x4 x5 x6 : Int) (ha : a < 4) (hc : c < 3) (w : World) (hw : who < 3) :
    Calls Try.prog 45 #[.agg (cst σ), .int .i64 (who : Int), .agg #[.int .u8 x0, .int .u8 (a : Int), .int .u8 x2, .int .u8 (c : Int), .int .u8 x4, .int .u8 x5, .int .i64 x6]] w fun e w' =>
      e = .returned (.agg (cst (upd σ (21 + c) (σ (who * 7 + a))))) ∧ w.grownBy w' none := by
  have g0 := cst_get σ (who * 7 + a) (by omega)
  have g1 := cst_get σ (21 + c) (by omega)
  go_enter Try.func45, Try.ntmps45
  go_wp2_with fail
  go_region
  all_goals
    go_wp2_with (first | (refine wpList_load_row rfl 72 (.tmp 3) rfl w.heap.size rfl 72 (cst (upd σ (21 + c) (σ (who * 7 + a)))) (0, 0) _ (by rw [← cst_set]; exact (heap3 _ _ _ _).1) Try.underlying72 rfl (info_state _) ?_) | (refine wpList_store_row rfl 72 (.tmp 6) (.tmp 19) rfl (w.heap.size + 1 + 1) (cst (upd σ (21 + c) (σ (who * 7 + a)))) rfl rfl 72 _ (heap3 _ _ _ _).2.2 (info_state _) (by rw [cst_size]; rfl) (cst_oneCell _) ?_))
    refine bodyPost_ret (v := .agg (cst (upd σ (21 + c) (σ (who * 7 + a))))) (results_cell_row Try.results45 _ _ (w.heap.size + 1 + 1) 72 _ (0, 0) _ rfl (setRow_heap _ _ _ _ 72 (0, 0) (heap3 _ _ _ _).2.2) Try.underlying72 rfl (info_state _)) rfl ⟨rfl, ?_⟩
    first | exact grownBy_setRow (grown_drew (grown3 _ _ _ _)) (by omega) _ | exact grownBy_setRow (grown3 _ _ _ _) (by omega) _

set_option maxHeartbeats 1000000 in
set_option maxRecDepth 100000 in
theorem goTo_any (σ : Nat → Int) (who : Nat) (d : Nat) (x0 x1 x2 x3 x4 x6 : Int) (hd : d ≤ 9) (w : World) (hw : who < 3) :
    Calls Try.prog 49 #[.agg (cst σ), .int .i64 (who : Int), .agg #[.int .u8 x0, .int .u8 x1, .int .u8 x2, .int .u8 x3, .int .u8 x4, .int .u8 (d : Int), .int .i64 x6]] w fun e w' =>
      e = .returned (.agg (cst (upd σ (who * 7 + 4) d))) ∧ w.grownBy w' none := by
  have g0 := cst_get σ (who * 7 + 4) (by omega)
  go_enter Try.func49, Try.ntmps49
  all_goals
    go_wp2_with (first | (refine wpList_load_row rfl 72 (.tmp 3) rfl w.heap.size rfl 72 (cst (upd σ (who * 7 + 4) d)) (0, 0) _ (by rw [← cst_set]; exact (heap3 _ _ _ _).1) Try.underlying72 rfl (info_state _) ?_) | (refine wpList_store_row rfl 72 (.tmp 6) (.tmp 13) rfl (w.heap.size + 1 + 1) (cst (upd σ (who * 7 + 4) d)) rfl rfl 72 _ (heap3 _ _ _ _).2.2 (info_state _) (by rw [cst_size]; rfl) (cst_oneCell _) ?_))
    refine bodyPost_ret (v := .agg (cst (upd σ (who * 7 + 4) d))) (results_cell_row Try.results49 _ _ (w.heap.size + 1 + 1) 72 _ (0, 0) _ rfl (setRow_heap _ _ _ _ 72 (0, 0) (heap3 _ _ _ _).2.2) Try.underlying72 rfl (info_state _)) rfl ⟨rfl, ?_⟩
    first | exact grownBy_setRow (grown_drew (grown3 _ _ _ _)) (by omega) _ | exact grownBy_setRow (grown3 _ _ _ _) (by omega) _

set_option maxHeartbeats 1000000 in
set_option maxRecDepth 100000 in
theorem add_any (σ : Nat → Int) (who : Nat) (a b : Nat) (x0 x3 x4 x5 x6 : Int) (ha : a < 4) (hb : b < 4) (b0 : 0 ≤ σ (who * 7 + a)) (b1 : σ (who * 7 + a) ≤ 9) (b2 : 0 ≤ σ (who * 7 + b)) (b3 : σ (who * 7 + b) ≤ 9) (w : World) (hw : who < 3) :
    Calls Try.prog 42 #[.agg (cst σ), .int .i64 (who : Int), .agg #[.int .u8 x0, .int .u8 (a : Int), .int .u8 (b : Int), .int .u8 x3, .int .u8 x4, .int .u8 x5, .int .i64 x6]] w fun e w' =>
      e = .returned (.agg (cst (upd σ (who * 7 + a) ((σ (who * 7 + a) + σ (who * 7 + b)) % 10)))) ∧ w.grownBy w' none := by
  have g0 := cst_get σ (who * 7 + a) (by omega)
  have g1 := cst_get σ (who * 7 + b) (by omega)
  go_enter Try.func42, Try.ntmps42
  go_wp2_with fail
  go_region
  all_goals
    go_wp2_with (first | (refine wpList_load_row rfl 72 (.tmp 3) rfl w.heap.size rfl 72 (cst (upd σ (who * 7 + a) ((σ (who * 7 + a) + σ (who * 7 + b)) % 10))) (0, 0) _ (by rw [← cst_set]; exact (heap3 _ _ _ _).1) Try.underlying72 rfl (info_state _) ?_) | (refine wpList_store_row rfl 72 (.tmp 6) (.tmp 31) rfl (w.heap.size + 1 + 1) (cst (upd σ (who * 7 + a) ((σ (who * 7 + a) + σ (who * 7 + b)) % 10))) rfl rfl 72 _ (heap3 _ _ _ _).2.2 (info_state _) (by rw [cst_size]; rfl) (cst_oneCell _) ?_))
    refine bodyPost_ret (v := .agg (cst (upd σ (who * 7 + a) ((σ (who * 7 + a) + σ (who * 7 + b)) % 10)))) (results_cell_row Try.results42 _ _ (w.heap.size + 1 + 1) 72 _ (0, 0) _ rfl (setRow_heap _ _ _ _ 72 (0, 0) (heap3 _ _ _ _).2.2) Try.underlying72 rfl (info_state _)) rfl ⟨rfl, ?_⟩
    first | exact grownBy_setRow (grown_drew (grown3 _ _ _ _)) (by omega) _ | exact grownBy_setRow (grown3 _ _ _ _) (by omega) _

set_option maxHeartbeats 1000000 in
set_option maxRecDepth 100000 in
theorem subtract_any (σ : Nat → Int) (who : Nat) (a b : Nat) (x0 x3 x4 x5 x6 : Int) (ha : a < 4) (hb : b < 4) (b0 : 0 ≤ σ (who * 7 + a)) (b1 : σ (who * 7 + a) ≤ 9) (b2 : 0 ≤ σ (who * 7 + b)) (b3 : σ (who * 7 + b) ≤ 9) (w : World) (hw : who < 3) :
    Calls Try.prog 43 #[.agg (cst σ), .int .i64 (who : Int), .agg #[.int .u8 x0, .int .u8 (a : Int), .int .u8 (b : Int), .int .u8 x3, .int .u8 x4, .int .u8 x5, .int .i64 x6]] w fun e w' =>
      e = .returned (.agg (cst (upd σ (who * 7 + a) ((σ (who * 7 + a) + 10 - σ (who * 7 + b)) % 10)))) ∧ w.grownBy w' none := by
  have g0 := cst_get σ (who * 7 + a) (by omega)
  have g1 := cst_get σ (who * 7 + b) (by omega)
  go_enter Try.func43, Try.ntmps43
  go_wp2_with fail
  go_region
  all_goals
    go_wp2_with (first | (refine wpList_load_row rfl 72 (.tmp 3) rfl w.heap.size rfl 72 (cst (upd σ (who * 7 + a) ((σ (who * 7 + a) + 10 - σ (who * 7 + b)) % 10))) (0, 0) _ (by rw [← cst_set]; exact (heap3 _ _ _ _).1) Try.underlying72 rfl (info_state _) ?_) | (refine wpList_store_row rfl 72 (.tmp 6) (.tmp 32) rfl (w.heap.size + 1 + 1) (cst (upd σ (who * 7 + a) ((σ (who * 7 + a) + 10 - σ (who * 7 + b)) % 10))) rfl rfl 72 _ (heap3 _ _ _ _).2.2 (info_state _) (by rw [cst_size]; rfl) (cst_oneCell _) ?_))
    refine bodyPost_ret (v := .agg (cst (upd σ (who * 7 + a) ((σ (who * 7 + a) + 10 - σ (who * 7 + b)) % 10)))) (results_cell_row Try.results43 _ _ (w.heap.size + 1 + 1) 72 _ (0, 0) _ rfl (setRow_heap _ _ _ _ 72 (0, 0) (heap3 _ _ _ _).2.2) Try.underlying72 rfl (info_state _)) rfl ⟨rfl, ?_⟩
    first | exact grownBy_setRow (grown_drew (grown3 _ _ _ _)) (by omega) _ | exact grownBy_setRow (grown3 _ _ _ _) (by omega) _

set_option maxHeartbeats 1000000 in
set_option maxRecDepth 100000 in
theorem takeLock_any (σ : Nat → Int) (who : Nat) (k : Nat) (x0 x1 x2 x3 x5 x6 : Int) (hk : k < 2) (w : World) (hw : who < 3) :
    Calls Try.prog 46 #[.agg (cst σ), .int .i64 (who : Int), .agg #[.int .u8 x0, .int .u8 x1, .int .u8 x2, .int .u8 x3, .int .u8 (k : Int), .int .u8 x5, .int .i64 x6]] w fun e w' =>
      e = .returned (.agg (cst (upd σ (24 + k) ((who : Int) + 1)))) ∧ w.grownBy w' none := by
  have g0 := cst_get σ (24 + k) (by omega)
  go_enter Try.func46, Try.ntmps46
  go_wp2_with fail
  go_region_with (go_at_call 63; refine Calls.mono (owner_any who _ hw) ?_; rintro e w5 ⟨rfl, rfl⟩)
  all_goals
    go_wp2_with (first | (refine wpList_load_row rfl 72 (.tmp 3) rfl w.heap.size rfl 72 (cst (upd σ (24 + k) ((who : Int) + 1))) (0, 0) _ (by rw [← cst_set]; exact (heap3 _ _ _ _).1) Try.underlying72 rfl (info_state _) ?_) | (refine wpList_store_row rfl 72 (.tmp 6) (.tmp 13) rfl (w.heap.size + 1 + 1) (cst (upd σ (24 + k) ((who : Int) + 1))) rfl rfl 72 _ (heap3 _ _ _ _).2.2 (info_state _) (by rw [cst_size]; rfl) (cst_oneCell _) ?_))
    refine bodyPost_ret (v := .agg (cst (upd σ (24 + k) ((who : Int) + 1)))) (results_cell_row Try.results46 _ _ (w.heap.size + 1 + 1) 72 _ (0, 0) _ rfl (setRow_heap _ _ _ _ 72 (0, 0) (heap3 _ _ _ _).2.2) Try.underlying72 rfl (info_state _)) rfl ⟨rfl, ?_⟩
    first | exact grownBy_setRow (grown_drew (grown3 _ _ _ _)) (by omega) _ | exact grownBy_setRow (grown3 _ _ _ _) (by omega) _

theorem heap2 (w : World) (A B : Obj) : ((w.alloc A).alloc B).heap[w.heap.size]? = some A ∧ ((w.alloc A).alloc B).heap[w.heap.size + 1]? = some B := by
  have h1 : (w.alloc A).heap.size = w.heap.size + 1 := by simp
  refine ⟨?_, ?_⟩
  · rw [heap_alloc_old _ _ (by omega)]; exact heap_alloc_new _ _
  · rw [← h1]; exact heap_alloc_new _ _
theorem grown2 (w : World) (A B : Obj) : w.grownBy ((w.alloc A).alloc B) none := grownBy_trans (World.grownBy_alloc w A none) (World.grownBy_alloc _ B none)

set_option maxHeartbeats 1000000 in
set_option maxRecDepth 100000 in
theorem stop_any (σ : Nat → Int) (who f : Nat) (w : World) (hw : who < 3) (hf : f ≤ 2) (b0 : 1 ≤ σ (who * 7 + 4)) (b1 : σ (who * 7 + 4) ≤ 9) :
    Calls Try.prog 64 #[.agg (cst σ), .int .i64 (who : Int), .int .u8 (f : Int)] w fun e w' =>
      e = .returned (.agg (cst (upd (upd σ (who * 7 + 6) f) (who * 7 + 4) (σ (who * 7 + 4) - 1)))) ∧ w.grownBy w' none := by
  have g0 := cst_get σ (who * 7 + 6) (by omega)
  have g1 : ((cst σ).setIfInBounds (who * 7 + 6) (.int .u8 (f : Int)))[who * 7 + 4]? = some (.int .u8 (σ (who * 7 + 4))) := by
    rw [cst_set, cst_get _ _ (by omega), upd_other _ _ (by omega)]
  go_enter Try.func64, Try.ntmps64
  go_wp2_with (first | (refine wpList_load_row rfl 72 (.tmp 3) rfl w.heap.size rfl 72 (cst (upd (upd σ (who * 7 + 6) f) (who * 7 + 4) (σ (who * 7 + 4) - 1))) (0, 0) _ (by rw [← cst_set, ← cst_set]; exact (heap2 _ _ _).1) Try.underlying72 rfl (info_state _) ?_) | (refine wpList_store_row rfl 72 (.tmp 6) (.tmp 21) rfl (w.heap.size + 1) (cst (upd (upd σ (who * 7 + 6) f) (who * 7 + 4) (σ (who * 7 + 4) - 1))) rfl rfl 72 _ (heap2 _ _ _).2 (info_state _) (by rw [cst_size]; rfl) (cst_oneCell _) ?_))
  refine bodyPost_ret (v := .agg (cst (upd (upd σ (who * 7 + 6) f) (who * 7 + 4) (σ (who * 7 + 4) - 1)))) (results_cell_row Try.results64 _ _ (w.heap.size + 1) 72 _ (0, 0) _ rfl (setRow_heap _ _ _ _ 72 (0, 0) (heap2 _ _ _).2) Try.underlying72 rfl (info_state _)) rfl ⟨rfl, ?_⟩
  exact grownBy_setRow (grown2 _ _ _) (by omega) _

end Go.Proofs.Ytifidfgihpkgcaa

