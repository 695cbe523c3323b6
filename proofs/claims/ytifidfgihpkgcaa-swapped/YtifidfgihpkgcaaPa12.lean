import Derived.Test.YtifidfgihpkgcaaPa02
set_option linter.unusedSimpArgs false
set_option linter.unusedVariables false
namespace Go.Proofs.Ytifidfgihpkgcaa
open Go.RowKit Wv

set_option maxHeartbeats 1000000 in
set_option maxRecDepth 100000 in
theorem rturn45_20 (w : World) (s : ByteArray) (L : List (List Nat)) (σ : Nat → Int) (who g cap g2 len cp k : Nat) (At : Int) (H : RTurnAt w s L σ who g cap g2 len cp k 45 (2) (0) At)
    (v0 v1 v2 v3 v5 : Int) (h0 : σ (who * 7) = v0) (h1 : σ (who * 7 + 1) = v1) (h2 : σ (who * 7 + 2) = v2) (h3 : σ (who * 7 + 3) = v3) (h4 : σ (who * 7 + 4) = (k : Int)) (h5 : σ (who * 7 + 5) = v5) (h6 : σ (who * 7 + 6) = 0) (hf : 0 < v5) (hf9 : v5 ≤ 9) (ha : 0 ≤ v2 ∧ v2 ≤ 9) (hb : 0 ≤ v0 ∧ v0 ≤ 9) (d : Int) (hd : (v2 - v0 + 10) % 10 = d) :
    Calls Try.prog 15 #[.slice (some ⟨g, 0, none⟩) L.length cap, .agg (rst σ), .int .i64 (who : Int)] w fun e w' => e = .returned (.agg (rst (updT σ who (v0) (v1) (d) (v3) ((k : Int) + 1) (v5 - 1) 0))) ∧ w.grownBy w' none := by
  obtain ⟨hw, hw3, hl3, hkl, hl8, hg, hg2, c2, c3, e0, e1, e2, e3, f0, f1, f2, f3, g0, g1, g2', g3, g4, g5, g6⟩ := H.facts h0 h1 h2 h3 h4 h5 h6
  have ht : (v2 - v0 + 10).tmod 10 = d := by rw [Int.tmod_eq_emod_of_nonneg (by omega)]; exact hd
  have hput := putRow_rst σ who hw3 (v0) (v1) (d) (v3) ((k : Int) + 1) (v5 - 1) 0 0 rfl
  have HP : Hid _ := hput
  have HO : Hid _ := rst_oneCell (updT σ who (v0) (v1) (d) (v3) ((k : Int) + 1) (v5 - 1) 0)
  clear H h0 h1 h2 h3 h4 h5 h6 hput
  generalize updT σ who (v0) (v1) (d) (v3) ((k : Int) + 1) (v5 - 1) 0 = τ at *
  go_enter Try.func15, Try.ntmps15
  go_wp2_with fail
  go_region
  go_wp2_with fail
  go_region
  iterate 30 go_step
  refine st_mid 40 (.tmp 156) (.tmp 154) w.heap.size (who * 7) #[.int .i64 (v0), .int .i64 (v1), .int .i64 (d), .int .i64 (v3), .int .i64 ((k : Int) + 1), .int .i64 (v5 - 1), .int .u8 0] ?_ ?_ ?_ ?_ ?_ ?_
  · rfl
  · rfl
  · exact there4d _ (rst σ) _ _ _ _ _ (by simp [rst_size]; omega)
  · exact info_rthread
  · exact one7 _ _ _ _ _ _ _
  iterate 5 go_step
  refine ld_row 45 (.tmp 4) w.heap.size ?_ (rst τ) ?_ Try.underlying45 rfl ?_ ?_
  · rfl
  · rw [← HP.out]; exact (after4d _ (rst σ) _ _ _ _ _).1
  · exact info_rstate τ
  refine st_row 45 (.tmp 6) (.tmp 157) (w.heap.size + 1) (rst τ) ?_ ?_ (rst (fun _ => 0)) ?_ ?_ ?_ ?_ ?_
  · rfl
  · rfl
  · exact (after4d _ (rst σ) _ _ _ _ _).2.1
  · exact info_rstate τ
  · rw [rst_size, rst_size]
  · exact HO.out
  go_wp2_with fail
  refine bodyPost_ret (v := .agg (rst τ)) (results_cell_row Try.results15 _ _ (w.heap.size + 1) 45 _ (0, 0) _ rfl (setRow_heap _ _ _ _ 45 (0, 0) (after4d _ (rst σ) _ _ _ _ _).2.1) Try.underlying45 rfl (info_rstate τ)) rfl ⟨rfl, ?_⟩
  exact rgrown_setRow (after4d _ (rst σ) _ _ _ _ _).2.2 (by omega) _

set_option maxHeartbeats 1000000 in
set_option maxRecDepth 100000 in
theorem rturn45_21 (w : World) (s : ByteArray) (L : List (List Nat)) (σ : Nat → Int) (who g cap g2 len cp k : Nat) (At : Int) (H : RTurnAt w s L σ who g cap g2 len cp k 45 (2) (1) At)
    (v0 v1 v2 v3 v5 : Int) (h0 : σ (who * 7) = v0) (h1 : σ (who * 7 + 1) = v1) (h2 : σ (who * 7 + 2) = v2) (h3 : σ (who * 7 + 3) = v3) (h4 : σ (who * 7 + 4) = (k : Int)) (h5 : σ (who * 7 + 5) = v5) (h6 : σ (who * 7 + 6) = 0) (hf : 0 < v5) (hf9 : v5 ≤ 9) (ha : 0 ≤ v2 ∧ v2 ≤ 9) (hb : 0 ≤ v1 ∧ v1 ≤ 9) (d : Int) (hd : (v2 - v1 + 10) % 10 = d) :
    Calls Try.prog 15 #[.slice (some ⟨g, 0, none⟩) L.length cap, .agg (rst σ), .int .i64 (who : Int)] w fun e w' => e = .returned (.agg (rst (updT σ who (v0) (v1) (d) (v3) ((k : Int) + 1) (v5 - 1) 0))) ∧ w.grownBy w' none := by
  obtain ⟨hw, hw3, hl3, hkl, hl8, hg, hg2, c2, c3, e0, e1, e2, e3, f0, f1, f2, f3, g0, g1, g2', g3, g4, g5, g6⟩ := H.facts h0 h1 h2 h3 h4 h5 h6
  have ht : (v2 - v1 + 10).tmod 10 = d := by rw [Int.tmod_eq_emod_of_nonneg (by omega)]; exact hd
  have hput := putRow_rst σ who hw3 (v0) (v1) (d) (v3) ((k : Int) + 1) (v5 - 1) 0 0 rfl
  have HP : Hid _ := hput
  have HO : Hid _ := rst_oneCell (updT σ who (v0) (v1) (d) (v3) ((k : Int) + 1) (v5 - 1) 0)
  clear H h0 h1 h2 h3 h4 h5 h6 hput
  generalize updT σ who (v0) (v1) (d) (v3) ((k : Int) + 1) (v5 - 1) 0 = τ at *
  go_enter Try.func15, Try.ntmps15
  go_wp2_with fail
  go_region
  go_wp2_with fail
  go_region
  iterate 30 go_step
  refine st_mid 40 (.tmp 156) (.tmp 154) w.heap.size (who * 7) #[.int .i64 (v0), .int .i64 (v1), .int .i64 (d), .int .i64 (v3), .int .i64 ((k : Int) + 1), .int .i64 (v5 - 1), .int .u8 0] ?_ ?_ ?_ ?_ ?_ ?_
  · rfl
  · rfl
  · exact there4d _ (rst σ) _ _ _ _ _ (by simp [rst_size]; omega)
  · exact info_rthread
  · exact one7 _ _ _ _ _ _ _
  iterate 5 go_step
  refine ld_row 45 (.tmp 4) w.heap.size ?_ (rst τ) ?_ Try.underlying45 rfl ?_ ?_
  · rfl
  · rw [← HP.out]; exact (after4d _ (rst σ) _ _ _ _ _).1
  · exact info_rstate τ
  refine st_row 45 (.tmp 6) (.tmp 157) (w.heap.size + 1) (rst τ) ?_ ?_ (rst (fun _ => 0)) ?_ ?_ ?_ ?_ ?_
  · rfl
  · rfl
  · exact (after4d _ (rst σ) _ _ _ _ _).2.1
  · exact info_rstate τ
  · rw [rst_size, rst_size]
  · exact HO.out
  go_wp2_with fail
  refine bodyPost_ret (v := .agg (rst τ)) (results_cell_row Try.results15 _ _ (w.heap.size + 1) 45 _ (0, 0) _ rfl (setRow_heap _ _ _ _ 45 (0, 0) (after4d _ (rst σ) _ _ _ _ _).2.1) Try.underlying45 rfl (info_rstate τ)) rfl ⟨rfl, ?_⟩
  exact rgrown_setRow (after4d _ (rst σ) _ _ _ _ _).2.2 (by omega) _

set_option maxHeartbeats 1000000 in
set_option maxRecDepth 100000 in
theorem rturn45_22 (w : World) (s : ByteArray) (L : List (List Nat)) (σ : Nat → Int) (who g cap g2 len cp k : Nat) (At : Int) (H : RTurnAt w s L σ who g cap g2 len cp k 45 (2) (2) At)
    (v0 v1 v2 v3 v5 : Int) (h0 : σ (who * 7) = v0) (h1 : σ (who * 7 + 1) = v1) (h2 : σ (who * 7 + 2) = v2) (h3 : σ (who * 7 + 3) = v3) (h4 : σ (who * 7 + 4) = (k : Int)) (h5 : σ (who * 7 + 5) = v5) (h6 : σ (who * 7 + 6) = 0) (hf : 0 < v5) (hf9 : v5 ≤ 9) (ha : 0 ≤ v2 ∧ v2 ≤ 9) (hb : 0 ≤ v2 ∧ v2 ≤ 9) (d : Int) (hd : (v2 - v2 + 10) % 10 = d) :
    Calls Try.prog 15 #[.slice (some ⟨g, 0, none⟩) L.length cap, .agg (rst σ), .int .i64 (who : Int)] w fun e w' => e = .returned (.agg (rst (updT σ who (v0) (v1) (0) (v3) ((k : Int) + 1) (v5 - 1) 0))) ∧ w.grownBy w' none := by
  obtain ⟨hw, hw3, hl3, hkl, hl8, hg, hg2, c2, c3, e0, e1, e2, e3, f0, f1, f2, f3, g0, g1, g2', g3, g4, g5, g6⟩ := H.facts h0 h1 h2 h3 h4 h5 h6
  have ht : (v2 - v2 + 10).tmod 10 = d := by rw [Int.tmod_eq_emod_of_nonneg (by omega)]; exact hd
  have hput := putRow_rst σ who hw3 (v0) (v1) (0) (v3) ((k : Int) + 1) (v5 - 1) 0 0 rfl
  have HP : Hid _ := hput
  have HO : Hid _ := rst_oneCell (updT σ who (v0) (v1) (0) (v3) ((k : Int) + 1) (v5 - 1) 0)
  clear H h0 h1 h2 h3 h4 h5 h6 hput
  generalize updT σ who (v0) (v1) (0) (v3) ((k : Int) + 1) (v5 - 1) 0 = τ at *
  go_enter Try.func15, Try.ntmps15
  go_wp2_with fail
  go_region
  go_wp2_with fail
  go_region
  iterate 30 go_step
  refine st_mid 40 (.tmp 156) (.tmp 154) w.heap.size (who * 7) #[.int .i64 (v0), .int .i64 (v1), .int .i64 (0), .int .i64 (v3), .int .i64 ((k : Int) + 1), .int .i64 (v5 - 1), .int .u8 0] ?_ ?_ ?_ ?_ ?_ ?_
  · rfl
  · rfl
  · exact there4d _ (rst σ) _ _ _ _ _ (by simp [rst_size]; omega)
  · exact info_rthread
  · exact one7 _ _ _ _ _ _ _
  iterate 5 go_step
  refine ld_row 45 (.tmp 4) w.heap.size ?_ (rst τ) ?_ Try.underlying45 rfl ?_ ?_
  · rfl
  · rw [← HP.out]; exact (after4d _ (rst σ) _ _ _ _ _).1
  · exact info_rstate τ
  refine st_row 45 (.tmp 6) (.tmp 157) (w.heap.size + 1) (rst τ) ?_ ?_ (rst (fun _ => 0)) ?_ ?_ ?_ ?_ ?_
  · rfl
  · rfl
  · exact (after4d _ (rst σ) _ _ _ _ _).2.1
  · exact info_rstate τ
  · rw [rst_size, rst_size]
  · exact HO.out
  go_wp2_with fail
  refine bodyPost_ret (v := .agg (rst τ)) (results_cell_row Try.results15 _ _ (w.heap.size + 1) 45 _ (0, 0) _ rfl (setRow_heap _ _ _ _ 45 (0, 0) (after4d _ (rst σ) _ _ _ _ _).2.1) Try.underlying45 rfl (info_rstate τ)) rfl ⟨rfl, ?_⟩
  exact rgrown_setRow (after4d _ (rst σ) _ _ _ _ _).2.2 (by omega) _

set_option maxHeartbeats 1000000 in
set_option maxRecDepth 100000 in
theorem rturn45_23 (w : World) (s : ByteArray) (L : List (List Nat)) (σ : Nat → Int) (who g cap g2 len cp k : Nat) (At : Int) (H : RTurnAt w s L σ who g cap g2 len cp k 45 (2) (3) At)
    (v0 v1 v2 v3 v5 : Int) (h0 : σ (who * 7) = v0) (h1 : σ (who * 7 + 1) = v1) (h2 : σ (who * 7 + 2) = v2) (h3 : σ (who * 7 + 3) = v3) (h4 : σ (who * 7 + 4) = (k : Int)) (h5 : σ (who * 7 + 5) = v5) (h6 : σ (who * 7 + 6) = 0) (hf : 0 < v5) (hf9 : v5 ≤ 9) (ha : 0 ≤ v2 ∧ v2 ≤ 9) (hb : 0 ≤ v3 ∧ v3 ≤ 9) (d : Int) (hd : (v2 - v3 + 10) % 10 = d) :
    Calls Try.prog 15 #[.slice (some ⟨g, 0, none⟩) L.length cap, .agg (rst σ), .int .i64 (who : Int)] w fun e w' => e = .returned (.agg (rst (updT σ who (v0) (v1) (d) (v3) ((k : Int) + 1) (v5 - 1) 0))) ∧ w.grownBy w' none := by
  obtain ⟨hw, hw3, hl3, hkl, hl8, hg, hg2, c2, c3, e0, e1, e2, e3, f0, f1, f2, f3, g0, g1, g2', g3, g4, g5, g6⟩ := H.facts h0 h1 h2 h3 h4 h5 h6
  have ht : (v2 - v3 + 10).tmod 10 = d := by rw [Int.tmod_eq_emod_of_nonneg (by omega)]; exact hd
  have hput := putRow_rst σ who hw3 (v0) (v1) (d) (v3) ((k : Int) + 1) (v5 - 1) 0 0 rfl
  have HP : Hid _ := hput
  have HO : Hid _ := rst_oneCell (updT σ who (v0) (v1) (d) (v3) ((k : Int) + 1) (v5 - 1) 0)
  clear H h0 h1 h2 h3 h4 h5 h6 hput
  generalize updT σ who (v0) (v1) (d) (v3) ((k : Int) + 1) (v5 - 1) 0 = τ at *
  go_enter Try.func15, Try.ntmps15
  go_wp2_with fail
  go_region
  go_wp2_with fail
  go_region
  iterate 30 go_step
  refine st_mid 40 (.tmp 156) (.tmp 154) w.heap.size (who * 7) #[.int .i64 (v0), .int .i64 (v1), .int .i64 (d), .int .i64 (v3), .int .i64 ((k : Int) + 1), .int .i64 (v5 - 1), .int .u8 0] ?_ ?_ ?_ ?_ ?_ ?_
  · rfl
  · rfl
  · exact there4d _ (rst σ) _ _ _ _ _ (by simp [rst_size]; omega)
  · exact info_rthread
  · exact one7 _ _ _ _ _ _ _
  iterate 5 go_step
  refine ld_row 45 (.tmp 4) w.heap.size ?_ (rst τ) ?_ Try.underlying45 rfl ?_ ?_
  · rfl
  · rw [← HP.out]; exact (after4d _ (rst σ) _ _ _ _ _).1
  · exact info_rstate τ
  refine st_row 45 (.tmp 6) (.tmp 157) (w.heap.size + 1) (rst τ) ?_ ?_ (rst (fun _ => 0)) ?_ ?_ ?_ ?_ ?_
  · rfl
  · rfl
  · exact (after4d _ (rst σ) _ _ _ _ _).2.1
  · exact info_rstate τ
  · rw [rst_size, rst_size]
  · exact HO.out
  go_wp2_with fail
  refine bodyPost_ret (v := .agg (rst τ)) (results_cell_row Try.results15 _ _ (w.heap.size + 1) 45 _ (0, 0) _ rfl (setRow_heap _ _ _ _ 45 (0, 0) (after4d _ (rst σ) _ _ _ _ _).2.1) Try.underlying45 rfl (info_rstate τ)) rfl ⟨rfl, ?_⟩
  exact rgrown_setRow (after4d _ (rst σ) _ _ _ _ _).2.2 (by omega) _
end Go.Proofs.Ytifidfgihpkgcaa

set_option linter.unusedSimpArgs false
set_option linter.unusedVariables false
namespace Go.Proofs.Ytifidfgihpkgcaa
open Go.RowKit Wv

set_option maxHeartbeats 1000000 in
set_option maxRecDepth 100000 in
theorem rturn45_30 (w : World) (s : ByteArray) (L : List (List Nat)) (σ : Nat → Int) (who g cap g2 len cp k : Nat) (At : Int) (H : RTurnAt w s L σ who g cap g2 len cp k 45 (3) (0) At)
    (v0 v1 v2 v3 v5 : Int) (h0 : σ (who * 7) = v0) (h1 : σ (who * 7 + 1) = v1) (h2 : σ (who * 7 + 2) = v2) (h3 : σ (who * 7 + 3) = v3) (h4 : σ (who * 7 + 4) = (k : Int)) (h5 : σ (who * 7 + 5) = v5) (h6 : σ (who * 7 + 6) = 0) (hf : 0 < v5) (hf9 : v5 ≤ 9) (ha : 0 ≤ v3 ∧ v3 ≤ 9) (hb : 0 ≤ v0 ∧ v0 ≤ 9) (d : Int) (hd : (v3 - v0 + 10) % 10 = d) :
    Calls Try.prog 15 #[.slice (some ⟨g, 0, none⟩) L.length cap, .agg (rst σ), .int .i64 (who : Int)] w fun e w' => e = .returned (.agg (rst (updT σ who (v0) (v1) (v2) (d) ((k : Int) + 1) (v5 - 1) 0))) ∧ w.grownBy w' none := by
  obtain ⟨hw, hw3, hl3, hkl, hl8, hg, hg2, c2, c3, e0, e1, e2, e3, f0, f1, f2, f3, g0, g1, g2', g3, g4, g5, g6⟩ := H.facts h0 h1 h2 h3 h4 h5 h6
  have ht : (v3 - v0 + 10).tmod 10 = d := by rw [Int.tmod_eq_emod_of_nonneg (by omega)]; exact hd
  have hput := putRow_rst σ who hw3 (v0) (v1) (v2) (d) ((k : Int) + 1) (v5 - 1) 0 0 rfl
  have HP : Hid _ := hput
  have HO : Hid _ := rst_oneCell (updT σ who (v0) (v1) (v2) (d) ((k : Int) + 1) (v5 - 1) 0)
  clear H h0 h1 h2 h3 h4 h5 h6 hput
  generalize updT σ who (v0) (v1) (v2) (d) ((k : Int) + 1) (v5 - 1) 0 = τ at *
  go_enter Try.func15, Try.ntmps15
  go_wp2_with fail
  go_region
  go_wp2_with fail
  go_region
  iterate 30 go_step
  refine st_mid 40 (.tmp 156) (.tmp 154) w.heap.size (who * 7) #[.int .i64 (v0), .int .i64 (v1), .int .i64 (v2), .int .i64 (d), .int .i64 ((k : Int) + 1), .int .i64 (v5 - 1), .int .u8 0] ?_ ?_ ?_ ?_ ?_ ?_
  · rfl
  · rfl
  · exact there4d _ (rst σ) _ _ _ _ _ (by simp [rst_size]; omega)
  · exact info_rthread
  · exact one7 _ _ _ _ _ _ _
  iterate 5 go_step
  refine ld_row 45 (.tmp 4) w.heap.size ?_ (rst τ) ?_ Try.underlying45 rfl ?_ ?_
  · rfl
  · rw [← HP.out]; exact (after4d _ (rst σ) _ _ _ _ _).1
  · exact info_rstate τ
  refine st_row 45 (.tmp 6) (.tmp 157) (w.heap.size + 1) (rst τ) ?_ ?_ (rst (fun _ => 0)) ?_ ?_ ?_ ?_ ?_
  · rfl
  · rfl
  · exact (after4d _ (rst σ) _ _ _ _ _).2.1
  · exact info_rstate τ
  · rw [rst_size, rst_size]
  · exact HO.out
  go_wp2_with fail
  refine bodyPost_ret (v := .agg (rst τ)) (results_cell_row Try.results15 _ _ (w.heap.size + 1) 45 _ (0, 0) _ rfl (setRow_heap _ _ _ _ 45 (0, 0) (after4d _ (rst σ) _ _ _ _ _).2.1) Try.underlying45 rfl (info_rstate τ)) rfl ⟨rfl, ?_⟩
  exact rgrown_setRow (after4d _ (rst σ) _ _ _ _ _).2.2 (by omega) _

set_option maxHeartbeats 1000000 in
set_option maxRecDepth 100000 in
theorem rturn45_31 (w : World) (s : ByteArray) (L : List (List Nat)) (σ : Nat → Int) (who g cap g2 len cp k : Nat) (At : Int) (H : RTurnAt w s L σ who g cap g2 len cp k 45 (3) (1) At)
    (v0 v1 v2 v3 v5 : Int) (h0 : σ (who * 7) = v0) (h1 : σ (who * 7 + 1) = v1) (h2 : σ (who * 7 + 2) = v2) (h3 : σ (who * 7 + 3) = v3) (h4 : σ (who * 7 + 4) = (k : Int)) (h5 : σ (who * 7 + 5) = v5) (h6 : σ (who * 7 + 6) = 0) (hf : 0 < v5) (hf9 : v5 ≤ 9) (ha : 0 ≤ v3 ∧ v3 ≤ 9) (hb : 0 ≤ v1 ∧ v1 ≤ 9) (d : Int) (hd : (v3 - v1 + 10) % 10 = d) :
    Calls Try.prog 15 #[.slice (some ⟨g, 0, none⟩) L.length cap, .agg (rst σ), .int .i64 (who : Int)] w fun e w' => e = .returned (.agg (rst (updT σ who (v0) (v1) (v2) (d) ((k : Int) + 1) (v5 - 1) 0))) ∧ w.grownBy w' none := by
  obtain ⟨hw, hw3, hl3, hkl, hl8, hg, hg2, c2, c3, e0, e1, e2, e3, f0, f1, f2, f3, g0, g1, g2', g3, g4, g5, g6⟩ := H.facts h0 h1 h2 h3 h4 h5 h6
  have ht : (v3 - v1 + 10).tmod 10 = d := by rw [Int.tmod_eq_emod_of_nonneg (by omega)]; exact hd
  have hput := putRow_rst σ who hw3 (v0) (v1) (v2) (d) ((k : Int) + 1) (v5 - 1) 0 0 rfl
  have HP : Hid _ := hput
  have HO : Hid _ := rst_oneCell (updT σ who (v0) (v1) (v2) (d) ((k : Int) + 1) (v5 - 1) 0)
  clear H h0 h1 h2 h3 h4 h5 h6 hput
  generalize updT σ who (v0) (v1) (v2) (d) ((k : Int) + 1) (v5 - 1) 0 = τ at *
  go_enter Try.func15, Try.ntmps15
  go_wp2_with fail
  go_region
  go_wp2_with fail
  go_region
  iterate 30 go_step
  refine st_mid 40 (.tmp 156) (.tmp 154) w.heap.size (who * 7) #[.int .i64 (v0), .int .i64 (v1), .int .i64 (v2), .int .i64 (d), .int .i64 ((k : Int) + 1), .int .i64 (v5 - 1), .int .u8 0] ?_ ?_ ?_ ?_ ?_ ?_
  · rfl
  · rfl
  · exact there4d _ (rst σ) _ _ _ _ _ (by simp [rst_size]; omega)
  · exact info_rthread
  · exact one7 _ _ _ _ _ _ _
  iterate 5 go_step
  refine ld_row 45 (.tmp 4) w.heap.size ?_ (rst τ) ?_ Try.underlying45 rfl ?_ ?_
  · rfl
  · rw [← HP.out]; exact (after4d _ (rst σ) _ _ _ _ _).1
  · exact info_rstate τ
  refine st_row 45 (.tmp 6) (.tmp 157) (w.heap.size + 1) (rst τ) ?_ ?_ (rst (fun _ => 0)) ?_ ?_ ?_ ?_ ?_
  · rfl
  · rfl
  · exact (after4d _ (rst σ) _ _ _ _ _).2.1
  · exact info_rstate τ
  · rw [rst_size, rst_size]
  · exact HO.out
  go_wp2_with fail
  refine bodyPost_ret (v := .agg (rst τ)) (results_cell_row Try.results15 _ _ (w.heap.size + 1) 45 _ (0, 0) _ rfl (setRow_heap _ _ _ _ 45 (0, 0) (after4d _ (rst σ) _ _ _ _ _).2.1) Try.underlying45 rfl (info_rstate τ)) rfl ⟨rfl, ?_⟩
  exact rgrown_setRow (after4d _ (rst σ) _ _ _ _ _).2.2 (by omega) _

set_option maxHeartbeats 1000000 in
set_option maxRecDepth 100000 in
theorem rturn45_32 (w : World) (s : ByteArray) (L : List (List Nat)) (σ : Nat → Int) (who g cap g2 len cp k : Nat) (At : Int) (H : RTurnAt w s L σ who g cap g2 len cp k 45 (3) (2) At)
    (v0 v1 v2 v3 v5 : Int) (h0 : σ (who * 7) = v0) (h1 : σ (who * 7 + 1) = v1) (h2 : σ (who * 7 + 2) = v2) (h3 : σ (who * 7 + 3) = v3) (h4 : σ (who * 7 + 4) = (k : Int)) (h5 : σ (who * 7 + 5) = v5) (h6 : σ (who * 7 + 6) = 0) (hf : 0 < v5) (hf9 : v5 ≤ 9) (ha : 0 ≤ v3 ∧ v3 ≤ 9) (hb : 0 ≤ v2 ∧ v2 ≤ 9) (d : Int) (hd : (v3 - v2 + 10) % 10 = d) :
    Calls Try.prog 15 #[.slice (some ⟨g, 0, none⟩) L.length cap, .agg (rst σ), .int .i64 (who : Int)] w fun e w' => e = .returned (.agg (rst (updT σ who (v0) (v1) (v2) (d) ((k : Int) + 1) (v5 - 1) 0))) ∧ w.grownBy w' none := by
  obtain ⟨hw, hw3, hl3, hkl, hl8, hg, hg2, c2, c3, e0, e1, e2, e3, f0, f1, f2, f3, g0, g1, g2', g3, g4, g5, g6⟩ := H.facts h0 h1 h2 h3 h4 h5 h6
  have ht : (v3 - v2 + 10).tmod 10 = d := by rw [Int.tmod_eq_emod_of_nonneg (by omega)]; exact hd
  have hput := putRow_rst σ who hw3 (v0) (v1) (v2) (d) ((k : Int) + 1) (v5 - 1) 0 0 rfl
  have HP : Hid _ := hput
  have HO : Hid _ := rst_oneCell (updT σ who (v0) (v1) (v2) (d) ((k : Int) + 1) (v5 - 1) 0)
  clear H h0 h1 h2 h3 h4 h5 h6 hput
  generalize updT σ who (v0) (v1) (v2) (d) ((k : Int) + 1) (v5 - 1) 0 = τ at *
  go_enter Try.func15, Try.ntmps15
  go_wp2_with fail
  go_region
  go_wp2_with fail
  go_region
  iterate 30 go_step
  refine st_mid 40 (.tmp 156) (.tmp 154) w.heap.size (who * 7) #[.int .i64 (v0), .int .i64 (v1), .int .i64 (v2), .int .i64 (d), .int .i64 ((k : Int) + 1), .int .i64 (v5 - 1), .int .u8 0] ?_ ?_ ?_ ?_ ?_ ?_
  · rfl
  · rfl
  · exact there4d _ (rst σ) _ _ _ _ _ (by simp [rst_size]; omega)
  · exact info_rthread
  · exact one7 _ _ _ _ _ _ _
  iterate 5 go_step
  refine ld_row 45 (.tmp 4) w.heap.size ?_ (rst τ) ?_ Try.underlying45 rfl ?_ ?_
  · rfl
  · rw [← HP.out]; exact (after4d _ (rst σ) _ _ _ _ _).1
  · exact info_rstate τ
  refine st_row 45 (.tmp 6) (.tmp 157) (w.heap.size + 1) (rst τ) ?_ ?_ (rst (fun _ => 0)) ?_ ?_ ?_ ?_ ?_
  · rfl
  · rfl
  · exact (after4d _ (rst σ) _ _ _ _ _).2.1
  · exact info_rstate τ
  · rw [rst_size, rst_size]
  · exact HO.out
  go_wp2_with fail
  refine bodyPost_ret (v := .agg (rst τ)) (results_cell_row Try.results15 _ _ (w.heap.size + 1) 45 _ (0, 0) _ rfl (setRow_heap _ _ _ _ 45 (0, 0) (after4d _ (rst σ) _ _ _ _ _).2.1) Try.underlying45 rfl (info_rstate τ)) rfl ⟨rfl, ?_⟩
  exact rgrown_setRow (after4d _ (rst σ) _ _ _ _ _).2.2 (by omega) _

set_option maxHeartbeats 1000000 in
set_option maxRecDepth 100000 in
theorem rturn45_33 (w : World) (s : ByteArray) (L : List (List Nat)) (σ : Nat → Int) (who g cap g2 len cp k : Nat) (At : Int) (H : RTurnAt w s L σ who g cap g2 len cp k 45 (3) (3) At)
    (v0 v1 v2 v3 v5 : Int) (h0 : σ (who * 7) = v0) (h1 : σ (who * 7 + 1) = v1) (h2 : σ (who * 7 + 2) = v2) (h3 : σ (who * 7 + 3) = v3) (h4 : σ (who * 7 + 4) = (k : Int)) (h5 : σ (who * 7 + 5) = v5) (h6 : σ (who * 7 + 6) = 0) (hf : 0 < v5) (hf9 : v5 ≤ 9) (ha : 0 ≤ v3 ∧ v3 ≤ 9) (hb : 0 ≤ v3 ∧ v3 ≤ 9) (d : Int) (hd : (v3 - v3 + 10) % 10 = d) :
    Calls Try.prog 15 #[.slice (some ⟨g, 0, none⟩) L.length cap, .agg (rst σ), .int .i64 (who : Int)] w fun e w' => e = .returned (.agg (rst (updT σ who (v0) (v1) (v2) (0) ((k : Int) + 1) (v5 - 1) 0))) ∧ w.grownBy w' none := by
  obtain ⟨hw, hw3, hl3, hkl, hl8, hg, hg2, c2, c3, e0, e1, e2, e3, f0, f1, f2, f3, g0, g1, g2', g3, g4, g5, g6⟩ := H.facts h0 h1 h2 h3 h4 h5 h6
  have ht : (v3 - v3 + 10).tmod 10 = d := by rw [Int.tmod_eq_emod_of_nonneg (by omega)]; exact hd
  have hput := putRow_rst σ who hw3 (v0) (v1) (v2) (0) ((k : Int) + 1) (v5 - 1) 0 0 rfl
  have HP : Hid _ := hput
  have HO : Hid _ := rst_oneCell (updT σ who (v0) (v1) (v2) (0) ((k : Int) + 1) (v5 - 1) 0)
  clear H h0 h1 h2 h3 h4 h5 h6 hput
  generalize updT σ who (v0) (v1) (v2) (0) ((k : Int) + 1) (v5 - 1) 0 = τ at *
  go_enter Try.func15, Try.ntmps15
  go_wp2_with fail
  go_region
  go_wp2_with fail
  go_region
  iterate 30 go_step
  refine st_mid 40 (.tmp 156) (.tmp 154) w.heap.size (who * 7) #[.int .i64 (v0), .int .i64 (v1), .int .i64 (v2), .int .i64 (0), .int .i64 ((k : Int) + 1), .int .i64 (v5 - 1), .int .u8 0] ?_ ?_ ?_ ?_ ?_ ?_
  · rfl
  · rfl
  · exact there4d _ (rst σ) _ _ _ _ _ (by simp [rst_size]; omega)
  · exact info_rthread
  · exact one7 _ _ _ _ _ _ _
  iterate 5 go_step
  refine ld_row 45 (.tmp 4) w.heap.size ?_ (rst τ) ?_ Try.underlying45 rfl ?_ ?_
  · rfl
  · rw [← HP.out]; exact (after4d _ (rst σ) _ _ _ _ _).1
  · exact info_rstate τ
  refine st_row 45 (.tmp 6) (.tmp 157) (w.heap.size + 1) (rst τ) ?_ ?_ (rst (fun _ => 0)) ?_ ?_ ?_ ?_ ?_
  · rfl
  · rfl
  · exact (after4d _ (rst σ) _ _ _ _ _).2.1
  · exact info_rstate τ
  · rw [rst_size, rst_size]
  · exact HO.out
  go_wp2_with fail
  refine bodyPost_ret (v := .agg (rst τ)) (results_cell_row Try.results15 _ _ (w.heap.size + 1) 45 _ (0, 0) _ rfl (setRow_heap _ _ _ _ 45 (0, 0) (after4d _ (rst σ) _ _ _ _ _).2.1) Try.underlying45 rfl (info_rstate τ)) rfl ⟨rfl, ?_⟩
  exact rgrown_setRow (after4d _ (rst σ) _ _ _ _ _).2.2 (by omega) _
end Go.Proofs.Ytifidfgihpkgcaa

