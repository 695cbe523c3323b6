import Derived.Test.YtifidfgihpkgcaaPa02
set_option linter.unusedSimpArgs false
set_option linter.unusedVariables false
namespace Go.Proofs.Ytifidfgihpkgcaa
open Go.RowKit Wv

set_option maxHeartbeats 1000000 in
set_option maxRecDepth 100000 in
theorem rturn119_0 (w : World) (s : ByteArray) (L : List (List Nat)) (σ : Nat → Int) (who g cap g2 len cp k : Nat) (A : Nat) (At : Int) (H : RTurnAt w s L σ who g cap g2 len cp k 119 ((A : Int)) (0) At)
    (v0 v1 v2 v3 v5 : Int) (h0 : σ (who * 7) = v0) (h1 : σ (who * 7 + 1) = v1) (h2 : σ (who * 7 + 2) = v2) (h3 : σ (who * 7 + 3) = v3) (h4 : σ (who * 7 + 4) = (k : Int)) (h5 : σ (who * 7 + 5) = v5) (h6 : σ (who * 7 + 6) = 0) (hf : 0 < v5) (hf9 : v5 ≤ 9) (hA : A < 3) (d : Int) (hd : σ (21 + A) = d) :
    Calls Try.prog 15 #[.slice (some ⟨g, 0, none⟩) L.length cap, .agg (rst σ), .int .i64 (who : Int)] w fun e w' => e = .returned (.agg (rst (updT (upd σ (21 + A) (v0)) who (v0) (v1) (v2) (v3) ((k : Int) + 1) (v5 - 1) 0))) ∧ w.grownBy w' none := by
  obtain ⟨hw, hw3, hl3, hkl, hl8, hg, hg2, c2, c3, e0, e1, e2, e3, f0, f1, f2, f3, g0, g1, g2', g3, g4, g5, g6⟩ := H.facts h0 h1 h2 h3 h4 h5 h6
  have gd := rst_int σ (21 + A) (by omega) (by omega) (by omega) (by omega)
  rw [hd] at gd
  have hput := putRow_rst (upd σ (21 + A) (v0)) who hw3 (v0) (v1) (v2) (v3) ((k : Int) + 1) (v5 - 1) 0 0 rfl
  rw [← rst_set σ (21 + A) (v0) (by omega) (by omega) (by omega)] at hput
  have HP : Hid _ := hput
  have HO : Hid _ := rst_oneCell (updT (upd σ (21 + A) (v0)) who (v0) (v1) (v2) (v3) ((k : Int) + 1) (v5 - 1) 0)
  clear H h0 h1 h2 h3 h4 h5 h6 hput
  generalize updT (upd σ (21 + A) (v0)) who (v0) (v1) (v2) (v3) ((k : Int) + 1) (v5 - 1) 0 = τ at *
  go_enter Try.func15, Try.ntmps15
  go_wp2_with fail
  go_region
  go_wp2_with fail
  go_region
  iterate 30 go_step
  refine st_mid 40 (.tmp 156) (.tmp 154) w.heap.size (who * 7) #[.int .i64 (v0), .int .i64 (v1), .int .i64 (v2), .int .i64 (v3), .int .i64 ((k : Int) + 1), .int .i64 (v5 - 1), .int .u8 0] ?_ ?_ ?_ ?_ ?_ ?_
  · rfl
  · rfl
  · exact there4d _ (((rst σ).setIfInBounds (21 + A) (.int .i64 (v0)))) _ _ _ _ _ (by simp [rst_size]; omega)
  · exact info_rthread
  · exact one7 _ _ _ _ _ _ _
  iterate 5 go_step
  refine ld_row 45 (.tmp 4) w.heap.size ?_ (rst τ) ?_ Try.underlying45 rfl ?_ ?_
  · rfl
  · rw [← HP.out]; exact (after4d _ (((rst σ).setIfInBounds (21 + A) (.int .i64 (v0)))) _ _ _ _ _).1
  · exact info_rstate τ
  refine st_row 45 (.tmp 6) (.tmp 157) (w.heap.size + 1) (rst τ) ?_ ?_ (rst (fun _ => 0)) ?_ ?_ ?_ ?_ ?_
  · rfl
  · rfl
  · exact (after4d _ (((rst σ).setIfInBounds (21 + A) (.int .i64 (v0)))) _ _ _ _ _).2.1
  · exact info_rstate τ
  · rw [rst_size, rst_size]
  · exact HO.out
  go_wp2_with fail
  refine bodyPost_ret (v := .agg (rst τ)) (results_cell_row Try.results15 _ _ (w.heap.size + 1) 45 _ (0, 0) _ rfl (setRow_heap _ _ _ _ 45 (0, 0) (after4d _ (((rst σ).setIfInBounds (21 + A) (.int .i64 (v0)))) _ _ _ _ _).2.1) Try.underlying45 rfl (info_rstate τ)) rfl ⟨rfl, ?_⟩
  exact rgrown_setRow (after4d _ (((rst σ).setIfInBounds (21 + A) (.int .i64 (v0)))) _ _ _ _ _).2.2 (by omega) _

set_option maxHeartbeats 1000000 in
set_option maxRecDepth 100000 in
theorem rturn119_1 (w : World) (s : ByteArray) (L : List (List Nat)) (σ : Nat → Int) (who g cap g2 len cp k : Nat) (A : Nat) (At : Int) (H : RTurnAt w s L σ who g cap g2 len cp k 119 ((A : Int)) (1) At)
    (v0 v1 v2 v3 v5 : Int) (h0 : σ (who * 7) = v0) (h1 : σ (who * 7 + 1) = v1) (h2 : σ (who * 7 + 2) = v2) (h3 : σ (who * 7 + 3) = v3) (h4 : σ (who * 7 + 4) = (k : Int)) (h5 : σ (who * 7 + 5) = v5) (h6 : σ (who * 7 + 6) = 0) (hf : 0 < v5) (hf9 : v5 ≤ 9) (hA : A < 3) (d : Int) (hd : σ (21 + A) = d) :
    Calls Try.prog 15 #[.slice (some ⟨g, 0, none⟩) L.length cap, .agg (rst σ), .int .i64 (who : Int)] w fun e w' => e = .returned (.agg (rst (updT (upd σ (21 + A) (v1)) who (v0) (v1) (v2) (v3) ((k : Int) + 1) (v5 - 1) 0))) ∧ w.grownBy w' none := by
  obtain ⟨hw, hw3, hl3, hkl, hl8, hg, hg2, c2, c3, e0, e1, e2, e3, f0, f1, f2, f3, g0, g1, g2', g3, g4, g5, g6⟩ := H.facts h0 h1 h2 h3 h4 h5 h6
  have gd := rst_int σ (21 + A) (by omega) (by omega) (by omega) (by omega)
  rw [hd] at gd
  have hput := putRow_rst (upd σ (21 + A) (v1)) who hw3 (v0) (v1) (v2) (v3) ((k : Int) + 1) (v5 - 1) 0 0 rfl
  rw [← rst_set σ (21 + A) (v1) (by omega) (by omega) (by omega)] at hput
  have HP : Hid _ := hput
  have HO : Hid _ := rst_oneCell (updT (upd σ (21 + A) (v1)) who (v0) (v1) (v2) (v3) ((k : Int) + 1) (v5 - 1) 0)
  clear H h0 h1 h2 h3 h4 h5 h6 hput
  generalize updT (upd σ (21 + A) (v1)) who (v0) (v1) (v2) (v3) ((k : Int) + 1) (v5 - 1) 0 = τ at *
  go_enter Try.func15, Try.ntmps15
  go_wp2_with fail
  go_region
  go_wp2_with fail
  go_region
  iterate 30 go_step
  refine st_mid 40 (.tmp 156) (.tmp 154) w.heap.size (who * 7) #[.int .i64 (v0), .int .i64 (v1), .int .i64 (v2), .int .i64 (v3), .int .i64 ((k : Int) + 1), .int .i64 (v5 - 1), .int .u8 0] ?_ ?_ ?_ ?_ ?_ ?_
  · rfl
  · rfl
  · exact there4d _ (((rst σ).setIfInBounds (21 + A) (.int .i64 (v1)))) _ _ _ _ _ (by simp [rst_size]; omega)
  · exact info_rthread
  · exact one7 _ _ _ _ _ _ _
  iterate 5 go_step
  refine ld_row 45 (.tmp 4) w.heap.size ?_ (rst τ) ?_ Try.underlying45 rfl ?_ ?_
  · rfl
  · rw [← HP.out]; exact (after4d _ (((rst σ).setIfInBounds (21 + A) (.int .i64 (v1)))) _ _ _ _ _).1
  · exact info_rstate τ
  refine st_row 45 (.tmp 6) (.tmp 157) (w.heap.size + 1) (rst τ) ?_ ?_ (rst (fun _ => 0)) ?_ ?_ ?_ ?_ ?_
  · rfl
  · rfl
  · exact (after4d _ (((rst σ).setIfInBounds (21 + A) (.int .i64 (v1)))) _ _ _ _ _).2.1
  · exact info_rstate τ
  · rw [rst_size, rst_size]
  · exact HO.out
  go_wp2_with fail
  refine bodyPost_ret (v := .agg (rst τ)) (results_cell_row Try.results15 _ _ (w.heap.size + 1) 45 _ (0, 0) _ rfl (setRow_heap _ _ _ _ 45 (0, 0) (after4d _ (((rst σ).setIfInBounds (21 + A) (.int .i64 (v1)))) _ _ _ _ _).2.1) Try.underlying45 rfl (info_rstate τ)) rfl ⟨rfl, ?_⟩
  exact rgrown_setRow (after4d _ (((rst σ).setIfInBounds (21 + A) (.int .i64 (v1)))) _ _ _ _ _).2.2 (by omega) _

set_option maxHeartbeats 1000000 in
set_option maxRecDepth 100000 in
theorem rturn119_2 (w : World) (s : ByteArray) (L : List (List Nat)) (σ : Nat → Int) (who g cap g2 len cp k : Nat) (A : Nat) (At : Int) (H : RTurnAt w s L σ who g cap g2 len cp k 119 ((A : Int)) (2) At)
    (v0 v1 v2 v3 v5 : Int) (h0 : σ (who * 7) = v0) (h1 : σ (who * 7 + 1) = v1) (h2 : σ (who * 7 + 2) = v2) (h3 : σ (who * 7 + 3) = v3) (h4 : σ (who * 7 + 4) = (k : Int)) (h5 : σ (who * 7 + 5) = v5) (h6 : σ (who * 7 + 6) = 0) (hf : 0 < v5) (hf9 : v5 ≤ 9) (hA : A < 3) (d : Int) (hd : σ (21 + A) = d) :
    Calls Try.prog 15 #[.slice (some ⟨g, 0, none⟩) L.length cap, .agg (rst σ), .int .i64 (who : Int)] w fun e w' => e = .returned (.agg (rst (updT (upd σ (21 + A) (v2)) who (v0) (v1) (v2) (v3) ((k : Int) + 1) (v5 - 1) 0))) ∧ w.grownBy w' none := by
  obtain ⟨hw, hw3, hl3, hkl, hl8, hg, hg2, c2, c3, e0, e1, e2, e3, f0, f1, f2, f3, g0, g1, g2', g3, g4, g5, g6⟩ := H.facts h0 h1 h2 h3 h4 h5 h6
  have gd := rst_int σ (21 + A) (by omega) (by omega) (by omega) (by omega)
  rw [hd] at gd
  have hput := putRow_rst (upd σ (21 + A) (v2)) who hw3 (v0) (v1) (v2) (v3) ((k : Int) + 1) (v5 - 1) 0 0 rfl
  rw [← rst_set σ (21 + A) (v2) (by omega) (by omega) (by omega)] at hput
  have HP : Hid _ := hput
  have HO : Hid _ := rst_oneCell (updT (upd σ (21 + A) (v2)) who (v0) (v1) (v2) (v3) ((k : Int) + 1) (v5 - 1) 0)
  clear H h0 h1 h2 h3 h4 h5 h6 hput
  generalize updT (upd σ (21 + A) (v2)) who (v0) (v1) (v2) (v3) ((k : Int) + 1) (v5 - 1) 0 = τ at *
  go_enter Try.func15, Try.ntmps15
  go_wp2_with fail
  go_region
  go_wp2_with fail
  go_region
  iterate 30 go_step
  refine st_mid 40 (.tmp 156) (.tmp 154) w.heap.size (who * 7) #[.int .i64 (v0), .int .i64 (v1), .int .i64 (v2), .int .i64 (v3), .int .i64 ((k : Int) + 1), .int .i64 (v5 - 1), .int .u8 0] ?_ ?_ ?_ ?_ ?_ ?_
  · rfl
  · rfl
  · exact there4d _ (((rst σ).setIfInBounds (21 + A) (.int .i64 (v2)))) _ _ _ _ _ (by simp [rst_size]; omega)
  · exact info_rthread
  · exact one7 _ _ _ _ _ _ _
  iterate 5 go_step
  refine ld_row 45 (.tmp 4) w.heap.size ?_ (rst τ) ?_ Try.underlying45 rfl ?_ ?_
  · rfl
  · rw [← HP.out]; exact (after4d _ (((rst σ).setIfInBounds (21 + A) (.int .i64 (v2)))) _ _ _ _ _).1
  · exact info_rstate τ
  refine st_row 45 (.tmp 6) (.tmp 157) (w.heap.size + 1) (rst τ) ?_ ?_ (rst (fun _ => 0)) ?_ ?_ ?_ ?_ ?_
  · rfl
  · rfl
  · exact (after4d _ (((rst σ).setIfInBounds (21 + A) (.int .i64 (v2)))) _ _ _ _ _).2.1
  · exact info_rstate τ
  · rw [rst_size, rst_size]
  · exact HO.out
  go_wp2_with fail
  refine bodyPost_ret (v := .agg (rst τ)) (results_cell_row Try.results15 _ _ (w.heap.size + 1) 45 _ (0, 0) _ rfl (setRow_heap _ _ _ _ 45 (0, 0) (after4d _ (((rst σ).setIfInBounds (21 + A) (.int .i64 (v2)))) _ _ _ _ _).2.1) Try.underlying45 rfl (info_rstate τ)) rfl ⟨rfl, ?_⟩
  exact rgrown_setRow (after4d _ (((rst σ).setIfInBounds (21 + A) (.int .i64 (v2)))) _ _ _ _ _).2.2 (by omega) _

set_option maxHeartbeats 1000000 in
set_option maxRecDepth 100000 in
theorem rturn119_3 (w : World) (s : ByteArray) (L : List (List Nat)) (σ : Nat → Int) (who g cap g2 len cp k : Nat) (A : Nat) (At : Int) (H : RTurnAt w s L σ who g cap g2 len cp k 119 ((A : Int)) (3) At)
    (v0 v1 v2 v3 v5 : Int) (h0 : σ (who * 7) = v0) (h1 : σ (who * 7 + 1) = v1) (h2 : σ (who * 7 + 2) = v2) (h3 : σ (who * 7 + 3) = v3) (h4 : σ (who * 7 + 4) = (k : Int)) (h5 : σ (who * 7 + 5) = v5) (h6 : σ (who * 7 + 6) = 0) (hf : 0 < v5) (hf9 : v5 ≤ 9) (hA : A < 3) (d : Int) (hd : σ (21 + A) = d) :
    Calls Try.prog 15 #[.slice (some ⟨g, 0, none⟩) L.length cap, .agg (rst σ), .int .i64 (who : Int)] w fun e w' => e = .returned (.agg (rst (updT (upd σ (21 + A) (v3)) who (v0) (v1) (v2) (v3) ((k : Int) + 1) (v5 - 1) 0))) ∧ w.grownBy w' none := by
  obtain ⟨hw, hw3, hl3, hkl, hl8, hg, hg2, c2, c3, e0, e1, e2, e3, f0, f1, f2, f3, g0, g1, g2', g3, g4, g5, g6⟩ := H.facts h0 h1 h2 h3 h4 h5 h6
  have gd := rst_int σ (21 + A) (by omega) (by omega) (by omega) (by omega)
  rw [hd] at gd
  have hput := putRow_rst (upd σ (21 + A) (v3)) who hw3 (v0) (v1) (v2) (v3) ((k : Int) + 1) (v5 - 1) 0 0 rfl
  rw [← rst_set σ (21 + A) (v3) (by omega) (by omega) (by omega)] at hput
  have HP : Hid _ := hput
  have HO : Hid _ := rst_oneCell (updT (upd σ (21 + A) (v3)) who (v0) (v1) (v2) (v3) ((k : Int) + 1) (v5 - 1) 0)
  clear H h0 h1 h2 h3 h4 h5 h6 hput
  generalize updT (upd σ (21 + A) (v3)) who (v0) (v1) (v2) (v3) ((k : Int) + 1) (v5 - 1) 0 = τ at *
  go_enter Try.func15, Try.ntmps15
  go_wp2_with fail
  go_region
  go_wp2_with fail
  go_region
  iterate 30 go_step
  refine st_mid 40 (.tmp 156) (.tmp 154) w.heap.size (who * 7) #[.int .i64 (v0), .int .i64 (v1), .int .i64 (v2), .int .i64 (v3), .int .i64 ((k : Int) + 1), .int .i64 (v5 - 1), .int .u8 0] ?_ ?_ ?_ ?_ ?_ ?_
  · rfl
  · rfl
  · exact there4d _ (((rst σ).setIfInBounds (21 + A) (.int .i64 (v3)))) _ _ _ _ _ (by simp [rst_size]; omega)
  · exact info_rthread
  · exact one7 _ _ _ _ _ _ _
  iterate 5 go_step
  refine ld_row 45 (.tmp 4) w.heap.size ?_ (rst τ) ?_ Try.underlying45 rfl ?_ ?_
  · rfl
  · rw [← HP.out]; exact (after4d _ (((rst σ).setIfInBounds (21 + A) (.int .i64 (v3)))) _ _ _ _ _).1
  · exact info_rstate τ
  refine st_row 45 (.tmp 6) (.tmp 157) (w.heap.size + 1) (rst τ) ?_ ?_ (rst (fun _ => 0)) ?_ ?_ ?_ ?_ ?_
  · rfl
  · rfl
  · exact (after4d _ (((rst σ).setIfInBounds (21 + A) (.int .i64 (v3)))) _ _ _ _ _).2.1
  · exact info_rstate τ
  · rw [rst_size, rst_size]
  · exact HO.out
  go_wp2_with fail
  refine bodyPost_ret (v := .agg (rst τ)) (results_cell_row Try.results15 _ _ (w.heap.size + 1) 45 _ (0, 0) _ rfl (setRow_heap _ _ _ _ 45 (0, 0) (after4d _ (((rst σ).setIfInBounds (21 + A) (.int .i64 (v3)))) _ _ _ _ _).2.1) Try.underlying45 rfl (info_rstate τ)) rfl ⟨rfl, ?_⟩
  exact rgrown_setRow (after4d _ (((rst σ).setIfInBounds (21 + A) (.int .i64 (v3)))) _ _ _ _ _).2.2 (by omega) _
end Go.Proofs.Ytifidfgihpkgcaa

