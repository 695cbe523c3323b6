import Derived.Test.YtifidfgihpkgcaaPa14
import Derived.ScopeJumps
import Derived.WalkKit
import Derived.WalkMore
import Derived.Test.YtifidfgihpkgcaaPa01
set_option linter.unusedSimpArgs false
set_option linter.unusedVariables false
namespace Go.Proofs.Ytifidfgihpkgcaa
open Go.RowKit Wv

theorem kept3 {w w1 : World} {A B C : Obj} {n : Nat} (hg : ((((w.alloc A).alloc B).alloc C).drewN n).grownBy w1 none) : w1.heap[w.heap.size + 2]? = some C ∧ w.grownBy w1 none := by
  have hs : (((w.alloc A).alloc B).alloc C).heap.size = w.heap.size + 3 := by simp
  refine ⟨?_, grownBy_trans (grownBy_trans (grown3 w A B C) (grownBy_drewN _ n none)) hg⟩
  rw [hg.block _ (by show _ < (((w.alloc A).alloc B).alloc C).heap.size; omega) (by simp)]
  exact (heap3 w A B C).2.2

theorem set3 (w : World) (A B C : Obj) (n i : Nat) (v : Value) : (((((w.alloc A).alloc B).alloc C).drewN n).setCell ⟨w.heap.size, i, none⟩ v).heap[w.heap.size + 2]? = some C ∧ w.grownBy (((((w.alloc A).alloc B).alloc C).drewN n).setCell ⟨w.heap.size, i, none⟩ v) none := by
  refine ⟨?_, ?_⟩
  · rw [heap_setCell_other _ _ _ _ (by simp)]; exact (heap3 w A B C).2.2
  · refine ⟨rfl, rfl, rfl, by simp; omega, fun k hk _ => ?_⟩
    rw [heap_setCell_other _ _ _ _ (by simp; omega)]
    exact (grown3 w A B C).block k hk (by simp)

set_option maxHeartbeats 1000000 in
set_option maxRecDepth 100000 in
theorem letLockGo_no (σ : Nat → Int) (who : Nat) (k : Nat) (x0 x1 x2 x3 x5 x6 : Int) (hk : k < 2) (hne : (σ (24 + k) != (who : Int) + 1) = true) (b0 : 1 ≤ σ (who * 7 + 4)) (b1 : σ (who * 7 + 4) ≤ 9) (w : World) (hw : who < 3) :
    Calls Try.prog 47 #[.agg (cst σ), .int .i64 (who : Int), .agg #[.int .u8 x0, .int .u8 x1, .int .u8 x2, .int .u8 x3, .int .u8 (k : Int), .int .u8 x5, .int .i64 x6]] w fun e w' =>
      e = .returned (.agg (cst (upd (upd σ (who * 7 + 6) ((1 : Nat) : Int)) (who * 7 + 4) (σ (who * 7 + 4) - 1)))) ∧ w.grownBy w' none := by
  have g0 := cst_get σ (24 + k) (by omega)
  go_enter Try.func47, Try.ntmps47
  go_wp2_with fail
  go_quiet ((go_at_call 63; exact Calls.quiet_of_same (owner_any who _ hw)))
  go_wp2_with (first | (refine wpList_load_row rfl 72 (.tmp 3) rfl w.heap.size rfl 72 (cst (σ)) (0, 0) _ (by exact (heap3 _ _ _ _).1) Try.underlying72 rfl (info_state _) ?_) | (go_at_call 64; go_must (refine Calls.mono (stop_any σ who 1 _ hw (by omega) b0 b1) ?_; rintro e w1 ⟨rfl, hg⟩; have hk3 := kept3 hg; have HK : Hid _ := hk3; clear hk3 hg)) | (refine wpList_store_row rfl 72 (.tmp 6) (.tmp 17) rfl (w.heap.size + 1 + 1) (cst (upd (upd σ (who * 7 + 6) ((1 : Nat) : Int)) (who * 7 + 4) (σ (who * 7 + 4) - 1))) rfl rfl 72 _ HK.out.1 (info_state _) (by rw [cst_size]; rfl) (cst_oneCell _) ?_))
  refine bodyPost_ret (v := .agg (cst (upd (upd σ (who * 7 + 6) ((1 : Nat) : Int)) (who * 7 + 4) (σ (who * 7 + 4) - 1)))) (results_cell_row Try.results47 _ _ (w.heap.size + 1 + 1) 72 _ (0, 0) _ rfl (setRow_heap _ _ _ _ 72 (0, 0) HK.out.1) Try.underlying72 rfl (info_state _)) rfl ⟨rfl, ?_⟩
  exact grownBy_setRow HK.out.2 (by omega) _

set_option maxHeartbeats 1000000 in
set_option maxRecDepth 100000 in
theorem letLockGo_yes (σ : Nat → Int) (who : Nat) (k : Nat) (x0 x1 x2 x3 x5 x6 : Int) (hk : k < 2) (hne : (σ (24 + k) != (who : Int) + 1) = false) (w : World) (hw : who < 3) :
    Calls Try.prog 47 #[.agg (cst σ), .int .i64 (who : Int), .agg #[.int .u8 x0, .int .u8 x1, .int .u8 x2, .int .u8 x3, .int .u8 (k : Int), .int .u8 x5, .int .i64 x6]] w fun e w' =>
      e = .returned (.agg (cst (upd σ (24 + k) 0))) ∧ w.grownBy w' none := by
  have g0 := cst_get σ (24 + k) (by omega)
  go_enter Try.func47, Try.ntmps47
  go_wp2_with fail
  go_quiet ((go_at_call 63; exact Calls.quiet_of_same (owner_any who _ hw)))
  go_wp2_with (first | (refine wpList_load_row rfl 72 (.tmp 3) rfl w.heap.size rfl 72 (cst (upd σ (24 + k) 0)) (0, 0) _ (by rw [← cst_set]; exact heap_setCell_same _ _ _ _ _ _ (heap3 _ _ _ _).1) Try.underlying72 rfl (info_state _) ?_) | (refine wpList_store_row rfl 72 (.tmp 6) (.tmp 22) rfl (w.heap.size + 1 + 1) (cst (upd σ (24 + k) 0)) rfl rfl 72 _ (set3 _ _ _ _ _ _ _).1 (info_state _) (by rw [cst_size]; rfl) (cst_oneCell _) ?_))
  refine bodyPost_ret (v := .agg (cst (upd σ (24 + k) 0))) (results_cell_row Try.results47 _ _ (w.heap.size + 1 + 1) 72 _ (0, 0) _ rfl (setRow_heap _ _ _ _ 72 (0, 0) (set3 _ _ _ _ _ _ _).1) Try.underlying72 rfl (info_state _)) rfl ⟨rfl, ?_⟩
  exact grownBy_setRow (set3 _ _ _ _ _ _ _).2 (by omega) _

set_option maxHeartbeats 1000000 in
set_option maxRecDepth 100000 in
theorem goIfZero_yes (σ : Nat → Int) (who : Nat) (a d : Nat) (x0 x2 x3 x4 x6 : Int) (ha : a < 4) (hd : d ≤ 9) (hz : (σ (who * 7 + a) == 0) = true) (w : World) (hw : who < 3) :
    Calls Try.prog 48 #[.agg (cst σ), .int .i64 (who : Int), .agg #[.int .u8 x0, .int .u8 (a : Int), .int .u8 x2, .int .u8 x3, .int .u8 x4, .int .u8 (d : Int), .int .i64 x6]] w fun e w' =>
      e = .returned (.agg (cst (upd σ (who * 7 + 4) d))) ∧ w.grownBy w' none := by
  have g0 := cst_get σ (who * 7 + a) (by omega)
  go_enter Try.func48, Try.ntmps48
  go_wp2_with fail
  go_quiet (fail)
  go_wp2_with (first | (refine wpList_load_row rfl 72 (.tmp 3) rfl w.heap.size rfl 72 (cst (σ)) (0, 0) _ (by exact (heap3 _ _ _ _).1) Try.underlying72 rfl (info_state _) ?_) | (go_at_call 49; go_must (refine Calls.mono (goTo_any σ who d _ _ _ _ _ _ hd _ hw) ?_; rintro e w1 ⟨rfl, hg⟩; have hk3 := kept3 hg; have HK : Hid _ := hk3; clear hk3 hg)) | (refine wpList_store_row rfl 72 (.tmp 6) (.tmp 19) rfl (w.heap.size + 1 + 1) (cst (upd σ (who * 7 + 4) d)) rfl rfl 72 _ HK.out.1 (info_state _) (by rw [cst_size]; rfl) (cst_oneCell _) ?_))
  refine bodyPost_ret (v := .agg (cst (upd σ (who * 7 + 4) d))) (results_cell_row Try.results48 _ _ (w.heap.size + 1 + 1) 72 _ (0, 0) _ rfl (setRow_heap _ _ _ _ 72 (0, 0) HK.out.1) Try.underlying72 rfl (info_state _)) rfl ⟨rfl, ?_⟩
  exact grownBy_setRow HK.out.2 (by omega) _

set_option maxHeartbeats 1000000 in
set_option maxRecDepth 100000 in
theorem goIfZero_no (σ : Nat → Int) (who : Nat) (a d : Nat) (x0 x2 x3 x4 x6 : Int) (ha : a < 4) (hd : d ≤ 9) (hz : (σ (who * 7 + a) == 0) = false) (w : World) (hw : who < 3) :
    Calls Try.prog 48 #[.agg (cst σ), .int .i64 (who : Int), .agg #[.int .u8 x0, .int .u8 (a : Int), .int .u8 x2, .int .u8 x3, .int .u8 x4, .int .u8 (d : Int), .int .i64 x6]] w fun e w' =>
      e = .returned (.agg (cst (σ))) ∧ w.grownBy w' none := by
  have g0 := cst_get σ (who * 7 + a) (by omega)
  go_enter Try.func48, Try.ntmps48
  go_wp2_with fail
  go_quiet (fail)
  go_wp2_with (first | (refine wpList_load_row rfl 72 (.tmp 3) rfl w.heap.size rfl 72 (cst (σ)) (0, 0) _ (by exact (heap3 _ _ _ _).1) Try.underlying72 rfl (info_state _) ?_) | (refine wpList_store_row rfl 72 (.tmp 6) (.tmp 20) rfl (w.heap.size + 1 + 1) (cst (σ)) rfl rfl 72 _ (heap3 _ _ _ _).2.2 (info_state _) (by rw [cst_size]; rfl) (cst_oneCell _) ?_))
  refine bodyPost_ret (v := .agg (cst (σ))) (results_cell_row Try.results48 _ _ (w.heap.size + 1 + 1) 72 _ (0, 0) _ rfl (setRow_heap _ _ _ _ 72 (0, 0) (heap3 _ _ _ _).2.2) Try.underlying72 rfl (info_state _)) rfl ⟨rfl, ?_⟩
  exact grownBy_setRow (grownBy_trans (grown3 w _ _ _) (grownBy_drewN _ _ none)) (by omega) _

set_option maxHeartbeats 1000000 in
set_option maxRecDepth 100000 in
theorem claim_yes (σ : Nat → Int) (who : Nat) (a : Nat) (x0 x2 x3 x4 x5 x6 : Int) (ha : a < 4) (hz : (σ (who * 7 + a) == 0) = true) (b0 : 1 ≤ σ (who * 7 + 4)) (b1 : σ (who * 7 + 4) ≤ 9) (w : World) (hw : who < 3) :
    Calls Try.prog 50 #[.agg (cst σ), .int .i64 (who : Int), .agg #[.int .u8 x0, .int .u8 (a : Int), .int .u8 x2, .int .u8 x3, .int .u8 x4, .int .u8 x5, .int .i64 x6]] w fun e w' =>
      e = .returned (.agg (cst (upd (upd σ (who * 7 + 6) ((2 : Nat) : Int)) (who * 7 + 4) (σ (who * 7 + 4) - 1)))) ∧ w.grownBy w' none := by
  have g0 := cst_get σ (who * 7 + a) (by omega)
  go_enter Try.func50, Try.ntmps50
  go_wp2_with fail
  go_quiet (fail)
  go_wp2_with (first | (refine wpList_load_row rfl 72 (.tmp 3) rfl w.heap.size rfl 72 (cst (σ)) (0, 0) _ (by exact (heap3 _ _ _ _).1) Try.underlying72 rfl (info_state _) ?_) | (go_at_call 64; go_must (refine Calls.mono (stop_any σ who 2 _ hw (by omega) b0 b1) ?_; rintro e w1 ⟨rfl, hg⟩; have hk3 := kept3 hg; have HK : Hid _ := hk3; clear hk3 hg)) | (refine wpList_store_row rfl 72 (.tmp 6) (.tmp 18) rfl (w.heap.size + 1 + 1) (cst (upd (upd σ (who * 7 + 6) ((2 : Nat) : Int)) (who * 7 + 4) (σ (who * 7 + 4) - 1))) rfl rfl 72 _ HK.out.1 (info_state _) (by rw [cst_size]; rfl) (cst_oneCell _) ?_))
  refine bodyPost_ret (v := .agg (cst (upd (upd σ (who * 7 + 6) ((2 : Nat) : Int)) (who * 7 + 4) (σ (who * 7 + 4) - 1)))) (results_cell_row Try.results50 _ _ (w.heap.size + 1 + 1) 72 _ (0, 0) _ rfl (setRow_heap _ _ _ _ 72 (0, 0) HK.out.1) Try.underlying72 rfl (info_state _)) rfl ⟨rfl, ?_⟩
  exact grownBy_setRow HK.out.2 (by omega) _

set_option maxHeartbeats 1000000 in
set_option maxRecDepth 100000 in
theorem claim_no (σ : Nat → Int) (who : Nat) (a : Nat) (x0 x2 x3 x4 x5 x6 : Int) (ha : a < 4) (hz : (σ (who * 7 + a) == 0) = false) (w : World) (hw : who < 3) :
    Calls Try.prog 50 #[.agg (cst σ), .int .i64 (who : Int), .agg #[.int .u8 x0, .int .u8 (a : Int), .int .u8 x2, .int .u8 x3, .int .u8 x4, .int .u8 x5, .int .i64 x6]] w fun e w' =>
      e = .returned (.agg (cst (σ))) ∧ w.grownBy w' none := by
  have g0 := cst_get σ (who * 7 + a) (by omega)
  go_enter Try.func50, Try.ntmps50
  go_wp2_with fail
  go_quiet (fail)
  go_wp2_with (first | (refine wpList_load_row rfl 72 (.tmp 3) rfl w.heap.size rfl 72 (cst (σ)) (0, 0) _ (by exact (heap3 _ _ _ _).1) Try.underlying72 rfl (info_state _) ?_) | (refine wpList_store_row rfl 72 (.tmp 6) (.tmp 19) rfl (w.heap.size + 1 + 1) (cst (σ)) rfl rfl 72 _ (heap3 _ _ _ _).2.2 (info_state _) (by rw [cst_size]; rfl) (cst_oneCell _) ?_))
  refine bodyPost_ret (v := .agg (cst (σ))) (results_cell_row Try.results50 _ _ (w.heap.size + 1 + 1) 72 _ (0, 0) _ rfl (setRow_heap _ _ _ _ 72 (0, 0) (heap3 _ _ _ _).2.2) Try.underlying72 rfl (info_state _)) rfl ⟨rfl, ?_⟩
  exact grownBy_setRow (grownBy_trans (grown3 w _ _ _) (grownBy_drewN _ _ none)) (by omega) _

end Go.Proofs.Ytifidfgihpkgcaa

namespace Go.Proofs.Ytifidfgihpkgcaa

/-- As Q; by a goto: J of its label. -/
def jmp (J : Nat → Act → World → Prop) (Q : Exit → Act → World → Prop) : Exit → Act → World → Prop
  | .goto l, a, w => J l a w
  | e, a, w => Q e a w

section
variable {J : Nat → Act → World → Prop} {Q : Exit → Act → World → Prop} {a : Act} {w : World}
@[go_sem] theorem jmp_normal : jmp J Q .normal a w = Q .normal a w := rfl
@[go_sem] theorem jmp_exit (id : Nat) : jmp J Q (.exit id) a w = Q (.exit id) a w := rfl
@[go_sem] theorem jmp_ret : jmp J Q .ret a w = Q .ret a w := rfl
@[go_sem] theorem jmp_panic (ch : List PanicEntry) : jmp J Q (.panic ch) a w = Q (.panic ch) a w := rfl
@[go_sem] theorem jmp_goto (l : Nat) : jmp J Q (.goto l) a w = J l a w := rfl
end

section
variable {P : Program} {a : Act} {w : World} {Q : Exit → Act → World → Prop}

/-- A scope in which the run jumps to whatever labels: what holds at every jump, and a measure that every pass from a label lowers. -/
theorem wp_scope_all {c : Code} (J : Nat → Act → World → Prop) (μ : Nat → Act → World → Nat)
    (first : c.wp P (jmp J Q) a w)
    (pass : ∀ l a w, J l a w → ∃ rest, findLabel c l = some rest ∧ rest.wp P (jmp (fun l' a' w' => J l' a' w' ∧ μ l' a' w' < μ l a w) Q) a w) :
    (Code.scope c).wp P Q a w := by
  intro b k cs
  have key : ∀ n l a w, μ l a w = n → J l a w → ∃ rest, findLabel c l = some rest ∧ ∃ e a' w', Q e a' w' ∧ Arrives P (lone (b.at a (.code rest :: .inScope c :: k)) cs w) b k cs e a' w' := by
    intro n
    induction n using Nat.strongRecOn with
    | _ n ih =>
      intro l a w hn hJ
      obtain ⟨rest, hf, hp⟩ := pass l a w hJ
      refine ⟨rest, hf, ?_⟩
      obtain ⟨e, a₁, w₁, hq, harr⟩ := hp b (.inScope c :: k) cs
      cases e with
      | normal => exact ⟨.normal, a₁, w₁, hq, Steps.trans harr (.one step_inScope)⟩
      | exit id => exact ⟨.exit id, a₁, w₁, hq, fun k' hk => harr k' (by simp [exitTo, hk])⟩
      | goto l' =>
        obtain ⟨hJ', hlt⟩ := hq
        obtain ⟨rest', hf', e₂, a₂, w₂, hq₂, harr₂⟩ := ih _ (by omega) l' a₁ w₁ rfl hJ'
        have hg : gotoIn l' (.inScope c :: k) = some (.code rest' :: .inScope c :: k) := by simp [gotoIn, hf']
        exact ⟨e₂, a₂, w₂, hq₂, .of_steps (harr _ hg) harr₂⟩
      | ret => exact ⟨_, a₁, w₁, hq, harr⟩
      | panic ch => exact ⟨_, a₁, w₁, hq, harr⟩
      | outgrown => exact ⟨_, a₁, w₁, hq, harr⟩
  obtain ⟨e, a₁, w₁, hq, harr⟩ := first b (.inScope c :: k) cs
  cases e with
  | normal => exact ⟨.normal, a₁, w₁, hq, .head step_scope (Steps.trans harr (.one step_inScope))⟩
  | exit id => exact ⟨.exit id, a₁, w₁, hq, fun k' hk => .head step_scope (harr k' (by simp [exitTo, hk]))⟩
  | goto l' =>
    obtain ⟨rest', hf', e₂, a₂, w₂, hq₂, harr₂⟩ := key _ l' a₁ w₁ rfl hq
    have hg : gotoIn l' (.inScope c :: k) = some (.code rest' :: .inScope c :: k) := by simp [gotoIn, hf']
    exact ⟨e₂, a₂, w₂, hq₂, .of_steps (.head step_scope (harr _ hg)) harr₂⟩
  | ret => exact ⟨_, a₁, w₁, hq, .of_steps (.one step_scope) harr⟩
  | panic ch => exact ⟨_, a₁, w₁, hq, .of_steps (.one step_scope) harr⟩
  | outgrown => exact ⟨_, a₁, w₁, hq, .of_steps (.one step_scope) harr⟩

/-- A scope in which the run jumps at most once. -/
theorem wp_scope_once {c : Code}
    (h : c.wp P (jmp (fun l a w => ∃ rest, findLabel c l = some rest ∧ rest.wp P (Exit.noGoto Q) a w) Q) a w) : (Code.scope c).wp P Q a w := by
  refine wp_scope_all (fun l a w => ∃ rest, findLabel c l = some rest ∧ rest.wp P (Exit.noGoto Q) a w) (fun _ _ _ => 0) h ?_
  rintro l a w ⟨rest, hf, hr⟩
  refine ⟨rest, hf, wp_mono hr ?_⟩
  intro e a w hq
  cases e with
  | goto l => exact False.elim hq
  | normal => exact hq
  | exit id => exact hq
  | ret => exact hq
  | panic ch => exact hq
  | outgrown => exact hq
end
end Go.Proofs.Ytifidfgihpkgcaa

set_option linter.unusedSimpArgs false
set_option linter.unusedVariables false
namespace Go.Proofs.Ytifidfgihpkgcaa
open Go.RowKit Wv

theorem blk7 {w : World} {b : Nat} {v0 v1 v2 v3 v4 v5 v6 : Value} {t : TypeId} (h : w.heap[b]? = some (.cells #[v0, v1, v2, v3, v4, v5, v6] t (0, 0))) :
    w.cell? ⟨b, 0, none⟩ = some v0 ∧ w.cell? ⟨b, 1, none⟩ = some v1 ∧ w.cell? ⟨b, 2, none⟩ = some v2 ∧ w.cell? ⟨b, 3, none⟩ = some v3 ∧ w.cell? ⟨b, 4, none⟩ = some v4 ∧
    w.cell? ⟨b, 5, none⟩ = some v5 ∧ w.cell? ⟨b, 6, none⟩ = some v6 ∧ ∀ o, w.frozen? ⟨b, o, none⟩ = false := by
  refine ⟨?_, ?_, ?_, ?_, ?_, ?_, ?_, fun o => ?_⟩ <;> simp [World.cell?, World.frozen?, h]

/-- In mid-step: the reader, the result's block (still zero), the step's own block. -/
structure St (w w1 : World) (b : Nat) (s : ByteArray) (i : Nat) (cs : Array Value) : Prop where
  old : b < w.heap.size
  rd : RdAt w1 b s i
  grow : w.grownBy w1 (some b)
  res : w1.heap[w.heap.size]? = some (.cells #[.int .u8 0, .int .u8 0, .int .u8 0, .int .u8 0, .int .u8 0, .int .u8 0, .int .i64 0] 102 (0, 0))
  st : w1.heap[w.heap.size + 1]? = some (.cells cs 102 (0, 0))

theorem grownBy_alloc_of {w w1 : World} {r : Option Nat} (h : w.grownBy w1 r) (o : Obj) : w.grownBy (w1.alloc o) r := grownBy_trans h (World.grownBy_alloc w1 o r)
theorem grownBy_set_new {w w1 : World} {r : Option Nat} (h : w.grownBy w1 r) {g : Nat} (hg : w.heap.size ≤ g) (o : Nat) (v : Value) : w.grownBy (w1.setCell ⟨g, o, none⟩ v) r := by
  refine ⟨h.os, h.tape, h.output, by simpa [World.setCell] using h.size, fun k hk hr => ?_⟩
  have hne : g ≠ k := by omega
  rw [← h.block k hk hr]
  simp [World.setCell, Array.getElem?_modify, hne]

theorem heap_setCell_same {w : World} {g : Nat} {cs : Array Value} {t : TypeId} (h : w.heap[g]? = some (.cells cs t (0, 0))) (k : Nat) (v : Value) :
    (w.setCell ⟨g, k, none⟩ v).heap[g]? = some (.cells (cs.setIfInBounds k v) t (0, 0)) := by
  simp [World.setCell, Array.getElem?_modify, h]
theorem heap_setCell_ne {w : World} {g j : Nat} (h : g ≠ j) (k : Nat) (v : Value) : (w.setCell ⟨g, k, none⟩ v).heap[j]? = w.heap[j]? := by
  simp [World.setCell, Array.getElem?_modify, h]

theorem St.call {w w1 w2 : World} {b : Nat} {s : ByteArray} {i j : Nat} {cs : Array Value} (h : St w w1 b s i cs) (hr : RdAt w2 b s j) (hg : w1.grownBy w2 (some b)) : St w w2 b s j cs := by
  have hb := h.old
  refine ⟨h.old, hr, grownBy_trans h.grow hg, ?_, ?_⟩
  · rw [hg.block _ (lt_of_block h.res) (by simp; omega)]; exact h.res
  · rw [hg.block _ (lt_of_block h.st) (by simp; omega)]; exact h.st

theorem St.store {w w1 : World} {b : Nat} {s : ByteArray} {i : Nat} {cs : Array Value} (h : St w w1 b s i cs) (k : Nat) (v : Value) {cs' : Array Value} (hcs : cs.setIfInBounds k v = cs') :
    St w (w1.setCell ⟨w.heap.size + 1, k, none⟩ v) b s i cs' := by
  have hb := h.old
  subst hcs
  refine ⟨h.old, ⟨?_⟩, grownBy_set_new h.grow (by omega) _ _, ?_, heap_setCell_same h.st k v⟩
  · rw [heap_setCell_ne (by omega)]; exact h.rd.blk
  · rw [heap_setCell_ne (by omega)]; exact h.res

theorem St.start {w : World} {b : Nat} {s : ByteArray} {i : Nat} (h : RdAt w b s i) (n : Nat) (v : Int) (hv : v = ((i + 1 : Nat) : Int)) (cs : Array Value) :
    St w ((((w.alloc (.cells #[.int .u8 0, .int .u8 0, .int .u8 0, .int .u8 0, .int .u8 0, .int .u8 0, .int .i64 0] 102)).drewN n).setCell ⟨b, 1, none⟩ (.int .i64 v)).alloc (.cells cs 102)) b s (i + 1) cs := by
  have hlt := h.lt
  have h1 : RdAt (((w.alloc (.cells #[.int .u8 0, .int .u8 0, .int .u8 0, .int .u8 0, .int .u8 0, .int .u8 0, .int .i64 0] 102)).drewN n).setCell ⟨b, 1, none⟩ (.int .i64 v)) b s (i + 1) := ((h.alloc _).drewN n).set (i + 1) v hv
  have hsz : (((w.alloc (.cells #[.int .u8 0, .int .u8 0, .int .u8 0, .int .u8 0, .int .u8 0, .int .u8 0, .int .i64 0] 102)).drewN n).setCell ⟨b, 1, none⟩ (.int .i64 v)).heap.size = w.heap.size + 1 := by simp
  refine ⟨hlt, h1.alloc _, ?_, ?_, ?_⟩
  · exact grownBy_alloc_of (grownBy_trans (grownBy_trans (World.grownBy_alloc w _ _) (grownBy_drewN _ n _)) (grownBy_setCell _ _ _ _)) _
  · rw [heap_alloc_old _ _ (by rw [hsz]; omega), heap_setCell_ne (by omega)]
    exact heap_alloc_new w _
  · rw [← hsz]
    exact heap_alloc_new _ _

theorem sNumber_yes {w w1 : World} {b : Nat} {s : ByteArray} {i : Nat} {cs : Array Value} (h : St w w1 b s i cs) (hi1 : i ≤ s.size) (hs : s.size ≤ 150) (hlo : 97 ≤ pk s i) (hhi : pk s i ≤ 100) :
    Calls Try.prog 59 #[.pointer (some ⟨b, 0, none⟩)] w1 fun e w' => e = .returned (.int .u8 (pk s i - 97)) ∧ St w w' b s (i + 1) cs :=
  (takeNumber_yes s i b w1 h.rd hi1 hs hlo hhi).mono fun _ _ ⟨h1, h2, h3⟩ => ⟨h1, h.call h2 h3⟩
theorem sNumber_no {w w1 : World} {b : Nat} {s : ByteArray} {i : Nat} {cs : Array Value} (h : St w w1 b s i cs) (hi1 : i ≤ s.size) (hs : s.size ≤ 150) (hno : pk s i < 97 ∨ 100 < pk s i) :
    Calls Try.prog 59 #[.pointer (some ⟨b, 0, none⟩)] w1 fun e w' => e = .panicked (refusal 2 i) ∧ w.grownBy w' (some b) :=
  (takeNumber_no s i b w1 h.rd hi1 hs hno).mono fun _ _ ⟨h1, h2⟩ => ⟨h1, grownBy_trans h.grow h2⟩
theorem sCell_yes {w w1 : World} {b : Nat} {s : ByteArray} {i : Nat} {cs : Array Value} (h : St w w1 b s i cs) (hi1 : i ≤ s.size) (hs : s.size ≤ 150) (hlo : 120 ≤ pk s i) (hhi : pk s i ≤ 122) :
    Calls Try.prog 61 #[.pointer (some ⟨b, 0, none⟩)] w1 fun e w' => e = .returned (.int .u8 (pk s i - 120)) ∧ St w w' b s (i + 1) cs :=
  (takeCell_yes s i b w1 h.rd hi1 hs hlo hhi).mono fun _ _ ⟨h1, h2, h3⟩ => ⟨h1, h.call h2 h3⟩
theorem sCell_no {w w1 : World} {b : Nat} {s : ByteArray} {i : Nat} {cs : Array Value} (h : St w w1 b s i cs) (hi1 : i ≤ s.size) (hs : s.size ≤ 150) (hno : pk s i < 120 ∨ 122 < pk s i) :
    Calls Try.prog 61 #[.pointer (some ⟨b, 0, none⟩)] w1 fun e w' => e = .panicked (refusal 2 i) ∧ w.grownBy w' (some b) :=
  (takeCell_no s i b w1 h.rd hi1 hs hno).mono fun _ _ ⟨h1, h2⟩ => ⟨h1, grownBy_trans h.grow h2⟩
theorem sLock_yes {w w1 : World} {b : Nat} {s : ByteArray} {i : Nat} {cs : Array Value} (h : St w w1 b s i cs) (hi1 : i ≤ s.size) (hs : s.size ≤ 150) (hlo : 109 ≤ pk s i) (hhi : pk s i ≤ 110) :
    Calls Try.prog 62 #[.pointer (some ⟨b, 0, none⟩)] w1 fun e w' => e = .returned (.int .u8 (pk s i - 109)) ∧ St w w' b s (i + 1) cs :=
  (takeLock_yes s i b w1 h.rd hi1 hs hlo hhi).mono fun _ _ ⟨h1, h2, h3⟩ => ⟨h1, h.call h2 h3⟩
theorem sLock_no {w w1 : World} {b : Nat} {s : ByteArray} {i : Nat} {cs : Array Value} (h : St w w1 b s i cs) (hi1 : i ≤ s.size) (hs : s.size ≤ 150) (hno : pk s i < 109 ∨ 110 < pk s i) :
    Calls Try.prog 62 #[.pointer (some ⟨b, 0, none⟩)] w1 fun e w' => e = .panicked (refusal 2 i) ∧ w.grownBy w' (some b) :=
  (takeLock_no s i b w1 h.rd hi1 hs hno).mono fun _ _ ⟨h1, h2⟩ => ⟨h1, grownBy_trans h.grow h2⟩
theorem sDigit_yes {w w1 : World} {b : Nat} {s : ByteArray} {i : Nat} {cs : Array Value} (h : St w w1 b s i cs) (hi1 : i ≤ s.size) (hs : s.size ≤ 150) (hlo : 48 ≤ pk s i) (hhi : pk s i ≤ 57) :
    Calls Try.prog 60 #[.pointer (some ⟨b, 0, none⟩)] w1 fun e w' => e = .returned (.int .u8 (pk s i - 48)) ∧ St w w' b s (i + 1) cs :=
  (takeDigit_yes s i b w1 h.rd hi1 hs hlo hhi).mono fun _ _ ⟨h1, h2, h3⟩ => ⟨h1, h.call h2 h3⟩
theorem sDigit_no {w w1 : World} {b : Nat} {s : ByteArray} {i : Nat} {cs : Array Value} (h : St w w1 b s i cs) (hi1 : i ≤ s.size) (hs : s.size ≤ 150) (hno : pk s i < 48 ∨ 57 < pk s i) :
    Calls Try.prog 60 #[.pointer (some ⟨b, 0, none⟩)] w1 fun e w' => e = .panicked (refusal 2 i) ∧ w.grownBy w' (some b) :=
  (takeDigit_no s i b w1 h.rd hi1 hs hno).mono fun _ _ ⟨h1, h2⟩ => ⟨h1, grownBy_trans h.grow h2⟩

theorem St.done {w w2 : World} {b : Nat} {s : ByteArray} {j : Nat} {cs : Array Value} (h : St w w2 b s j cs) (k : Nat) (v u0 u1 u2 u3 u4 u5 u6 : Value) :
    RdAt ((((((((w2.setCell ⟨w.heap.size + 1, k, none⟩ v).setCell ⟨w.heap.size, 0, none⟩ u0).setCell ⟨w.heap.size, 1, none⟩ u1).setCell ⟨w.heap.size, 2, none⟩ u2).setCell ⟨w.heap.size, 3, none⟩ u3).setCell ⟨w.heap.size, 4, none⟩ u4).setCell ⟨w.heap.size, 5, none⟩ u5).setCell ⟨w.heap.size, 6, none⟩ u6) b s j ∧
    w.grownBy ((((((((w2.setCell ⟨w.heap.size + 1, k, none⟩ v).setCell ⟨w.heap.size, 0, none⟩ u0).setCell ⟨w.heap.size, 1, none⟩ u1).setCell ⟨w.heap.size, 2, none⟩ u2).setCell ⟨w.heap.size, 3, none⟩ u3).setCell ⟨w.heap.size, 4, none⟩ u4).setCell ⟨w.heap.size, 5, none⟩ u5).setCell ⟨w.heap.size, 6, none⟩ u6) (some b) := by
  have hb := h.old
  have hne : w.heap.size ≠ b := by omega
  have hne1 : w.heap.size + 1 ≠ b := by omega
  refine ⟨⟨?_⟩, ?_⟩
  · simp only [heap_setCell_ne hne, heap_setCell_ne hne1]
    exact h.rd.blk
  · have h0 := Nat.le_refl w.heap.size
    exact grownBy_set_new (grownBy_set_new (grownBy_set_new (grownBy_set_new (grownBy_set_new (grownBy_set_new (grownBy_set_new (grownBy_set_new h.grow (by omega) _ _) h0 _ _) h0 _ _) h0 _ _) h0 _ _) h0 _ _) h0 _ _) h0 _ _

theorem pk_some {s : ByteArray} {i : Nat} (h : 0 ≤ pk s i) : i < s.size := by
  rcases Nat.lt_or_ge i s.size with h' | h'
  · exact h'
  · rw [pk_out (by omega)] at h; omega

end Go.Proofs.Ytifidfgihpkgcaa

set_option linter.unusedSimpArgs false
set_option linter.unusedVariables false
namespace Go.Proofs.Ytifidfgihpkgcaa
open Go.RowKit Wv

set_option maxHeartbeats 1000000 in
theorem readStep_61_ok (s : ByteArray) (i b : Nat) (w : World) (hb : RdAt w b s i) (hi : i ≤ s.size) (hs : s.size ≤ 150) (hc : pk s i = 61) (a0 : 97 ≤ pk s (i + 1)) (b0 : pk s (i + 1) ≤ 100) (a1 : 48 ≤ pk s (i + 1 + 1)) (b1 : pk s (i + 1 + 1) ≤ 57) :
    Calls Try.prog 40 #[.pointer (some ⟨b, 0, none⟩)] w fun e w' =>
      e = .returned (.agg #[.int .u8 61, .int .u8 (pk s (i + 1) - 97), .int .u8 0, .int .u8 0, .int .u8 0, .int .u8 (pk s (i + 1 + 1) - 48), .int .i64 ((i : Int) + 1 + 1)]) ∧ RdAt w' b s (i + 1 + 1 + 1) ∧ w.grownBy w' (some b) := by
  have l0 := pk_some (s := s) (i := i) (by omega)
  have l1 := pk_some (s := s) (i := i + 1) (by omega)
  have l2 := pk_some (s := s) (i := i + 1 + 1) (by omega)
  have hlt := hb.lt
  have c1 := hb.c1
  have fz := hb.f1
  have HB : Hid _ := hb
  clear hb
  have hp := fun o => peek_any s i b (w.alloc o) (HB.out.alloc o) hi hs
  simp only [hc] at hp
  have HP : Hid _ := hp
  clear hp hc
  go_enter Try.func40, Try.ntmps40
  go_wp2
  refine wp_scope_once ?_
  go_wp2_with (go_at_call 39; go_must (refine Calls.mono (HP.out _) ?_; rintro e w1 ⟨rfl, n, rfl⟩))
  go_step3
  refine ⟨_, rfl, ?_⟩
  go_wp2_with fail
  refine Calls.mono (sNumber_yes (St.start HB.out n _ (by omega) _) (by omega) hs a0 b0) ?_
  rintro e w2 ⟨rfl, h2⟩
  obtain ⟨q0, q1, q2, q3, q4, q5, q6, qf⟩ := blk7 h2.st
  have r1 := h2.rd.c1
  have H2 : Hid _ := h2
  clear h2 HP c1 fz
  go_wp2_with fail
  go_step3
  go_wp2_with fail
  refine Calls.mono (sDigit_yes ((H2.out.store 1 _ rfl).store 6 _ rfl) (by omega) hs a1 b1) ?_
  rintro e w3 ⟨rfl, h3⟩
  clear q0 q1 q2 q3 q4 q5 q6 qf r1
  obtain ⟨q0, q1, q2, q3, q4, q5, q6, qf⟩ := blk7 h3.st
  have r1 := h3.rd.c1
  obtain ⟨n0, n1, n2, n3, n4, n5, n6, nf⟩ := blk7 h3.res
  have H3 : Hid _ := h3
  clear h3 H2
  go_wp2_with fail
  rw [Exit.noGoto_ret]
  have hd := H3.out.done 5 (.int .u8 (pk s (i + 1 + 1) - 48)) (.int .u8 61) (.int .u8 (pk s (i + 1) - 97)) (.int .u8 0) (.int .u8 0) (.int .u8 0) (.int .u8 (pk s (i + 1 + 1) - 48)) (.int .i64 ((i : Int) + 1 + 1))
  refine bodyPost_ret (v := .agg #[.int .u8 61, .int .u8 (pk s (i + 1) - 97), .int .u8 0, .int .u8 0, .int .u8 0, .int .u8 (pk s (i + 1 + 1) - 48), .int .i64 ((i : Int) + 1 + 1)]) ?_ rfl ⟨rfl, hd.1, hd.2⟩
  simp [results, Try.results40, go_sem, n0, n1, n2, n3, n4, n5, n6]

set_option maxHeartbeats 1000000 in
theorem readStep_61_bad0 (s : ByteArray) (i b : Nat) (w : World) (hb : RdAt w b s i) (hi : i ≤ s.size) (hs : s.size ≤ 150) (hc : pk s i = 61) (hno : pk s (i + 1) < 97 ∨ 100 < pk s (i + 1)) :
    Calls Try.prog 40 #[.pointer (some ⟨b, 0, none⟩)] w fun e w' =>
      e = .panicked (refusal 2 ((i + 1 : Nat) : Int)) ∧ w.grownBy w' (some b) := by
  have l0 := pk_some (s := s) (i := i) (by omega)
  have hlt := hb.lt
  have c1 := hb.c1
  have fz := hb.f1
  have HB : Hid _ := hb
  clear hb
  have hp := fun o => peek_any s i b (w.alloc o) (HB.out.alloc o) hi hs
  simp only [hc] at hp
  have HP : Hid _ := hp
  clear hp hc
  go_enter Try.func40, Try.ntmps40
  go_wp2
  refine wp_scope_once ?_
  go_wp2_with (go_at_call 39; go_must (refine Calls.mono (HP.out _) ?_; rintro e w1 ⟨rfl, n, rfl⟩))
  go_step3
  refine ⟨_, rfl, ?_⟩
  go_wp2_with fail
  refine Calls.mono (sNumber_no (St.start HB.out n _ (by omega) _) (by omega) hs hno) ?_
  rintro e w2 ⟨rfl, hg⟩
  exact ⟨rfl, rfl, hg⟩

set_option maxHeartbeats 1000000 in
theorem readStep_61_bad1 (s : ByteArray) (i b : Nat) (w : World) (hb : RdAt w b s i) (hi : i ≤ s.size) (hs : s.size ≤ 150) (hc : pk s i = 61) (a0 : 97 ≤ pk s (i + 1)) (b0 : pk s (i + 1) ≤ 100) (hno : pk s (i + 1 + 1) < 48 ∨ 57 < pk s (i + 1 + 1)) :
    Calls Try.prog 40 #[.pointer (some ⟨b, 0, none⟩)] w fun e w' =>
      e = .panicked (refusal 2 ((i + 1 + 1 : Nat) : Int)) ∧ w.grownBy w' (some b) := by
  have l0 := pk_some (s := s) (i := i) (by omega)
  have l1 := pk_some (s := s) (i := i + 1) (by omega)
  have hlt := hb.lt
  have c1 := hb.c1
  have fz := hb.f1
  have HB : Hid _ := hb
  clear hb
  have hp := fun o => peek_any s i b (w.alloc o) (HB.out.alloc o) hi hs
  simp only [hc] at hp
  have HP : Hid _ := hp
  clear hp hc
  go_enter Try.func40, Try.ntmps40
  go_wp2
  refine wp_scope_once ?_
  go_wp2_with (go_at_call 39; go_must (refine Calls.mono (HP.out _) ?_; rintro e w1 ⟨rfl, n, rfl⟩))
  go_step3
  refine ⟨_, rfl, ?_⟩
  go_wp2_with fail
  refine Calls.mono (sNumber_yes (St.start HB.out n _ (by omega) _) (by omega) hs a0 b0) ?_
  rintro e w2 ⟨rfl, h2⟩
  obtain ⟨q0, q1, q2, q3, q4, q5, q6, qf⟩ := blk7 h2.st
  have r1 := h2.rd.c1
  have H2 : Hid _ := h2
  clear h2 HP c1 fz
  go_wp2_with fail
  go_step3
  go_wp2_with fail
  refine Calls.mono (sDigit_no ((H2.out.store 1 _ rfl).store 6 _ rfl) (by omega) hs hno) ?_
  rintro e w3 ⟨rfl, hg⟩
  exact ⟨rfl, rfl, hg⟩

end Go.Proofs.Ytifidfgihpkgcaa

