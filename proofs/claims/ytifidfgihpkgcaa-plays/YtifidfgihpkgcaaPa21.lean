import Derived.Test.YtifidfgihpkgcaaPa20
import Derived.Deep.RegionHeld
import Derived.Deep.RegionHeld3
import Derived.Test.YtifidfgihpkgcaaPa18
import Derived.Test.YtifidfgihpkgcaaPa02
set_option linter.unusedSimpArgs false
set_option linter.unusedVariables false
namespace Go.Proofs.Ytifidfgihpkgcaa
open Go.RowKit Wv

def PlayV (w : World) (r : ByteArray × Int × Int) (e : Ending) (w' : World) : Prop :=
  e = .returned (.tuple #[.string r.1, .int .i64 r.2.1, .int .i64 r.2.2]) ∧ w.grownBy w' none

/-- A frame of Play that gives up. -/
structure Given (w : World) (a : Act) (w1 : World) : Prop where
  s6 : a.tmps[6]? = some (.string ⟨#[]⟩)
  s7 : a.tmps[7]? = some (.pointer (some ⟨w.heap.size, 0, none⟩))
  s8 : a.tmps[8]? = some (.pointer (some ⟨w.heap.size + 1, 0, none⟩))
  df : a.defers = [{ target := Target.fn (Fn.func 20) #[.pointer (some ⟨w.heap.size, 0, none⟩), .pointer (some ⟨w.heap.size + 1, 0, none⟩)], args := #[] }]
  o1 : One w1 w.heap.size 22 (.int .i64 0)
  o2 : One w1 (w.heap.size + 1) 3 (.int .i64 0)
  gr : w.grownBy w1 none
theorem Given.put {w w1 : World} {a : Act} {d : Nat} {v : Value} (hd : d ≠ 6 ∧ d ≠ 7 ∧ d ≠ 8) (h : Given w (a.put (some d) v) w1) : Given w a w1 := by
  obtain ⟨h6, h7, h8, hd', o1, o2, gr⟩ := h
  refine ⟨?_, ?_, ?_, hd', o1, o2, gr⟩
  · simpa [Act.put, hd.1] using h6
  · simpa [Act.put, hd.2.1] using h7
  · simpa [Act.put, hd.2.2] using h8

set_option maxRecDepth 100000 in
theorem Given.leaves {w w1 : World} {a : Act} (h : Given w a w1) (e p : Int) :
    Leaves Try.prog Try.f9 a.tmps (fun e' w' => e' = .returned (.tuple #[.string ⟨#[]⟩, .int .i64 e, .int .i64 p]) ∧ w.grownBy w' none) a.defers (.panicking (refusal e p)) w1 := by
  obtain ⟨h6, h7, h8, hd, o1, o2, gr⟩ := h
  rw [hd]
  have hN : w.heap.size ≠ w.heap.size + 1 := by omega
  refine leaves_cons (f := 20) (args := #[.pointer (some ⟨w.heap.size, 0, none⟩), .pointer (some ⟨w.heap.size + 1, 0, none⟩)]) (by simp) (by simp [go_sem]) ?_
  refine CallsD.mono (catchPlay_panicking _ _ _ _ _ _ e p [] w1 o1 o2 hN) ?_
  rintro e' u' w'' ⟨rfl, rfl, w2, hg2, rfl⟩
  have k1 := cell_of_one (o1.kept hg2 (by simp)).blk
  have k2 := cell_of_one (o2.kept hg2 (by simp)).blk
  simp [Leaves, settle, results, Try.results9, go_sem, k1, k2, h6, h7, h8, Array.getD_eq_getD_getElem?]
  exact grownBy_set_new (grownBy_set_new (grownBy_trans gr hg2) (Nat.le_refl _) _ _) (Nat.le_succ _) _ _

set_option maxHeartbeats 1000000 in
set_option maxRecDepth 100000 in
theorem playC_unread (s : ByteArray) (fuel : Int) (row : ByteArray) (w : World) (hm : s.size ≤ maxLen) (hne : (chk s).1 ≠ 0) :
    Calls Try.prog 9 #[.string s, .int .i64 fuel, .string row] w (PlayV w (⟨#[]⟩, (chk s).1, ((chk s).2 : Int))) := by
  have hmf : ∀ (fn : Fn) (first cap : Array Value) (w : World), (Instr.makeFunc fn first cap).run Try.prog w = .ok (.func fn first cap) w := fun _ _ _ _ => rfl
  have HRD : Hid _ := fun W => read_any s W hm
  clear hm
  unfold PlayV
  go_enter_defers Try.func9, Try.ntmps9
  go_wp2_with fail
  refine Calls.mono (HRD.out _) ?_
  rintro e w1 ⟨hg, hpost⟩
  obtain ⟨o1, o2, hgw⟩ := two_ones hg
  clear hg
  rcases hpost with ⟨_, rfl⟩ | ⟨heq, _⟩
  · exact Given.leaves ⟨rfl, rfl, rfl, rfl, o1, o2, hgw⟩ _ _
  · exact absurd heq hne

/-- The post of a region that may give up, its frame told. -/
def PQ (w : World) (e p : Int) (Q : Exit → Act → World → Prop) : Exit → Act → World → Prop
  | .panic c, a, w1 => c = refusal e p ∧ Given w a w1
  | x, a, w1 => Q x a w1
theorem wp_PQ {c : Code} {K : Act → World → Prop} {w W : World} {e p : Int} {a : Act}
    (h : c.wp Try.prog (PQ w e p (Exit.then K (bodyPostD Try.prog Try.f9 fun e' w' => e' = .returned (.tuple #[.string ⟨#[]⟩, .int .i64 e, .int .i64 p]) ∧ w.grownBy w' none))) a W) :
    c.wp Try.prog (Exit.then K (bodyPostD Try.prog Try.f9 fun e' w' => e' = .returned (.tuple #[.string ⟨#[]⟩, .int .i64 e, .int .i64 p]) ∧ w.grownBy w' none)) a W := by
  refine Code.wp_mono ?_ h
  intro x a w1 hx
  cases x with
  | panic c => obtain ⟨rfl, hg⟩ := hx; exact hg.leaves e p
  | _ => exact hx
theorem PQ.put {w w1 : World} {e p : Int} {Q : Exit → Act → World → Prop} {d : Nat} {v : Value} (hd : d ≠ 6 ∧ d ≠ 7 ∧ d ≠ 8) (c : List PanicEntry) (a : Act) (h : PQ w e p Q (.panic c) (a.put (some d) v) w1) : PQ w e p Q (.panic c) a w1 :=
  ⟨h.1, h.2.put hd⟩

/-- The machine's box stands, and the two results' cells. -/
structure BoxM (w : World) (b : Nat) (R : Array Value) (W : World) : Prop where
  box : W.heap[b]? = some (.cells R 61 (0, 0))
  o1 : One W w.heap.size 22 (.int .i64 0)
  o2 : One W (w.heap.size + 1) 3 (.int .i64 0)
  gr : w.grownBy W none
theorem BoxM.later {w W W' : World} {b : Nat} {R : Array Value} (h : BoxM w b R W) (g : W.grownBy W' none) : BoxM w b R W' :=
  ⟨(g.block _ (lt_of_block h.box) (by simp)).trans h.box, h.o1.kept g (by simp), h.o2.kept g (by simp), grownBy_trans h.gr g⟩
theorem BoxM.start {w w1 : World} (o1 : One w1 w.heap.size 22 (.int .i64 0)) (o2 : One w1 (w.heap.size + 1) 3 (.int .i64 0)) (hgw : w.grownBy w1 none) (R : Array Value) : BoxM w w1.heap.size R (w1.alloc (.cells R 61)).drew := by
  have gd : w1.grownBy (w1.alloc (.cells R 61)).drew none := rgrown_drew (World.grownBy_alloc _ _ _)
  exact ⟨heap_alloc_new _ _, o1.kept gd (by simp), o2.kept gd (by simp), grownBy_trans hgw gd⟩

set_option maxHeartbeats 1000000 in
set_option maxRecDepth 100000 in
theorem playC_fuel (s : ByteArray) (fuel : Int) (row : ByteArray) (w : World) (hm : s.size ≤ maxLen) (h0 : (chk s).1 = 0) (hf : fuel < 0 ∨ 8 < fuel) :
    Calls Try.prog 9 #[.string s, .int .i64 fuel, .string row] w (PlayV w (⟨#[]⟩, 4, 0)) := by
  have hmf : ∀ (fn : Fn) (first cap : Array Value) (w : World), (Instr.makeFunc fn first cap).run Try.prog w = .ok (.func fn first cap) w := fun _ _ _ _ => rfl
  have HRD : Hid _ := fun W => read_any s W hm
  clear hm
  unfold PlayV
  go_enter_defers Try.func9, Try.ntmps9
  go_wp2_with fail
  refine Calls.mono (HRD.out _) ?_
  rintro e w1 ⟨hg, hpost⟩
  obtain ⟨o1, o2, hgw⟩ := two_ones hg
  clear hg
  rcases hpost with ⟨hne, rfl⟩ | ⟨heq, L, tv, vs, mb, rfl, hM⟩
  · exact absurd h0 hne
  · obtain ⟨ao, cap, rfl⟩ := ownsRow_slice hM.own.out
    have HS : Hid (∀ W, Calls Try.prog 22 #[.agg #[.slice ao L.length cap, .map (some mb)], .int .i64 fuel] W fun e w' => e = .panicked (refusal 4 0) ∧ W.grownBy w' none) := fun W => start_bad L.length cap ao (.map (some mb)) fuel W rfl hf
    have hbx := BoxM.start o1 o2 hgw #[.slice ao L.length cap, .map (some mb)]
    have HB : Hid _ := hbx
    clear o1 o2 hM hf heq h0 hgw hbx
    go_wp2_with fail
    refine wp_PQ ?_
    have hc0 : ∀ W, BoxM w w1.heap.size #[.slice ao L.length cap, .map (some mb)] W → W.cell? ⟨w1.heap.size, 0, none⟩ = some (.slice ao L.length cap) := fun W h => (blk2 h.box).1
    have hc1 : ∀ W, BoxM w w1.heap.size #[.slice ao L.length cap, .map (some mb)] W → W.cell? ⟨w1.heap.size, 1, none⟩ = some (.map (some mb)) := fun W h => (blk2 h.box).2.1
    refine wp_region_held_drew (S := fun W => BoxM w w1.heap.size #[.slice ao L.length cap, .map (some mb)] W) (by kernel_rfl) HB.out (fun hHeld => ?_)
    refine wpAnyH_take (i := 0) (v := .agg #[.slice ao L.length cap, .map (some mb)]) rfl (by kernel_rfl) (by kernel_rfl) (by kernel_rfl) (fun c a w => PQ.put (by decide) c a) (Or.inl ⟨by rfl, ?_⟩) hHeld ?_
    · intro W hSw; go_simp
    simp only [Act.put, List.setIfInBounds_toArray, List.set_cons_zero, List.set_cons_succ]
    refine wpAnyH_take (i := 1) (v := .agg #[.slice ao L.length cap, .map (some mb)]) rfl (by kernel_rfl) (by kernel_rfl) (by kernel_rfl) (fun c a w => PQ.put (by decide) c a) (Or.inl ⟨by rfl, ?_⟩) hHeld ?_
    · intro W hSw; go_simp
    simp only [Act.put, List.setIfInBounds_toArray, List.set_cons_zero, List.set_cons_succ]
    refine wpAnyH_take (i := 2) (v := .int .i64 fuel) rfl (by kernel_rfl) (by kernel_rfl) (by kernel_rfl) (fun c a w => PQ.put (by decide) c a) (Or.inl ⟨by rfl, ?_⟩) hHeld ?_
    · intro W hSw; go_simp
    simp only [Act.put, List.setIfInBounds_toArray, List.set_cons_zero, List.set_cons_succ]
    refine wpAnyH_take (i := 4) (v := .string row) rfl (by kernel_rfl) (by kernel_rfl) (by kernel_rfl) (fun c a w => PQ.put (by decide) c a) (Or.inl ⟨by rfl, ?_⟩) hHeld ?_
    · intro W hSw; go_simp
    simp only [Act.put, List.setIfInBounds_toArray, List.set_cons_zero, List.set_cons_succ]
    refine wpAnyH_ready (rs := [3]) (by kernel_rfl) (by simp) ?_
    refine AllReadyH.cons rfl (fun K hK => ?_) AllReadyH.nil
    go_simp
    go_wp2_with (go_at_call 22; go_must (refine Calls.mono (HS.out _) ?_; rintro e w2 ⟨rfl, hg2⟩))
    have h2 := hHeld.later hg2
    exact ⟨rfl, rfl, rfl, rfl, rfl, h2.o1, h2.o2, h2.gr⟩
set_option maxHeartbeats 1000000 in
set_option maxRecDepth 100000 in
theorem playC_bad (s : ByteArray) (fuel : Int) (row : ByteArray) (w : World) (L : List (List Nat)) (hm : s.size ≤ maxLen) (hmr : row.size ≤ maxLen) (h0 : (chk s).1 = 0) (hL : PL s L) (hrd : Wv.rd s 2 0 [] = .ok L) (f0 : 0 ≤ fuel) (f8 : fuel ≤ 8) (e p : Int) (hr : runRow s L row row.size 0 (startF L.length fuel) = (⟨#[]⟩, e, p)) (he : e ≠ 0) :
    Calls Try.prog 9 #[.string s, .int .i64 fuel, .string row] w (PlayV w (⟨#[]⟩, e, p)) := by
  have hmf : ∀ (fn : Fn) (first cap : Array Value) (w : World), (Instr.makeFunc fn first cap).run Try.prog w = .ok (.func fn first cap) w := fun _ _ _ _ => rfl
  have HRD : Hid _ := fun W => read_any s W hm
  clear hm
  unfold PlayV
  go_enter_defers Try.func9, Try.ntmps9
  go_wp2_with fail
  refine Calls.mono (HRD.out _) ?_
  rintro e1 w1 ⟨hg, hpost⟩
  obtain ⟨o1, o2, hgw⟩ := two_ones hg
  clear hg
  rcases hpost with ⟨hne, rfl⟩ | ⟨heq, L', tv, vs, mb, rfl, hM⟩
  · exact absurd h0 hne
  · obtain rfl : L = L' := by have := hM.rd; rw [hrd] at this; simpa using this
    have hpg := prog_of hM hL
    obtain ⟨ao, cap, rfl⟩ := ownsRow_slice hM.own.out
    have HS : Hid (∀ W, Calls Try.prog 22 #[.agg #[.slice ao L.length cap, .map (some mb)], .int .i64 fuel] W fun e w' => e = .returned (.agg (cst (startF L.length fuel))) ∧ W.grownBy w' none) := fun W => start_any L.length cap ao (.map (some mb)) fuel W rfl f0 f8 hL.three
    have HPL : Hid (∀ W, w1.grownBy W none → Calls Try.prog 21 #[.agg #[.slice ao L.length cap, .map (some mb)], .agg (cst (startF L.length fuel)), .string row] W fun e' w' => e' = .panicked (refusal e p) ∧ W.grownBy w' none) := fun W hW =>
      (play_any s L (startF L.length fuel) _ _ _ mb vs row W (hpg.kept hW) ((hW.block _ (lt_of_block hM.deeds) (by simp)).trans hM.deeds) hL (ok_start L _ fuel hL.three f0 f8) hmr).mono fun e' w' hh => by
        rw [hr] at hh
        obtain ⟨hg, ⟨hz, _⟩ | ⟨_, h⟩⟩ := hh
        · exact absurd hz he
        · exact ⟨h, hg⟩
    have HG1 : Hid (w1.grownBy (w1.alloc (.cells #[.slice ao L.length cap, .map (some mb)] 61)).drew none) := rgrown_drew (World.grownBy_alloc _ _ _)
    have hbx := BoxM.start o1 o2 hgw #[.slice ao L.length cap, .map (some mb)]
    have HB : Hid _ := hbx
    clear o1 o2 hM heq h0 hgw hbx hpg hr he hrd hL f0 f8 hmr
    go_wp2_with fail
    refine wp_PQ ?_
    have hc0 : ∀ W, BoxM w w1.heap.size #[.slice ao L.length cap, .map (some mb)] W → W.cell? ⟨w1.heap.size, 0, none⟩ = some (.slice ao L.length cap) := fun W h => (blk2 h.box).1
    have hc1 : ∀ W, BoxM w w1.heap.size #[.slice ao L.length cap, .map (some mb)] W → W.cell? ⟨w1.heap.size, 1, none⟩ = some (.map (some mb)) := fun W h => (blk2 h.box).2.1
    refine wp_region_held_drew (S := fun W => BoxM w w1.heap.size #[.slice ao L.length cap, .map (some mb)] W) (by kernel_rfl) HB.out (fun hHeld => ?_)
    refine wpAnyH_take (i := 0) (v := .agg #[.slice ao L.length cap, .map (some mb)]) rfl (by kernel_rfl) (by kernel_rfl) (by kernel_rfl) (fun c a w => PQ.put (by decide) c a) (Or.inl ⟨by rfl, ?_⟩) hHeld ?_
    · intro W hSw; go_simp
    simp only [Act.put, List.setIfInBounds_toArray, List.set_cons_zero, List.set_cons_succ]
    refine wpAnyH_take (i := 1) (v := .agg #[.slice ao L.length cap, .map (some mb)]) rfl (by kernel_rfl) (by kernel_rfl) (by kernel_rfl) (fun c a w => PQ.put (by decide) c a) (Or.inl ⟨by rfl, ?_⟩) hHeld ?_
    · intro W hSw; go_simp
    simp only [Act.put, List.setIfInBounds_toArray, List.set_cons_zero, List.set_cons_succ]
    refine wpAnyH_take (i := 2) (v := .int .i64 fuel) rfl (by kernel_rfl) (by kernel_rfl) (by kernel_rfl) (fun c a w => PQ.put (by decide) c a) (Or.inl ⟨by rfl, ?_⟩) hHeld ?_
    · intro W hSw; go_simp
    simp only [Act.put, List.setIfInBounds_toArray, List.set_cons_zero, List.set_cons_succ]
    refine wpAnyH_take (i := 4) (v := .string row) rfl (by kernel_rfl) (by kernel_rfl) (by kernel_rfl) (fun c a w => PQ.put (by decide) c a) (Or.inl ⟨by rfl, ?_⟩) hHeld ?_
    · intro W hSw; go_simp
    simp only [Act.put, List.setIfInBounds_toArray, List.set_cons_zero, List.set_cons_succ]
    refine wpAnyH_ready (rs := [3]) (by kernel_rfl) (by simp) ?_
    refine AllReadyH.cons rfl (fun K hK => ?_) AllReadyH.nil
    go_simp
    go_wp2_with (go_at_call 22; go_must (refine Calls.mono (HS.out _) ?_; rintro e2 w2 ⟨rfl, hg2⟩))
    have hH2 := hHeld.later hg2
    refine hK.out _ _ hH2 (fun _ => ?_)
    refine wpAnyH_ready (rs := [5]) (by kernel_rfl) (by simp) ?_
    refine AllReadyH.cons rfl (fun K hK => ?_) AllReadyH.nil
    go_simp
    go_wp2_with (go_at_call 21; go_must (refine Calls.mono (HPL.out _ (grownBy_trans HG1.out hg2)) ?_; rintro e3 w3 ⟨rfl, hg3⟩))
    have h2 := hH2.later hg3
    exact ⟨rfl, rfl, rfl, rfl, rfl, h2.o1, h2.o2, h2.gr⟩

theorem BoxM.set1 {w W : World} {b : Nat} {R : Array Value} (h : BoxM w b R W) (hb : w.heap.size < b) : BoxM w b R (W.setCell ⟨w.heap.size, 0, none⟩ (.int .i64 0)) := by
  refine ⟨?_, ⟨one_setCell h.o1.blk⟩, One.kept h.o2 (grownBy_setCell _ w.heap.size 0 (.int .i64 0)) (by simp), grownBy_set_new h.gr (Nat.le_refl _) _ _⟩
  rw [heap_setCell_other _ _ _ _ (by simp; omega)]; exact h.box
theorem BoxM.set2 {w W : World} {b : Nat} {R : Array Value} (h : BoxM w b R W) (hb : w.heap.size + 1 < b) : BoxM w b R (W.setCell ⟨w.heap.size + 1, 0, none⟩ (.int .i64 0)) := by
  refine ⟨?_, One.kept h.o1 (grownBy_setCell _ (w.heap.size + 1) 0 (.int .i64 0)) (by simp), ⟨one_setCell h.o2.blk⟩, grownBy_set_new h.gr (Nat.le_succ _) _ _⟩
  rw [heap_setCell_other _ _ _ _ (by simp; omega)]; exact h.box

set_option maxHeartbeats 1000000 in
set_option maxRecDepth 100000 in
theorem playC_ok (s : ByteArray) (fuel : Int) (row : ByteArray) (w : World) (L : List (List Nat)) (hm : s.size ≤ maxLen) (hmr : row.size ≤ maxLen) (h0 : (chk s).1 = 0) (hL : PL s L) (hrd : Wv.rd s 2 0 [] = .ok L) (f0 : 0 ≤ fuel) (f8 : fuel ≤ 8) (t : ByteArray) (hr : runRow s L row row.size 0 (startF L.length fuel) = (t, 0, 0)) :
    Calls Try.prog 9 #[.string s, .int .i64 fuel, .string row] w (PlayV w (t, 0, 0)) := by
  have hmf : ∀ (fn : Fn) (first cap : Array Value) (w : World), (Instr.makeFunc fn first cap).run Try.prog w = .ok (.func fn first cap) w := fun _ _ _ _ => rfl
  have HRD : Hid _ := fun W => read_any s W hm
  clear hm
  unfold PlayV
  go_enter_defers Try.func9, Try.ntmps9
  go_wp2_with fail
  refine Calls.mono (HRD.out _) ?_
  rintro e1 w1 ⟨hg, hpost⟩
  obtain ⟨o1, o2, hgw⟩ := two_ones hg
  clear hg
  rcases hpost with ⟨hne, rfl⟩ | ⟨heq, L', tv, vs, mb, rfl, hM⟩
  · exact absurd h0 hne
  · obtain rfl : L = L' := by have := hM.rd; rw [hrd] at this; simpa using this
    have hpg := prog_of hM hL
    obtain ⟨ao, cap, rfl⟩ := ownsRow_slice hM.own.out
    have HS : Hid (∀ W, Calls Try.prog 22 #[.agg #[.slice ao L.length cap, .map (some mb)], .int .i64 fuel] W fun e w' => e = .returned (.agg (cst (startF L.length fuel))) ∧ W.grownBy w' none) := fun W => start_any L.length cap ao (.map (some mb)) fuel W rfl f0 f8 hL.three
    have HPL : Hid (∀ W, w1.grownBy W none → Calls Try.prog 21 #[.agg #[.slice ao L.length cap, .map (some mb)], .agg (cst (startF L.length fuel)), .string row] W fun e' w' => e' = .returned (.string t) ∧ W.grownBy w' none) := fun W hW =>
      (play_any s L (startF L.length fuel) _ _ _ mb vs row W (hpg.kept hW) ((hW.block _ (lt_of_block hM.deeds) (by simp)).trans hM.deeds) hL (ok_start L _ fuel hL.three f0 f8) hmr).mono fun e' w' hh => by
        rw [hr] at hh
        obtain ⟨hg, ⟨_, h⟩ | ⟨hz, _⟩⟩ := hh
        · exact ⟨h, hg⟩
        · exact absurd rfl hz
    have HG1 : Hid (w1.grownBy (w1.alloc (.cells #[.slice ao L.length cap, .map (some mb)] 61)).drew none) := rgrown_drew (World.grownBy_alloc _ _ _)
    have hbx := BoxM.start o1 o2 hgw #[.slice ao L.length cap, .map (some mb)]
    have hb1 : w.heap.size + 1 < w1.heap.size := lt_of_block o2.blk
    have hb0 : w.heap.size < w1.heap.size := by omega
    have HB : Hid _ := hbx
    clear o1 o2 hM heq h0 hgw hbx hpg hr hrd hL f0 f8 hmr
    go_wp2_with fail
    refine wp_region_noPanic ?_
    have hc0 : ∀ W, BoxM w w1.heap.size #[.slice ao L.length cap, .map (some mb)] W → W.cell? ⟨w1.heap.size, 0, none⟩ = some (.slice ao L.length cap) := fun W h => (blk2 h.box).1
    have hc1 : ∀ W, BoxM w w1.heap.size #[.slice ao L.length cap, .map (some mb)] W → W.cell? ⟨w1.heap.size, 1, none⟩ = some (.map (some mb)) := fun W h => (blk2 h.box).2.1
    have hq1 : ∀ W, BoxM w w1.heap.size #[.slice ao L.length cap, .map (some mb)] W → W.cell? ⟨w.heap.size, 0, none⟩ = some (.int .i64 0) := fun W h => cell_of_one h.o1.blk
    have hq2 : ∀ W, BoxM w w1.heap.size #[.slice ao L.length cap, .map (some mb)] W → W.cell? ⟨w.heap.size + 1, 0, none⟩ = some (.int .i64 0) := fun W h => cell_of_one h.o2.blk
    have hz1 : ∀ W, BoxM w w1.heap.size #[.slice ao L.length cap, .map (some mb)] W → W.frozen? ⟨w.heap.size, 0, none⟩ = false := fun W h => free_of_one h.o1.blk
    have hz2 : ∀ W, BoxM w w1.heap.size #[.slice ao L.length cap, .map (some mb)] W → W.frozen? ⟨w.heap.size + 1, 0, none⟩ = false := fun W h => free_of_one h.o2.blk
    refine wp_region_held_drew (S := fun W => BoxM w w1.heap.size #[.slice ao L.length cap, .map (some mb)] W) (by kernel_rfl) HB.out (fun hHeld => ?_)
    refine wpAnyH_take (i := 0) (v := .agg #[.slice ao L.length cap, .map (some mb)]) rfl (by kernel_rfl) (by kernel_rfl) (by kernel_rfl) (fun c a w h => h) (Or.inl ⟨by rfl, ?_⟩) hHeld ?_
    · intro W hSw; go_simp
    simp only [Act.put, List.setIfInBounds_toArray, List.set_cons_zero, List.set_cons_succ]
    refine wpAnyH_take (i := 1) (v := .agg #[.slice ao L.length cap, .map (some mb)]) rfl (by kernel_rfl) (by kernel_rfl) (by kernel_rfl) (fun c a w h => h) (Or.inl ⟨by rfl, ?_⟩) hHeld ?_
    · intro W hSw; go_simp
    simp only [Act.put, List.setIfInBounds_toArray, List.set_cons_zero, List.set_cons_succ]
    refine wpAnyH_take (i := 2) (v := .int .i64 fuel) rfl (by kernel_rfl) (by kernel_rfl) (by kernel_rfl) (fun c a w h => h) (Or.inl ⟨by rfl, ?_⟩) hHeld ?_
    · intro W hSw; go_simp
    simp only [Act.put, List.setIfInBounds_toArray, List.set_cons_zero, List.set_cons_succ]
    refine wpAnyH_take (i := 4) (v := .string row) rfl (by kernel_rfl) (by kernel_rfl) (by kernel_rfl) (fun c a w h => h) (Or.inl ⟨by rfl, ?_⟩) hHeld ?_
    · intro W hSw; go_simp
    simp only [Act.put, List.setIfInBounds_toArray, List.set_cons_zero, List.set_cons_succ]
    refine wpAnyH_ready (rs := [3]) (by kernel_rfl) (by simp) ?_
    refine AllReadyH.cons rfl (fun K hK => ?_) AllReadyH.nil
    go_simp
    go_wp2_with (go_at_call 22; go_must (refine Calls.mono (HS.out _) ?_; rintro e2 w2 ⟨rfl, hg2⟩))
    have hH2 := hHeld.later hg2
    refine hK.out _ _ hH2 (fun _ => ?_)
    refine wpAnyH_ready (rs := [5]) (by kernel_rfl) (by simp) ?_
    refine AllReadyH.cons rfl (fun K hK => ?_) AllReadyH.nil
    go_simp
    go_wp2_with (go_at_call 21; go_must (refine Calls.mono (HPL.out _ (grownBy_trans HG1.out hg2)) ?_; rintro e3 w3 ⟨rfl, hg3⟩))
    have h3 := hH2.later hg3
    refine hK.out _ _ h3 (fun _ => ?_)
    clear hH2 hHeld hg2 hg3
    refine wpAnyH_ready (rs := [6]) (by kernel_rfl) (by simp) ?_
    refine AllReadyH.cons rfl (fun K hK => ?_) AllReadyH.nil
    go_simp
    refine hK.out _ _ h3 (fun _ => ?_)
    have d1 := hq1 _ h3
    have d2 := hz1 _ h3
    refine wpAnyH_ready (rs := [7]) (by kernel_rfl) (by simp) ?_
    refine AllReadyH.cons rfl (fun K hK => ?_) AllReadyH.nil
    go_simp
    have h4 := h3.set1 hb0
    refine hK.out _ _ h4 (fun _ => ?_)
    have d3 := hq2 _ h4
    have d4 := hz2 _ h4
    refine wpAnyH_ready (rs := [8]) (by kernel_rfl) (by simp) ?_
    refine AllReadyH.cons rfl (fun K hK => ?_) AllReadyH.nil
    go_simp
    have h5 := h4.set2 hb1
    refine hK.out _ _ h5 (fun _ => ?_)
    refine wpAnyH_done (by kernel_rfl) ?_ _
    refine NoPanic.normal ?_
    clear d1 d2 d3 d4 h3 h4
    have H5 : Hid _ := h5
    clear h5
    go_wp2_with fail
    have hN : w.heap.size ≠ w.heap.size + 1 := by omega
    have hq := H5.out
    generalize (w3.setCell { block := w.heap.size, off := 0 } (Value.int IntKind.i64 0)).setCell { block := w.heap.size + 1, off := 0 } (Value.int IntKind.i64 0) = w5 at *
    refine leaves_cons (f := 20) (args := #[.pointer (some ⟨w.heap.size, 0, none⟩), .pointer (some ⟨w.heap.size + 1, 0, none⟩)]) (by simp) (by simp [go_sem]) ?_
    refine CallsD.mono (catchPlay_idle _ _ _ _ _ _ _ hq.o1 hq.o2 hN) ?_
    rintro e u' w'' ⟨rfl, rfl, rfl⟩
    have j1 := cell_of_one hq.o1.blk
    have j2 := cell_of_one hq.o2.blk
    have hgf := ((hq.set1 hb0).set2 hb1).gr
    simp [Leaves, settle, results, Try.results9, go_sem, j1, j2]
    exact hgf

theorem rd_ok_of {s : ByteArray} {L : List (List Nat)} (h : Wv.rd s 2 0 [] = .ok L) (row : ByteArray) (fuel : Int) (h0 : (chk s).1 = 0) (hf : ¬ (fuel < 0 ∨ 8 < fuel)) : playV s fuel row = runRow s L row row.size 0 (startF L.length fuel) := by
  unfold playV; rw [if_pos h0, if_neg hf, h]
theorem runRow_shape (s : ByteArray) (L : List (List Nat)) (row : ByteArray) : ∀ (n i : Nat) (σ : Nat → Int), (∃ t, runRow s L row n i σ = (t, 0, 0)) ∨ ∃ e p, runRow s L row n i σ = (⟨#[]⟩, e, p) ∧ e ≠ 0
  | 0, i, σ => by
    rw [runRow]
    split
    · exact .inl ⟨_, rfl⟩
    · exact .inr ⟨7, 0, rfl, by decide⟩
  | n + 1, i, σ => by
    rw [runRow]
    split
    · exact runRow_shape s L row n (i + 1) _
    · exact .inr ⟨6, _, rfl, by decide⟩

/-- The program's Play. -/
theorem playC_any (s : ByteArray) (fuel : Int) (row : ByteArray) (w : World) (hm : s.size ≤ maxLen) (hmr : row.size ≤ maxLen) :
    Calls Try.prog 9 #[.string s, .int .i64 fuel, .string row] w (PlayV w (playV s fuel row)) := by
  by_cases h0 : (chk s).1 = 0
  · by_cases hf : fuel < 0 ∨ 8 < fuel
    · have : playV s fuel row = (⟨#[]⟩, 4, 0) := by unfold playV; rw [if_pos h0, if_pos hf]
      rw [this]; exact playC_fuel s fuel row w hm h0 hf
    · obtain ⟨_, _, L, hr, hL⟩ := chk_zero h0
      rw [rd_ok_of hr row fuel h0 hf]
      rcases runRow_shape s L row row.size 0 (startF L.length fuel) with ⟨t, ht⟩ | ⟨e, p, he, hne⟩
      · rw [ht]; exact playC_ok s fuel row w L hm hmr h0 hL hr (by omega) (by omega) t ht
      · rw [he]; exact playC_bad s fuel row w L hm hmr h0 hL hr (by omega) (by omega) e p he hne
  · have : playV s fuel row = (⟨#[]⟩, (chk s).1, ((chk s).2 : Int)) := by unfold playV; rw [if_neg h0]
    rw [this]; exact playC_unread s fuel row w hm h0
end Go.Proofs.Ytifidfgihpkgcaa

set_option linter.unusedSimpArgs false
set_option linter.unusedVariables false
namespace Go.Proofs.Ytifidfgihpkgcaa
open Go.RowKit Wv

set_option maxHeartbeats 1000000 in
set_option maxRecDepth 100000 in
theorem rplay_given (s : ByteArray) (fuel : Int) (row : ByteArray) (w : World) (hm : s.size ≤ maxLen) (hne : (givB s fuel).1 ≠ 0) :
    Calls Try.prog 10 #[.string s, .int .i64 fuel, .string row] w (PlayV w (⟨#[]⟩, (givB s fuel).1, (givB s fuel).2)) := by
  have HG : Hid _ := rGiven_any s fuel w hm
  have b0 : ((givB s fuel).1 == 0) = false := by simpa using hne
  clear hm hne
  unfold PlayV
  generalize (givB s fuel).1 = e at *
  generalize (givB s fuel).2 = p at *
  go_enter Try.func10, Try.ntmps10
  go_wp2_with (go_at_call 23; go_must (refine Calls.mono HG.out ?_; rintro e1 w1 ⟨rfl, hg⟩))
  go_ret3
  exact ⟨rfl, hg⟩

/-- The state's box stands. -/
structure RAt (w : World) (b : Nat) (S : Array Value) (wr : World) : Prop where
  st : wr.heap[b]? = some (.cells S 45 (0, 0))
  grown : w.grownBy wr none
theorem RAt.later {w wr wr' : World} {b : Nat} {S : Array Value} (h : RAt w b S wr) (hg : wr.grownBy wr' none) : RAt w b S wr' :=
  ⟨(hg.block _ (lt_of_block h.st) (by simp)).trans h.st, grownBy_trans h.grown hg⟩
theorem RAt.put {w wr : World} {b : Nat} {S S' : Array Value} (h : RAt w b S wr) (hb : w.heap.size ≤ b) : RAt w b S' (wr.setRow b S') :=
  ⟨setRow_heap _ _ _ _ _ _ h.st, rgrown_setRow h.grown hb _⟩

theorem agree_start (n : Nat) (fuel : Int) (h3 : n ≤ 3) : Agree n (startF n fuel) (rstartF 3 fuel) := by
  refine ⟨fun i hi => ?_, fun w hw => ?_⟩
  · unfold startF rstartF
    rw [if_neg (by omega), if_neg (by omega)]
  · unfold startF rstartF
    rw [if_pos (by omega), if_pos (by omega)]

set_option maxHeartbeats 1000000 in
set_option maxRecDepth 100000 in
theorem rplay_rest (s : ByteArray) (fuel : Int) (row : ByteArray) (w : World) (L : List (List Nat)) (hm : s.size ≤ maxLen) (hmr : row.size ≤ maxLen) (h0 : givB s fuel = (0, 0)) (hL : PL s L) (hs : s.size ≤ 150) (hrd : Wv.rd s 2 0 [] = .ok L) (f0 : 0 ≤ fuel) (f8 : fuel ≤ 8) :
    Calls Try.prog 10 #[.string s, .int .i64 fuel, .string row] w (PlayV w (runRow s L row row.size 0 (rstartF 3 fuel))) := by
  have hG := rGiven_any s fuel w hm
  rw [h0] at hG
  have HG : Hid _ := hG
  have HRD : Hid (∀ W, Calls Try.prog 12 #[.string s] W (RReadPost s (.ok L) W)) := fun W => by rw [← hrd]; exact rread_any s W hs
  have HST : Hid _ := fun W => rStart_any fuel W f0 f8
  have hok : Ok L (rstartF 3 fuel) := ok_start L 3 fuel hL.three f0 f8
  have h3 := hL.three
  have HL : Hid _ := hL
  unfold maxLen at hmr
  clear hG hm h0 hL hs hrd f0 f8
  generalize rstartF 3 fuel = σ at *
  go_enter Try.func10, Try.ntmps10
  go_wp2_with (first | (go_at_call 23; go_must (refine Calls.mono HG.out ?_; rintro e1 w1 ⟨rfl, hg1⟩)) | (go_at_call 12; go_must (refine Calls.mono (HRD.out _) ?_; rintro e2 w2 ⟨hg2, tv, vs, j, rfl, hown⟩; have HP : Hid _ := hown; obtain ⟨ao, cap, htv⟩ := ownsRow_slice hown.out; clear hown; subst htv)) | (go_at_call 13; go_must (refine Calls.mono (HST.out _) ?_; rintro e3 w3 ⟨rfl, hg3⟩)) | (refine st_row0 45 (.tmp 14) (.tmp 36) w3.heap.size (rst σ) ?_ ?_ _ (heap_alloc_new _ _) (info_rstate _) ?_ (rst_oneCell _) ?_; rfl; rfl; (rw [rst_size]; rfl)))
  have HPR : Hid (RProg w2 w1.heap.size w2.heap.size s L (.slice ao L.length cap) vs) := ⟨HP.out, HL.out.three, HL.out.eight, HL.out.good⟩
  have hg23 : w2.grownBy w3 none := hg3
  have hst : RAt w w3.heap.size (rst σ) ((w3.alloc (.cells (rst (fun _ => 0)) 45)).setRow w3.heap.size (rst σ)) :=
    RAt.put (S := rst (fun _ => 0)) ⟨heap_alloc_new _ _, grownBy_trans (grownBy_trans (grownBy_trans hg1 hg2) hg3) (World.grownBy_alloc _ _ _)⟩ (by have := hg1.size; have := hg2.size; have := hg3.size; omega)
  have h2b : w2.heap.size ≤ w3.heap.size := hg3.size
  have HW2 : Hid (w.grownBy w2 none) := grownBy_trans hg1 hg2
  have hwb : w.heap.size ≤ w3.heap.size := by have := hg1.size; have := hg2.size; omega
  have H2S : Hid (w2.grownBy ((w3.alloc (.cells (rst (fun _ => 0)) 45)).setRow w3.heap.size (rst σ)) none) := rgrown_setRow (grownBy_trans hg3 (World.grownBy_alloc _ _ _)) h2b _
  clear HP HG HRD HST hg1 hg2 hg3
  go_loopw [15] (fun iv wr => ∃ (pos : Nat) (τ : Nat → Int), pos ≤ row.size ∧ iv = .int .i64 (pos : Int) ∧ Hid (RAt w w3.heap.size (rst τ) wr ∧ w2.grownBy wr none) ∧ Hid (Ok L τ ∧ runRow s L row (row.size - pos) pos τ = runRow s L row row.size 0 σ)) (fun iv _ => row.size - (intOf iv).toNat)
  case atStart => exact ⟨0, σ, Nat.zero_le _, rfl, ⟨hst, H2S.out⟩, hok, rfl⟩
  case round =>
    clear hst H2S
    obtain ⟨pos, τ, hpos, rfl, hat, hro⟩ := hrel
    have HOK : Hid _ := hro.out.1
    by_cases hp : pos < row.size
    · have hpk := pk_in hp
      have hpr := pk_range row pos
      have hc0 : (0 : Int) ≤ ((row[pos]'hp).toNat : Int) := by omega
      have hc1 : ((row[pos]'hp).toNat : Int) ≤ 255 := by omega
      rw [hpk] at hpr
      cases hgo : goes s L row pos τ with
      | false =>
        have hru := run_bad (s := s) (L := L) hp hgo
        rw [hro.out.2] at hru
        have HR : Hid _ := hru
        clear hru
        rcases goes_no hgo with hb | hb | ⟨who, hw1, hw2, hw3⟩
        · have b0 : decide (((row[pos]'hp).toNat : Int) - 48 < 0) = true := by simp; omega
          clear hpk hpr hgo hb
          go_wp2_with fail
          go_ret3
          refine ⟨?_, hat.out.1.grown⟩
          rw [HR.out]; rfl
        · have b0 : decide (((row[pos]'hp).toNat : Int) - 48 < 0) = false := by simp; omega
          have b1 : decide ((L.length : Int) ≤ ((row[pos]'hp).toNat : Int) - 48) = true := by simp; omega
          clear hpk hpr hgo hb
          go_wp2_with fail
          go_ret3
          refine ⟨?_, hat.out.1.grown⟩
          rw [HR.out]; rfl
        · have hr1 : ((row[pos]'hp).toNat : Int) - 48 = (who : Int) := by omega
          have b0 : decide ((who : Int) < 0) = false := by simp
          have b1 : decide ((L.length : Int) ≤ (who : Int)) = false := by simp; omega
          have b2 : decide (L.length ≤ who) = false := by simp; omega
          have hmc := rMay_any s L τ who _ _ _ _ wr (HPR.out.kept hat.out.2) hw2 HOK.out.st (HOK.out.fate who (by omega))
          rw [hw3] at hmc
          have HMC : Hid _ := hmc
          clear hpk hpr hgo hmc hw3 hw1
          go_wp2_with (first | (refine ldg_row 45 (.tmp 14) ?_ w3.heap.size ?_ (rst τ) ?_ Try.underlying45 rfl (info_rstate _) ?_; go_simp; rfl; exact hat.out.1.st) | (go_at_call 14; go_must (refine Calls.mono HMC.out ?_; rintro e4 w4 ⟨rfl, hg4⟩; have HG4 : Hid _ := hg4; clear hg4)))
          go_ret3
          refine ⟨?_, grownBy_trans hat.out.1.grown HG4.out⟩
          rw [HR.out]; rfl
      | true =>
        obtain ⟨who, hw1, hw2, hw3⟩ := goes_out hgo
        have hru := run_go (s := s) (L := L) hp hgo
        rw [hro.out.2, show (pk row pos - 48).toNat = who from by omega] at hru
        have HR : Hid _ := hru
        have hr1 : ((row[pos]'hp).toNat : Int) - 48 = (who : Int) := by omega
        have b0 : decide ((who : Int) < 0) = false := by simp
        have b1 : decide ((L.length : Int) ≤ (who : Int)) = false := by simp; omega
        have b2 : decide (L.length ≤ who) = false := by simp; omega
        have hmc := rMay_any s L τ who _ _ _ _ wr (HPR.out.kept hat.out.2) hw2 HOK.out.st (HOK.out.fate who (by omega))
        rw [hw3] at hmc
        have HMC : Hid _ := hmc
        have HT : Hid (∀ W, w2.grownBy W none → Calls Try.prog 15 #[.slice ao L.length cap, .agg (rst τ), .int .i64 (who : Int)] W fun e w' => e = .returned (.agg (rst (turnF s L τ who))) ∧ W.grownBy w' none) := fun W hW => rTurn_any s L τ who _ _ _ _ W (HPR.out.kept hW) hw2 HOK.out.st hw3
        have HOK2 : Hid _ := ok_turn HL.out HOK.out hw2 hw3
        clear hpk hpr hgo hmc hw3 hw1 hru
        go_wp2_with (first | (refine ldg_row 45 (.tmp 14) ?_ w3.heap.size ?_ (rst τ) ?_ Try.underlying45 rfl (info_rstate _) ?_; go_simp; rfl; exact hat.out.1.st) | (go_at_call 14; go_must (refine Calls.mono HMC.out ?_; rintro e4 w4 ⟨rfl, hg4⟩; have HA2 : Hid (RAt w w3.heap.size (rst τ) w4 ∧ w2.grownBy w4 none) := ⟨hat.out.1.later hg4, grownBy_trans hat.out.2 hg4⟩; clear hg4)) | (refine ld_row 45 (.tmp 14) w3.heap.size ?_ (rst τ) ?_ Try.underlying45 rfl (info_rstate _) ?_; rfl; exact HA2.out.1.st) | (go_at_call 15; go_must (refine Calls.mono (HT.out _ HA2.out.2) ?_; rintro e5 w5 ⟨rfl, hg5⟩; have HA3 : Hid (RAt w w3.heap.size (rst τ) w5 ∧ w2.grownBy w5 none) := ⟨HA2.out.1.later hg5, grownBy_trans HA2.out.2 hg5⟩; clear hg5)) | (refine st_row0 45 (.tmp 14) (.tmp 67) w3.heap.size (rst (turnF s L τ who)) ?_ ?_ (rst τ) HA3.out.1.st (info_rstate _) ?_ (rst_oneCell _) ?_; rfl; rfl; (rw [rst_size, rst_size])))
        go_roundw
        case rel => exact ⟨pos + 1, turnF s L τ who, by omega, by go_num, ⟨HA3.out.1.put hwb, rgrown_setRow HA3.out.2 h2b _⟩, HOK2.out, HR.out.symm⟩
        case measure => simp [intOf]; omega
    · have hru := run_end (s := s) (L := L) (σ := τ) hp
      rw [hro.out.2] at hru
      have HO : Hid _ := rOver_any s L τ _ _ _ _ wr (HPR.out.kept hat.out.2) HOK.out.st HOK.out.fate
      cases hov : overB s L τ with
      | false =>
        rw [hov] at hru HO
        have HR : Hid _ := hru
        clear hru hov
        go_wp2_with (first | (refine ld_row 45 (.tmp 14) w3.heap.size ?_ (rst τ) ?_ Try.underlying45 rfl (info_rstate _) ?_; rfl; exact hat.out.1.st) | (go_at_call 24; go_must (refine Calls.mono HO.out ?_; rintro e4 w4 ⟨rfl, hg4⟩; have HG4 : Hid _ := hg4; clear hg4)))
        go_ret3
        refine ⟨?_, grownBy_trans hat.out.1.grown HG4.out⟩
        rw [HR.out]; rfl
      | true =>
        rw [hov] at hru HO
        have HR : Hid _ := hru
        have HE : Hid (∀ W, w2.grownBy W none → Calls Try.prog 25 #[.slice ao L.length cap, .agg (rst τ)] W fun e w' => e = .returned (.string (txt (wayL L τ))) ∧ W.grownBy w' none) := fun W hW =>
          rWay_any s L τ _ _ _ _ W (HPR.out.kept hW) HOK.out.st HOK.out.fate
        clear hru hov
        go_wp2_with (first | (refine ld_row 45 (.tmp 14) w3.heap.size ?_ (rst τ) ?_ Try.underlying45 rfl (info_rstate _) ?_; rfl; first | exact hat.out.1.st | exact HA2.out.1.st) | (go_at_call 24; go_must (refine Calls.mono HO.out ?_; rintro e4 w4 ⟨rfl, hg4⟩; have HA2 : Hid (RAt w w3.heap.size (rst τ) w4 ∧ w2.grownBy w4 none) := ⟨hat.out.1.later hg4, grownBy_trans hat.out.2 hg4⟩; clear hg4)) | (go_at_call 25; go_must (refine Calls.mono (HE.out _ HA2.out.2) ?_; rintro e5 w5 ⟨rfl, hg5⟩; have HA3 : Hid _ := HA2.out.1.later hg5; clear hg5)))
        go_ret3
        refine ⟨?_, HA3.out.grown⟩
        rw [HR.out]; rfl

/-- The document's Play. -/
theorem rplay_any (s : ByteArray) (fuel : Int) (row : ByteArray) (w : World) (hm : s.size ≤ maxLen) (hmr : row.size ≤ maxLen) :
    Calls Try.prog 10 #[.string s, .int .i64 fuel, .string row] w (PlayV w (playV s fuel row)) := by
  by_cases h0 : (chk s).1 = 0
  · by_cases hf : fuel < 0 ∨ 8 < fuel
    · have hg : givB s fuel = (4, 0) := by unfold givB; rw [if_pos h0, if_pos hf]
      have : playV s fuel row = (⟨#[]⟩, (givB s fuel).1, (givB s fuel).2) := by unfold playV; rw [if_pos h0, if_pos hf, hg]
      rw [this]; exact rplay_given s fuel row w hm (by rw [hg]; decide)
    · obtain ⟨_, hs, L, hr, hL⟩ := chk_zero h0
      have hg : givB s fuel = (0, 0) := by unfold givB; rw [if_pos h0, if_neg hf]
      rw [rd_ok_of hr row fuel h0 hf, run_agree hL row.size 0 (ok_start L L.length fuel hL.three (by omega) (by omega)) (agree_start L.length fuel hL.three)]
      exact rplay_rest s fuel row w L hm hmr hg hL (by omega) hr (by omega) (by omega)
  · have hg : givB s fuel = ((chk s).1, ((chk s).2 : Int)) := by unfold givB; rw [if_neg h0]
    have : playV s fuel row = (⟨#[]⟩, (givB s fuel).1, (givB s fuel).2) := by unfold playV; rw [if_neg h0, hg]
    rw [this]; exact rplay_given s fuel row w hm (by rw [hg]; exact h0)
end Go.Proofs.Ytifidfgihpkgcaa

set_option linter.unusedSimpArgs false
set_option linter.unusedVariables false
namespace Go.Proofs.Ytifidfgihpkgcaa
open Go.RowKit Wv

set_option maxHeartbeats 1000000 in
theorem checks_walk (s : ByteArray) (w : World) (hm : s.size ≤ maxLen) :
    Calls Try.prog 3 #[.string s] w fun e w' => e = .returned (.bool true) ∧ w.grownBy w' none := by
  have HA : Hid _ := fun W => check_any s W hm
  have hB := fun W => rcheck_any s W hm
  unfold RChkPost at hB
  have HB : Hid _ := hB
  clear hB
  generalize (chk s).1 = c at *
  generalize (chk s).2 = d at *
  go_enter Try.func3, Try.ntmps3
  go_wp2_with (first | (go_at_call 6; go_must (refine Calls.mono (HA.out _) ?_; rintro e w1 ⟨rfl, hg1⟩)) | (go_at_call 7; go_must (refine Calls.mono (HB.out _) ?_; rintro e w2 ⟨rfl, hg2⟩)) | (go_at_call 8; go_must (refine Calls.mono (num_any _ _) ?_; rintro e w3 ⟨rfl, rfl⟩)))
  go_ret
  exact ⟨rfl, grownBy_trans hg1 hg2⟩

end Go.Proofs.Ytifidfgihpkgcaa

set_option linter.unusedSimpArgs false
set_option linter.unusedVariables false
namespace Go.Proofs.Ytifidfgihpkgcaa
open Go.RowKit Wv

set_option maxHeartbeats 1000000 in
theorem plays_walk (s : ByteArray) (fuel : Int) (row : ByteArray) (w : World) (hm : s.size ≤ maxLen) (hmr : row.size ≤ maxLen) :
    Calls Try.prog 4 #[.string s, .int .i64 fuel, .string row] w fun e w' => e = .returned (.bool true) ∧ w.grownBy w' none := by
  have HA : Hid _ := fun W => playC_any s fuel row W hm hmr
  have HB : Hid _ := fun W => rplay_any s fuel row W hm hmr
  unfold PlayV at HA HB
  go_enter Try.func4, Try.ntmps4
  go_wp2_with (first | (go_at_call 9; go_must (refine Calls.mono (HA.out _) ?_; rintro e1 w1 ⟨rfl, hg1⟩)) | (go_at_call 10; go_must (refine Calls.mono (HB.out _) ?_; rintro e2 w2 ⟨rfl, hg2⟩)) | (go_at_call 8; go_must (refine Calls.mono (num_any _ _) ?_; rintro e3 w3 ⟨rfl, rfl⟩)))
  go_ret
  exact ⟨rfl, grownBy_trans hg1 hg2⟩
end Go.Proofs.Ytifidfgihpkgcaa

