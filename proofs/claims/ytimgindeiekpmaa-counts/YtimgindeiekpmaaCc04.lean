import Derived.Test.YtimgindeiekpmaaCc03
import Derived.Test.YtimgindeiekpmaaPa21
import Derived.Test.YtimgindeiekpmaaCc01
import Derived.ProofKit
import Derived.OpenShut
import Derived.ShutString
import Derived.ChangeOld
import Derived.Below
set_option linter.unusedSimpArgs false
set_option linter.unusedVariables false
namespace Go.Proofs.Ytimgindeiekpmaa
open Go.RowKit Wv

def ClsV (w : World) (r : Int × Int × Int) (e : Ending) (w' : World) : Prop :=
  e = .returned (.tuple #[.int .i64 r.1, .int .i64 r.2.1, .int .i64 r.2.2]) ∧ w.grownBy w' none
/-- What Classes answers. -/
def clsV (s : ByteArray) (fuel : Int) : Int × Int × Int :=
  if (chk s).1 = 0 then (if fuel < 0 ∨ 8 < fuel then (0, 4, 0) else match Wv.rd s 2 0 [] with
    | .ok L => if cnt s L 24 (startF L.length fuel) [] ≤ 300 then ((cnt s L 24 (startF L.length fuel) [] : Int), 0, 0) else (0, 5, 0)
    | .error _ => (0, 0, 0)) else (0, (chk s).1, ((chk s).2 : Int))
theorem fuel_start (n : Nat) (fuel : Int) (f8 : fuel ≤ 8) (f0 : 0 ≤ fuel) : fuelOf (startF n fuel) ≤ ((24 : Nat) : Int) := by
  unfold fuelOf startF
  split <;> split <;> split <;> omega

set_option maxRecDepth 100000 in
theorem catchCls_panicking (p q : Nat) (t1 t2 : Nat) (v1 v2 : Value) (a b : Int) (older : List PanicEntry) (w : World) (h1 : One w p t1 v1) (h2 : One w q t2 v2) (hne : p ≠ q) :
    CallsD Try.prog 55 #[.pointer (some ⟨p, 0, none⟩), .pointer (some ⟨q, 0, none⟩)] (.panicking ({ v := .iface 108 (.agg #[.int .i64 a, .int .i64 b]), recovered := false } :: older)) w fun e u' w' =>
      e = .returned (.tuple #[]) ∧ u' = .panicking ({ v := .iface 108 (.agg #[.int .i64 a, .int .i64 b]), recovered := true } :: older) ∧
      ∃ w1, w.grownBy w1 none ∧ w' = (w1.setCell ⟨p, 0, none⟩ (.int .i64 a)).setCell ⟨q, 0, none⟩ (.int .i64 b) := by
  refine callsD_of_wpS Try.func55 rfl fun c₀ cs hu => ?_
  apply wpS_region
  simp [wpOpsS, go_sem, recoverD, hu, Try.ntmps55, Exit.thenS]
  refine Calls.mono (refused_some a b w) ?_
  rintro e w1 ⟨rfl, hg⟩
  have k1 := cell_of_one (h1.kept hg (by simp)).blk
  have k2 := cell_of_one (h2.kept hg (by simp)).blk
  have z1 := free_of_one (h1.kept hg (by simp)).blk
  have z2 := free_of_one (h2.kept hg (by simp)).blk
  simp [wpOpsS, go_sem, k1, k2, z1, z2, hne, hne.symm, bodyPostS, results, Try.results55]
  exact ⟨w1, hg, rfl⟩

set_option maxRecDepth 100000 in
theorem catchCls_idle (p q : Nat) (t1 t2 : Nat) (v1 v2 : Value) (w : World) (h1 : One w p t1 v1) (h2 : One w q t2 v2) (hne : p ≠ q) :
    CallsD Try.prog 55 #[.pointer (some ⟨p, 0, none⟩), .pointer (some ⟨q, 0, none⟩)] .returning w fun e u' w' =>
      e = .returned (.tuple #[]) ∧ u' = .returning ∧ w' = (w.setCell ⟨p, 0, none⟩ (.int .i64 0)).setCell ⟨q, 0, none⟩ (.int .i64 0) := by
  have k1 := cell_of_one h1.blk
  have k2 := cell_of_one h2.blk
  have z1 := free_of_one h1.blk
  have z2 := free_of_one h2.blk
  refine callsD_of_wpS Try.func55 rfl fun c₀ cs hu => ?_
  apply wpS_region
  simp [wpOpsS, go_sem, recoverD, hu, Try.ntmps55, Exit.thenS]
  refine Calls.mono (refused_nil w) ?_
  rintro e w1 ⟨rfl, rfl⟩
  cases c₀
  simp_all [wpOpsS, go_sem, hne, hne.symm, bodyPostS, results, Try.results55]


/-- A frame of Classes that gives up. -/
structure GivenC (w : World) (a : Act) (w1 : World) : Prop where
  s6 : a.tmps[4]? = some (.int .i64 0)
  s7 : a.tmps[5]? = some (.pointer (some ⟨w.heap.size, 0, none⟩))
  s8 : a.tmps[6]? = some (.pointer (some ⟨w.heap.size + 1, 0, none⟩))
  df : a.defers = [{ target := Target.fn (Fn.func 55) #[.pointer (some ⟨w.heap.size, 0, none⟩), .pointer (some ⟨w.heap.size + 1, 0, none⟩)], args := #[] }]
  o1 : One w1 w.heap.size 22 (.int .i64 0)
  o2 : One w1 (w.heap.size + 1) 3 (.int .i64 0)
  gr : w.grownBy w1 none
theorem GivenC.put {w w1 : World} {a : Act} {d : Nat} {v : Value} (hd : d ≠ 4 ∧ d ≠ 5 ∧ d ≠ 6) (h : GivenC w (a.put (some d) v) w1) : GivenC w a w1 := by
  obtain ⟨h6, h7, h8, hd', o1, o2, gr⟩ := h
  refine ⟨?_, ?_, ?_, hd', o1, o2, gr⟩
  · simpa [Act.put, hd.1] using h6
  · simpa [Act.put, hd.2.1] using h7
  · simpa [Act.put, hd.2.2] using h8

set_option maxRecDepth 100000 in
theorem GivenC.leaves {w w1 : World} {a : Act} (h : GivenC w a w1) (e p : Int) :
    Leaves Try.prog Try.f32 a.tmps (fun e' w' => e' = .returned (.tuple #[.int .i64 0, .int .i64 e, .int .i64 p]) ∧ w.grownBy w' none) a.defers (.panicking (refusal e p)) w1 := by
  obtain ⟨h6, h7, h8, hd, o1, o2, gr⟩ := h
  rw [hd]
  have hN : w.heap.size ≠ w.heap.size + 1 := by omega
  refine leaves_cons (f := 55) (args := #[.pointer (some ⟨w.heap.size, 0, none⟩), .pointer (some ⟨w.heap.size + 1, 0, none⟩)]) (by simp) (by simp [go_sem]) ?_
  refine CallsD.mono (catchCls_panicking _ _ _ _ _ _ e p [] w1 o1 o2 hN) ?_
  rintro e' u' w'' ⟨rfl, rfl, w2, hg2, rfl⟩
  have k1 := cell_of_one (o1.kept hg2 (by simp)).blk
  have k2 := cell_of_one (o2.kept hg2 (by simp)).blk
  simp [Leaves, settle, results, Try.results32, go_sem, k1, k2, h6, h7, h8, Array.getD_eq_getD_getElem?]
  exact grownBy_set_new (grownBy_set_new (grownBy_trans gr hg2) (Nat.le_refl _) _ _) (Nat.le_succ _) _ _

set_option maxHeartbeats 1000000 in
set_option maxRecDepth 100000 in
theorem clsC_unread (s : ByteArray) (fuel : Int) (w : World) (hm : s.size ≤ maxLen) (hne : (chk s).1 ≠ 0) :
    Calls Try.prog 32 #[.string s, .int .i64 fuel] w (ClsV w (0, (chk s).1, ((chk s).2 : Int))) := by
  have hmf : ∀ (fn : Fn) (first cap : Array Value) (w : World), (Instr.makeFunc fn first cap).run Try.prog w = .ok (.func fn first cap) w := fun _ _ _ _ => rfl
  have HRD : Hid _ := fun W => read_any s W hm
  clear hm
  unfold ClsV
  go_enter_defers Try.func32, Try.ntmps32
  go_wp2_with fail
  refine Calls.mono (HRD.out _) ?_
  rintro e w1 ⟨hg, hpost⟩
  obtain ⟨o1, o2, hgw⟩ := two_ones hg
  clear hg
  rcases hpost with ⟨_, rfl⟩ | ⟨heq, _⟩
  · exact GivenC.leaves ⟨rfl, rfl, rfl, rfl, o1, o2, hgw⟩ _ _
  · exact absurd heq hne

/-- The post of a region that may give up, its frame told. -/
def PQC (w : World) (e p : Int) (Q : Exit → Act → World → Prop) : Exit → Act → World → Prop
  | .panic c, a, w1 => c = refusal e p ∧ GivenC w a w1
  | x, a, w1 => Q x a w1
theorem wp_PQC {c : Code} {K : Act → World → Prop} {w W : World} {e p : Int} {a : Act}
    (h : c.wp Try.prog (PQC w e p (Exit.then K (bodyPostD Try.prog Try.f32 fun e' w' => e' = .returned (.tuple #[.int .i64 0, .int .i64 e, .int .i64 p]) ∧ w.grownBy w' none))) a W) :
    c.wp Try.prog (Exit.then K (bodyPostD Try.prog Try.f32 fun e' w' => e' = .returned (.tuple #[.int .i64 0, .int .i64 e, .int .i64 p]) ∧ w.grownBy w' none)) a W := by
  refine Code.wp_mono ?_ h
  intro x a w1 hx
  cases x with
  | panic c => obtain ⟨rfl, hg⟩ := hx; exact hg.leaves e p
  | _ => exact hx
theorem PQC.put {w w1 : World} {e p : Int} {Q : Exit → Act → World → Prop} {d : Nat} {v : Value} (hd : d ≠ 4 ∧ d ≠ 5 ∧ d ≠ 6) (c : List PanicEntry) (a : Act) (h : PQC w e p Q (.panic c) (a.put (some d) v) w1) : PQC w e p Q (.panic c) a w1 :=
  ⟨h.1, h.2.put hd⟩

set_option maxHeartbeats 1000000 in
set_option maxRecDepth 100000 in
theorem clsC_fuel (s : ByteArray) (fuel : Int) (w : World) (hm : s.size ≤ maxLen) (h0 : (chk s).1 = 0) (hf : fuel < 0 ∨ 8 < fuel) :
    Calls Try.prog 32 #[.string s, .int .i64 fuel] w (ClsV w (0, 4, 0)) := by
  have hmf : ∀ (fn : Fn) (first cap : Array Value) (w : World), (Instr.makeFunc fn first cap).run Try.prog w = .ok (.func fn first cap) w := fun _ _ _ _ => rfl
  have HRD : Hid _ := fun W => read_any s W hm
  clear hm
  unfold ClsV
  go_enter_defers Try.func32, Try.ntmps32
  go_wp2_with fail
  refine Calls.mono (HRD.out _) ?_
  rintro e w1 ⟨hg, hpost⟩
  obtain ⟨o1, o2, hgw⟩ := two_ones hg
  clear hg
  rcases hpost with ⟨hne, rfl⟩ | ⟨heq, L, tv, vs, mb, rfl, hM⟩
  · exact absurd h0 hne
  · obtain ⟨ao, cap, rfl⟩ := ownsRow_slice hM.own.out
    have HS : Hid (∀ W, Calls Try.prog 41 #[.agg #[.slice ao L.length cap, .map (some mb)], .int .i64 fuel] W fun e w' => e = .panicked (refusal 4 0) ∧ W.grownBy w' none) := fun W => start_bad L.length cap ao (.map (some mb)) fuel W rfl hf
    have hbx := BoxM.start o1 o2 hgw #[.slice ao L.length cap, .map (some mb)]
    have HB : Hid _ := hbx
    clear o1 o2 hM hf heq h0 hgw hbx
    go_wp2_with fail
    refine wp_PQC ?_
    have hc0 : ∀ W, BoxM w w1.heap.size #[.slice ao L.length cap, .map (some mb)] W → W.cell? ⟨w1.heap.size, 0, none⟩ = some (.slice ao L.length cap) := fun W h => (blk2 h.box).1
    have hc1 : ∀ W, BoxM w w1.heap.size #[.slice ao L.length cap, .map (some mb)] W → W.cell? ⟨w1.heap.size, 1, none⟩ = some (.map (some mb)) := fun W h => (blk2 h.box).2.1
    refine wp_region_held_drew (S := fun W => BoxM w w1.heap.size #[.slice ao L.length cap, .map (some mb)] W) (by kernel_rfl) HB.out (fun hHeld => ?_)
    refine wpAnyH_take (i := 0) (v := .agg #[.slice ao L.length cap, .map (some mb)]) rfl (by kernel_rfl) (by kernel_rfl) (by kernel_rfl) (fun c a w => PQC.put (by decide) c a) (Or.inl ⟨by rfl, ?_⟩) hHeld ?_
    · intro W hSw; go_simp
    simp only [Act.put, List.setIfInBounds_toArray, List.set_cons_zero, List.set_cons_succ]
    refine wpAnyH_take (i := 1) (v := .agg #[.slice ao L.length cap, .map (some mb)]) rfl (by kernel_rfl) (by kernel_rfl) (by kernel_rfl) (fun c a w => PQC.put (by decide) c a) (Or.inl ⟨by rfl, ?_⟩) hHeld ?_
    · intro W hSw; go_simp
    simp only [Act.put, List.setIfInBounds_toArray, List.set_cons_zero, List.set_cons_succ]
    refine wpAnyH_take (i := 2) (v := .int .i64 fuel) rfl (by kernel_rfl) (by kernel_rfl) (by kernel_rfl) (fun c a w => PQC.put (by decide) c a) (Or.inl ⟨by rfl, ?_⟩) hHeld ?_
    · intro W hSw; go_simp
    simp only [Act.put, List.setIfInBounds_toArray, List.set_cons_zero, List.set_cons_succ]
    refine wpAnyH_ready (rs := [3]) (by kernel_rfl) (by simp) ?_
    refine AllReadyH.cons rfl (fun K hK => ?_) AllReadyH.nil
    go_simp
    go_wp2_with (go_at_call 41; go_must (refine Calls.mono (HS.out _) ?_; rintro e w2 ⟨rfl, hg2⟩))
    have h2 := hHeld.later hg2
    exact ⟨rfl, rfl, rfl, rfl, rfl, h2.o1, h2.o2, h2.gr⟩
set_option maxHeartbeats 1000000 in
set_option maxRecDepth 100000 in
theorem clsC_bad (s : ByteArray) (fuel : Int) (w : World) (L : List (List Nat)) (hm : s.size ≤ maxLen) (h0 : (chk s).1 = 0) (hL : PL s L) (hrd : Wv.rd s 2 0 [] = .ok L) (f0 : 0 ≤ fuel) (f8 : fuel ≤ 8) (hr : 300 < cnt s L 24 (startF L.length fuel) []) :
    Calls Try.prog 32 #[.string s, .int .i64 fuel] w (ClsV w (0, 5, 0)) := by
  have hmf : ∀ (fn : Fn) (first cap : Array Value) (w : World), (Instr.makeFunc fn first cap).run Try.prog w = .ok (.func fn first cap) w := fun _ _ _ _ => rfl
  have HRD : Hid _ := fun W => read_any s W hm
  clear hm
  unfold ClsV
  go_enter_defers Try.func32, Try.ntmps32
  go_wp2_with fail
  refine Calls.mono (HRD.out _) ?_
  rintro e1 w1 ⟨hg, hpost⟩
  obtain ⟨o1, o2, hgw⟩ := two_ones hg
  clear hg
  rcases hpost with ⟨hne, rfl⟩ | ⟨heq, L', tv, vs, mb, rfl, hM⟩
  · exact absurd h0 hne
  · obtain rfl : L = L' := by have := hM.rd; rw [hrd] at this; simpa using this
    have hpg := prog_of hM hL
    obtain ⟨ao, cap, rfl⟩ := ownsRow_slice hM.own.out
    have HS : Hid (∀ W, Calls Try.prog 41 #[.agg #[.slice ao L.length cap, .map (some mb)], .int .i64 fuel] W fun e w' => e = .returned (.agg (cst (startF L.length fuel))) ∧ W.grownBy w' none) := fun W => start_any L.length cap ao (.map (some mb)) fuel W rfl f0 f8 hL.three
    have HPL : Hid (∀ W, w1.grownBy W none → Calls Try.prog 56 #[.agg #[.slice ao L.length cap, .map (some mb)], .agg (cst (startF L.length fuel)), .slice none 0 0, .int .i64 0] W fun e' w' => e' = .panicked (refusal 5 0) ∧ W.grownBy w' none) := fun W hW =>
      (classes_any s L w1 _ _ _ mb vs hpg hM.deeds hL 24 (startF L.length fuel) [] 0 (.slice none 0 0) W hW (World.ownsRow_nil _ _ _ _) (ok_start L _ fuel hL.three f0 f8) (fuel_start _ _ f8 f0) (by simp) (by omega) (by simp)).mono fun e' w' hh => by
        obtain ⟨⟨_, hg, _⟩, hh⟩ := hh
        rw [Nat.zero_add] at hh
        rcases hh with ⟨h, _⟩ | ⟨_, h⟩
        · omega
        · exact ⟨h, hg⟩
    have HG1 : Hid (w1.grownBy (w1.alloc (.cells #[.slice ao L.length cap, .map (some mb)] 77)).drew none) := rgrown_drew (World.grownBy_alloc _ _ _)
    have hbx := BoxM.start o1 o2 hgw #[.slice ao L.length cap, .map (some mb)]
    have HB : Hid _ := hbx
    clear o1 o2 hM heq h0 hgw hbx hpg hr hrd hL f0 f8
    go_wp2_with fail
    refine wp_PQC ?_
    have hc0 : ∀ W, BoxM w w1.heap.size #[.slice ao L.length cap, .map (some mb)] W → W.cell? ⟨w1.heap.size, 0, none⟩ = some (.slice ao L.length cap) := fun W h => (blk2 h.box).1
    have hc1 : ∀ W, BoxM w w1.heap.size #[.slice ao L.length cap, .map (some mb)] W → W.cell? ⟨w1.heap.size, 1, none⟩ = some (.map (some mb)) := fun W h => (blk2 h.box).2.1
    refine wp_region_held_drew (S := fun W => BoxM w w1.heap.size #[.slice ao L.length cap, .map (some mb)] W) (by kernel_rfl) HB.out (fun hHeld => ?_)
    refine wpAnyH_take (i := 0) (v := .agg #[.slice ao L.length cap, .map (some mb)]) rfl (by kernel_rfl) (by kernel_rfl) (by kernel_rfl) (fun c a w => PQC.put (by decide) c a) (Or.inl ⟨by rfl, ?_⟩) hHeld ?_
    · intro W hSw; go_simp
    simp only [Act.put, List.setIfInBounds_toArray, List.set_cons_zero, List.set_cons_succ]
    refine wpAnyH_take (i := 1) (v := .agg #[.slice ao L.length cap, .map (some mb)]) rfl (by kernel_rfl) (by kernel_rfl) (by kernel_rfl) (fun c a w => PQC.put (by decide) c a) (Or.inl ⟨by rfl, ?_⟩) hHeld ?_
    · intro W hSw; go_simp
    simp only [Act.put, List.setIfInBounds_toArray, List.set_cons_zero, List.set_cons_succ]
    refine wpAnyH_take (i := 2) (v := .int .i64 fuel) rfl (by kernel_rfl) (by kernel_rfl) (by kernel_rfl) (fun c a w => PQC.put (by decide) c a) (Or.inl ⟨by rfl, ?_⟩) hHeld ?_
    · intro W hSw; go_simp
    simp only [Act.put, List.setIfInBounds_toArray, List.set_cons_zero, List.set_cons_succ]
    refine wpAnyH_ready (rs := [3]) (by kernel_rfl) (by simp) ?_
    refine AllReadyH.cons rfl (fun K hK => ?_) AllReadyH.nil
    go_simp
    go_wp2_with (go_at_call 41; go_must (refine Calls.mono (HS.out _) ?_; rintro e2 w2 ⟨rfl, hg2⟩))
    have hH2 := hHeld.later hg2
    refine hK.out _ _ hH2 (fun _ => ?_)
    refine wpAnyH_ready (rs := [4]) (by kernel_rfl) (by simp) ?_
    refine AllReadyH.cons rfl (fun K hK => ?_) AllReadyH.nil
    go_simp
    go_wp2_with (go_at_call 56; go_must (refine Calls.mono (HPL.out _ (grownBy_trans HG1.out hg2)) ?_; rintro e3 w3 ⟨rfl, hg3⟩))
    have h2 := hH2.later hg3
    exact ⟨rfl, rfl, rfl, rfl, rfl, h2.o1, h2.o2, h2.gr⟩

set_option maxHeartbeats 1000000 in
set_option maxRecDepth 100000 in
theorem clsC_ok (s : ByteArray) (fuel : Int) (w : World) (L : List (List Nat)) (hm : s.size ≤ maxLen) (h0 : (chk s).1 = 0) (hL : PL s L) (hrd : Wv.rd s 2 0 [] = .ok L) (f0 : 0 ≤ fuel) (f8 : fuel ≤ 8) (hr : cnt s L 24 (startF L.length fuel) [] ≤ 300) :
    Calls Try.prog 32 #[.string s, .int .i64 fuel] w (ClsV w ((cnt s L 24 (startF L.length fuel) [] : Int), 0, 0)) := by
  have hmf : ∀ (fn : Fn) (first cap : Array Value) (w : World), (Instr.makeFunc fn first cap).run Try.prog w = .ok (.func fn first cap) w := fun _ _ _ _ => rfl
  have HRD : Hid _ := fun W => read_any s W hm
  clear hm
  unfold ClsV
  go_enter_defers Try.func32, Try.ntmps32
  go_wp2_with fail
  refine Calls.mono (HRD.out _) ?_
  rintro e1 w1 ⟨hg, hpost⟩
  obtain ⟨o1, o2, hgw⟩ := two_ones hg
  clear hg
  rcases hpost with ⟨hne, rfl⟩ | ⟨heq, L', tv, vs, mb, rfl, hM⟩
  · exact absurd h0 hne
  · obtain rfl : L = L' := by have := hM.rd; rw [hrd] at this; simpa using this
    have hpg := prog_of hM hL
    obtain ⟨ao, cap, rfl⟩ := ownsRow_slice hM.own.out
    have HS : Hid (∀ W, Calls Try.prog 41 #[.agg #[.slice ao L.length cap, .map (some mb)], .int .i64 fuel] W fun e w' => e = .returned (.agg (cst (startF L.length fuel))) ∧ W.grownBy w' none) := fun W => start_any L.length cap ao (.map (some mb)) fuel W rfl f0 f8 hL.three
    have HPL : Hid (∀ W, w1.grownBy W none → Calls Try.prog 56 #[.agg #[.slice ao L.length cap, .map (some mb)], .agg (cst (startF L.length fuel)), .slice none 0 0, .int .i64 0] W fun e' w' => e' = .returned (.int .i64 ((cnt s L 24 (startF L.length fuel) [] : Nat) : Int)) ∧ W.grownBy w' none) := fun W hW =>
      (classes_any s L w1 _ _ _ mb vs hpg hM.deeds hL 24 (startF L.length fuel) [] 0 (.slice none 0 0) W hW (World.ownsRow_nil _ _ _ _) (ok_start L _ fuel hL.three f0 f8) (fuel_start _ _ f8 f0) (by simp) (by omega) (by simp)).mono fun e' w' hh => by
        obtain ⟨⟨_, hg, _⟩, hh⟩ := hh
        rw [Nat.zero_add] at hh
        rcases hh with ⟨_, h⟩ | ⟨h, _⟩
        · exact ⟨h, hg⟩
        · omega
    have HG1 : Hid (w1.grownBy (w1.alloc (.cells #[.slice ao L.length cap, .map (some mb)] 77)).drew none) := rgrown_drew (World.grownBy_alloc _ _ _)
    have hbx := BoxM.start o1 o2 hgw #[.slice ao L.length cap, .map (some mb)]
    have hb1 : w.heap.size + 1 < w1.heap.size := lt_of_block o2.blk
    have hb0 : w.heap.size < w1.heap.size := by omega
    have HB : Hid _ := hbx
    clear o1 o2 hM heq h0 hgw hbx hpg hr hrd hL f0 f8
    generalize hT : ((cnt s L 24 (startF L.length fuel) [] : Nat) : Int) = t at *
    go_wp2_with fail
    refine wp_region_noPanic ?_
    have hc0 : ∀ W, BoxM w w1.heap.size #[.slice ao L.length cap, .map (some mb)] W → W.cell? ⟨w1.heap.size, 0, none⟩ = some (.slice ao L.length cap) := fun W h => (blk2 h.box).1
    have hc1 : ∀ W, BoxM w w1.heap.size #[.slice ao L.length cap, .map (some mb)] W → W.cell? ⟨w1.heap.size, 1, none⟩ = some (.map (some mb)) := fun W h => (blk2 h.box).2.1
    have hq1 : ∀ W, BoxM w w1.heap.size #[.slice ao L.length cap, .map (some mb)] W → W.cell? ⟨w.heap.size, 0, none⟩ = some (.int .i64 0) := fun W h => cell_of_one h.o1.blk
    have hq2 : ∀ W, BoxM w w1.heap.size #[.slice ao L.length cap, .map (some mb)] W → W.cell? ⟨w.heap.size + 1, 0, none⟩ = some (.int .i64 0) := fun W h => cell_of_one h.o2.blk
    have hz1 : ∀ W, BoxM w w1.heap.size #[.slice ao L.length cap, .map (some mb)] W → W.frozen? ⟨w.heap.size, 0, none⟩ = false := fun W h => free_of_one h.o1.blk
    have hz2 : ∀ W, BoxM w w1.heap.size #[.slice ao L.length cap, .map (some mb)] W → W.frozen? ⟨w.heap.size + 1, 0, none⟩ = false := fun W h => free_of_one h.o2.blk
    refine wp_region_held_drew (S := fun W => BoxM w w1.heap.size #[.slice ao L.length cap, .map (some mb)] W) (by kernel_rfl) HB.out (fun hHeld => ?_)
    refine wpAnyH_take (i := 0) (v := .agg #[.slice ao L.length cap, .map (some mb)]) rfl (by kernel_rfl) (by kernel_rfl) (by kernel_rfl) (fun c a w h => h) (Or.inl ⟨by rfl, ?_⟩) hHeld ?_
    · intro W hSw; go_simp
    simp only [Act.put, List.setIfInBounds_toArray, List.set_cons_zero, List.set_cons_succ]
    refine wpAnyH_take (i := 1) (v := .agg #[.slice ao L.length cap, .map (some mb)]) rfl (by kernel_rfl) (by kernel_rfl) (by kernel_rfl) (fun c a w h => h) (Or.inl ⟨by rfl, ?_⟩) hHeld ?_
    · intro W hSw; go_simp
    simp only [Act.put, List.setIfInBounds_toArray, List.set_cons_zero, List.set_cons_succ]
    refine wpAnyH_take (i := 2) (v := .int .i64 fuel) rfl (by kernel_rfl) (by kernel_rfl) (by kernel_rfl) (fun c a w h => h) (Or.inl ⟨by rfl, ?_⟩) hHeld ?_
    · intro W hSw; go_simp
    simp only [Act.put, List.setIfInBounds_toArray, List.set_cons_zero, List.set_cons_succ]
    refine wpAnyH_ready (rs := [3]) (by kernel_rfl) (by simp) ?_
    refine AllReadyH.cons rfl (fun K hK => ?_) AllReadyH.nil
    go_simp
    go_wp2_with (go_at_call 41; go_must (refine Calls.mono (HS.out _) ?_; rintro e2 w2 ⟨rfl, hg2⟩))
    have hH2 := hHeld.later hg2
    refine hK.out _ _ hH2 (fun _ => ?_)
    refine wpAnyH_ready (rs := [4]) (by kernel_rfl) (by simp) ?_
    refine AllReadyH.cons rfl (fun K hK => ?_) AllReadyH.nil
    go_simp
    go_wp2_with (go_at_call 56; go_must (refine Calls.mono (HPL.out _ (grownBy_trans HG1.out hg2)) ?_; rintro e3 w3 ⟨rfl, hg3⟩))
    have h3 := hH2.later hg3
    refine hK.out _ _ h3 (fun _ => ?_)
    clear hH2 hHeld hg2 hg3
    refine wpAnyH_ready (rs := [5]) (by kernel_rfl) (by simp) ?_
    refine AllReadyH.cons rfl (fun K hK => ?_) AllReadyH.nil
    go_simp
    refine hK.out _ _ h3 (fun _ => ?_)
    have d1 := hq1 _ h3
    have d2 := hz1 _ h3
    refine wpAnyH_ready (rs := [6]) (by kernel_rfl) (by simp) ?_
    refine AllReadyH.cons rfl (fun K hK => ?_) AllReadyH.nil
    go_simp
    have h4 := h3.set1 hb0
    refine hK.out _ _ h4 (fun _ => ?_)
    have d3 := hq2 _ h4
    have d4 := hz2 _ h4
    refine wpAnyH_ready (rs := [7]) (by kernel_rfl) (by simp) ?_
    refine AllReadyH.cons rfl (fun K hK => ?_) AllReadyH.nil
    go_simp
    have h5 := h4.set2 hb1
    refine hK.out _ _ h5 (fun _ => ?_)
    refine wpAnyH_done (by kernel_rfl) ?_ _
    refine NoPanic.normal ?_
    clear d1 d2 d3 d4 h3 h4
    have H5 : Hid _ := h5
    clear h5
    go_wp2_with fail
    have hN : w.heap.size ≠ w.heap.size + 1 := by omega
    have hq := H5.out
    generalize (w3.setCell { block := w.heap.size, off := 0 } (Value.int IntKind.i64 0)).setCell { block := w.heap.size + 1, off := 0 } (Value.int IntKind.i64 0) = w5 at *
    refine leaves_cons (f := 55) (args := #[.pointer (some ⟨w.heap.size, 0, none⟩), .pointer (some ⟨w.heap.size + 1, 0, none⟩)]) (by simp) (by simp [go_sem]) ?_
    refine CallsD.mono (catchCls_idle _ _ _ _ _ _ _ hq.o1 hq.o2 hN) ?_
    rintro e u' w'' ⟨rfl, rfl, rfl⟩
    have j1 := cell_of_one hq.o1.blk
    have j2 := cell_of_one hq.o2.blk
    have hgf := ((hq.set1 hb0).set2 hb1).gr
    simp [Leaves, settle, results, Try.results32, go_sem, j1, j2]
    exact ⟨hT.symm, hgf⟩

/-- The program's Classes. -/
theorem clsC_any (s : ByteArray) (fuel : Int) (w : World) (hm : s.size ≤ maxLen) :
    Calls Try.prog 32 #[.string s, .int .i64 fuel] w (ClsV w (clsV s fuel)) := by
  by_cases h0 : (chk s).1 = 0
  · by_cases hf : fuel < 0 ∨ 8 < fuel
    · have : clsV s fuel = (0, 4, 0) := by unfold clsV; rw [if_pos h0, if_pos hf]
      rw [this]; exact clsC_fuel s fuel w hm h0 hf
    · obtain ⟨_, _, L, hr, hL⟩ := chk_zero h0
      by_cases hN : cnt s L 24 (startF L.length fuel) [] ≤ 300
      · have : clsV s fuel = ((cnt s L 24 (startF L.length fuel) [] : Int), 0, 0) := by unfold clsV; rw [if_pos h0, if_neg hf, hr]; simp only [if_pos hN]
        rw [this]; exact clsC_ok s fuel w L hm h0 hL hr (by omega) (by omega) hN
      · have : clsV s fuel = (0, 5, 0) := by unfold clsV; rw [if_pos h0, if_neg hf, hr]; simp only [if_neg hN]
        rw [this]; exact clsC_bad s fuel w L hm h0 hL hr (by omega) (by omega) (by omega)
  · have : clsV s fuel = (0, (chk s).1, ((chk s).2 : Int)) := by unfold clsV; rw [if_neg h0]
    rw [this]; exact clsC_unread s fuel w hm h0
end Go.Proofs.Ytimgindeiekpmaa

set_option linter.unusedSimpArgs false
set_option linter.unusedVariables false
namespace Go.Proofs.Ytimgindeiekpmaa
open Go.RowKit Wv

/-- The document's count. -/
theorem rcount_any (s : ByteArray) (L : List (List Nat)) (w0 : World) (base0 B0 : Nat) (tv : Value) (vs : List Value) (hP : RProg w0 base0 B0 s L tv vs) (hL : PL s L) :
    ∀ (f : Nat) (σ : Nat → Int) (row : List (Nat × Nat)) (left : Nat) (rv : Value) (base : Nat) (w : World), w0.grownBy w none → w.ownsRow base 53 5 rv row.length (rowC (rcells s) row) → Ok L σ → fuelOf σ ≤ (f : Int) → row.length + f ≤ 24 → 1 ≤ left → left ≤ 301 →
      Calls Try.prog 57 #[tv, .agg (rst σ), rv, .int .i64 (left : Int)] w fun e w' => e = .returned (.int .i64 ((min (cnt s L f σ row) left : Nat) : Int)) ∧ w.grownBy w' none
  | 0, σ, row, left, rv, base, w, h0, ho, hO, hf, hl, hl1, hl3 => by
    have hov := over_fuel (s := s) hL.three hO (by simpa using hf)
    rw [cnt_over hov]
    exact rcount_over s L w0 base0 B0 tv vs hP σ left rv w h0 hO hl1 hov
  | f + 1, σ, row, left, rv, base, w, h0, ho, hO, hf, hl, hl1, hl3 => by
    cases hov : overB s L σ with
    | true =>
      rw [cnt_over hov]
      exact rcount_over s L w0 base0 B0 tv vs hP σ left rv w h0 hO hl1 hov
    | false =>
      rw [cnt_more hov]
      refine rcount_more s L w0 base0 B0 tv vs hP hL f σ row left rv base w h0 ho hO (by omega) hl1 hl3 hov ?_
      intro who hw hm hlt left' rv' base' W ha hb hW how
      have hft := fuel_turn hL hO hw hm
      have hlen : (row ++ [(who, stp L σ who)]).length = row.length + 1 := by simp
      exact rcount_any s L w0 base0 B0 tv vs hP hL f (turnF s L σ who) (row ++ [(who, stp L σ who)]) left' rv' base' W hW (by rw [hlen]; exact how) (ok_turn hL hO hw hm) (by rw [hft]; push_cast at hf; omega) (by rw [hlen]; omega) ha hb

set_option maxHeartbeats 1000000 in
set_option maxRecDepth 100000 in
theorem rcls_given (s : ByteArray) (fuel : Int) (w : World) (hm : s.size ≤ maxLen) (hne : (givB s fuel).1 ≠ 0) :
    Calls Try.prog 33 #[.string s, .int .i64 fuel] w (ClsV w (0, (givB s fuel).1, (givB s fuel).2)) := by
  have HG : Hid _ := rGiven_any s fuel w hm
  have b0 : ((givB s fuel).1 == 0) = false := by simpa using hne
  clear hm hne
  unfold ClsV
  generalize (givB s fuel).1 = e at *
  generalize (givB s fuel).2 = p at *
  go_enter Try.func33, Try.ntmps33
  go_wp2_with (go_at_call 42; go_must (refine Calls.mono HG.out ?_; rintro e1 w1 ⟨rfl, hg⟩))
  go_ret3
  exact ⟨rfl, hg⟩

theorem rfuel_start (fuel : Int) (f8 : fuel ≤ 8) (f0 : 0 ≤ fuel) : fuelOf (rstartF 3 fuel) ≤ ((24 : Nat) : Int) := fuel_start 3 fuel f8 f0

set_option maxHeartbeats 1000000 in
set_option maxRecDepth 100000 in
theorem rcls_rest (s : ByteArray) (fuel : Int) (w : World) (L : List (List Nat)) (hm : s.size ≤ maxLen) (h0 : givB s fuel = (0, 0)) (hL : PL s L) (hs : s.size ≤ 150) (hrd : Wv.rd s 2 0 [] = .ok L) (f0 : 0 ≤ fuel) (f8 : fuel ≤ 8) :
    Calls Try.prog 33 #[.string s, .int .i64 fuel] w (ClsV w (if cnt s L 24 (rstartF 3 fuel) [] ≤ 300 then ((cnt s L 24 (rstartF 3 fuel) [] : Int), 0, 0) else (0, 5, 0))) := by
  have hG := rGiven_any s fuel w hm
  rw [h0] at hG
  have HG : Hid _ := hG
  have HRD : Hid (∀ W, Calls Try.prog 20 #[.string s] W (RReadPost s (.ok L) W)) := fun W => by rw [← hrd]; exact rread_any s W hs
  have HST : Hid _ := fun W => rStart_any fuel W f0 f8
  have hok : Ok L (rstartF 3 fuel) := ok_start L 3 fuel hL.three f0 f8
  have hfu := rfuel_start fuel f8 f0
  have HCT : Hid (∀ w2 base0 B0 tv vs, RProg w2 base0 B0 s L tv vs → ∀ W, w2.grownBy W none → Calls Try.prog 57 #[tv, .agg (rst (rstartF 3 fuel)), .slice none 0 0, .int .i64 301] W fun e w' => e = .returned (.int .i64 ((min (cnt s L 24 (rstartF 3 fuel) []) 301 : Nat) : Int)) ∧ W.grownBy w' none) :=
    fun w2 base0 B0 tv vs hP W hW => rcount_any s L w2 base0 B0 tv vs hP hL 24 (rstartF 3 fuel) [] 301 (.slice none 0 0) 0 W hW (World.ownsRow_nil _ _ _ _) hok hfu (by simp) (by omega) (by omega)
  have HL : Hid _ := hL
  unfold ClsV
  clear hG hm h0 hL hs hrd f0 f8 hok hfu
  generalize rstartF 3 fuel = σ at *
  generalize cnt s L 24 σ [] = N at *
  by_cases hN : N ≤ 300
  · rw [if_pos hN]
    have hmin : min N 301 = N := by omega
    rw [hmin] at HCT
    have b1 : ¬ 300 < N := by omega
    clear hmin
    go_enter Try.func33, Try.ntmps33
    go_wp2_with (first | (go_at_call 42; go_must (refine Calls.mono HG.out ?_; rintro e1 w1 ⟨rfl, hg1⟩)) | (go_at_call 20; go_must (refine Calls.mono (HRD.out _) ?_; rintro e2 w2 ⟨hg2, tv, vs, j, rfl, hown⟩; have HP : Hid _ := hown; obtain ⟨ao, cap, htv⟩ := ownsRow_slice hown.out; clear hown; subst htv)) | (go_at_call 21; go_must (refine Calls.mono (HST.out _) ?_; rintro e3 w3 ⟨rfl, hg3⟩)) | (go_at_call 57; go_must (refine Calls.mono (HCT.out _ _ _ _ _ ⟨HP.out, HL.out.three, HL.out.eight, HL.out.good⟩ _ hg3) ?_; rintro e4 w4 ⟨rfl, hg4⟩)))
    go_ret3
    exact ⟨rfl, grownBy_trans (grownBy_trans (grownBy_trans hg1 hg2) hg3) hg4⟩
  · rw [if_neg hN]
    have hmin : min N 301 = 301 := by omega
    rw [hmin] at HCT
    clear hmin
    go_enter Try.func33, Try.ntmps33
    go_wp2_with (first | (go_at_call 42; go_must (refine Calls.mono HG.out ?_; rintro e1 w1 ⟨rfl, hg1⟩)) | (go_at_call 20; go_must (refine Calls.mono (HRD.out _) ?_; rintro e2 w2 ⟨hg2, tv, vs, j, rfl, hown⟩; have HP : Hid _ := hown; obtain ⟨ao, cap, htv⟩ := ownsRow_slice hown.out; clear hown; subst htv)) | (go_at_call 21; go_must (refine Calls.mono (HST.out _) ?_; rintro e3 w3 ⟨rfl, hg3⟩)) | (go_at_call 57; go_must (refine Calls.mono (HCT.out _ _ _ _ _ ⟨HP.out, HL.out.three, HL.out.eight, HL.out.good⟩ _ hg3) ?_; rintro e4 w4 ⟨rfl, hg4⟩)))
    go_ret3
    exact ⟨rfl, grownBy_trans (grownBy_trans (grownBy_trans hg1 hg2) hg3) hg4⟩

/-- The document's Classes. -/
theorem rcls_any (s : ByteArray) (fuel : Int) (w : World) (hm : s.size ≤ maxLen) :
    Calls Try.prog 33 #[.string s, .int .i64 fuel] w (ClsV w (clsV s fuel)) := by
  by_cases h0 : (chk s).1 = 0
  · by_cases hf : fuel < 0 ∨ 8 < fuel
    · have hg : givB s fuel = (4, 0) := by unfold givB; rw [if_pos h0, if_pos hf]
      have : clsV s fuel = (0, (givB s fuel).1, (givB s fuel).2) := by unfold clsV; rw [if_pos h0, if_pos hf, hg]
      rw [this]; exact rcls_given s fuel w hm (by rw [hg]; decide)
    · obtain ⟨_, hs, L, hr, hL⟩ := chk_zero h0
      have hg : givB s fuel = (0, 0) := by unfold givB; rw [if_pos h0, if_neg hf]
      have hv : clsV s fuel = if cnt s L 24 (rstartF 3 fuel) [] ≤ 300 then ((cnt s L 24 (rstartF 3 fuel) [] : Int), 0, 0) else (0, 5, 0) := by
        unfold clsV
        rw [if_pos h0, if_neg hf, hr]
        simp only []
        rw [cnt_agree hL 24 [] (ok_start L L.length fuel hL.three (by omega) (by omega)) (agree_start L.length fuel hL.three)]
      rw [hv]
      exact rcls_rest s fuel w L hm hg hL (by omega) hr (by omega) (by omega)
  · have hg : givB s fuel = ((chk s).1, ((chk s).2 : Int)) := by unfold givB; rw [if_neg h0]
    have : clsV s fuel = (0, (givB s fuel).1, (givB s fuel).2) := by unfold clsV; rw [if_neg h0, hg]
    rw [this]; exact rcls_given s fuel w hm (by rw [hg]; exact h0)
end Go.Proofs.Ytimgindeiekpmaa

set_option linter.unusedSimpArgs false
set_option linter.unusedVariables false
namespace Go.Proofs.Ytimgindeiekpmaa
open Go.RowKit Wv

set_option maxHeartbeats 1000000 in
theorem counts_walk (s : ByteArray) (fuel : Int) (w : World) (hm : s.size ≤ maxLen) :
    Calls Try.prog 11 #[.string s, .int .i64 fuel] w fun e w' => e = .returned (.bool true) ∧ w.grownBy w' none := by
  have HA : Hid _ := fun W => clsC_any s fuel W hm
  have HB : Hid _ := fun W => rcls_any s fuel W hm
  unfold ClsV at HA HB
  go_enter Try.func11, Try.ntmps11
  go_wp2_with (first | (go_at_call 32; go_must (refine Calls.mono (HA.out _) ?_; rintro e1 w1 ⟨rfl, hg1⟩)) | (go_at_call 33; go_must (refine Calls.mono (HB.out _) ?_; rintro e2 w2 ⟨rfl, hg2⟩)) | (go_at_call 16; go_must (refine Calls.mono (num_any _ _) ?_; rintro e3 w3 ⟨rfl, rfl⟩)))
  go_ret
  exact ⟨rfl, grownBy_trans hg1 hg2⟩
end Go.Proofs.Ytimgindeiekpmaa

set_option linter.unusedVariables false
namespace Go.Proofs.Ytimgindeiekpmaa
open Go.ChangeShapes Go.WideShapes Go.ChangeAt Go.RowKit
open Go.ChangeMaps (open_string shut_string)

theorem counts_own : ownKnob Try.prog.godebug = none := by kernel_rfl

theorem below_of_grown {w w' : World} (h : w.grownBy w' none) : Below w.heap.size w w' := ⟨h.os, h.tape, h.output, h.size, fun k hk => h.block k hk (by simp)⟩

set_option maxRecDepth 100000 in
theorem counts_lifted (os : Os) (started : os.Started) (H : Type) (enc : TypeId × Value → H) :
    ReturnsInHanded {} Try.checked os 11 .any (Rows.countsSpec.pre6 enc Try.prog Try.f11 Rows.countsRow.domain false) (Rows.countsSpec.post enc Try.prog Try.f11 false true false false) := by
  refine returnsInHanded_of_change (C := Try.checked) counts_own started (by kernel_rfl) Try.func11
    (ChangeSpec.witness6 (enc := enc) (C := Try.checked) false ⟨#[], #[.string ByteArray.empty, .int .i64 0], []⟩ 8 (by kernel_rfl) (by kernel_rfl) (by kernel_rfl) (by kernel_rfl)) ?_
  intro W base args ds gs before hval0 hW hcnd _
  have hval : ∀ (j : Nat) t v, Try.f11.params[j]? = some t → args[j]? = some v → Value.okWide Try.prog W .any base t v := hval0
  have hW' := hW
  obtain ⟨p, q, hA0, hV, rfl, hfz, hnd⟩ := hW
  have hA : DataW.TrodAll enc Try.prog W 0 (fun _ => true) true Try.f11.params.toList args.toList ds p := hA0
  rw [Try.params11] at hA hval
  obtain ⟨v0, vs0, d0, ds0, p0, q0, hargs, rfl, rfl, h0, r0⟩ := trodAll_cons hA
  obtain ⟨v1, vs1, d1, ds1, p1, q1, hargs1, rfl, rfl, h1, r1⟩ := trodAll_cons r0
  obtain ⟨rfl, rfl, rfl⟩ := trodAll_nil r1
  subst hargs1
  obtain rfl : args = #[v0, v1] := by cases args; simp_all
  obtain ⟨rfl, rfl⟩ := trodVars_none hV
  obtain ⟨a0, rfl, rfl, rfl, w0⟩ := open_string Try.underlying9 (hval 0 9 v0 rfl rfl) h0
  obtain ⟨a1, rfl, rfl, rfl, w1⟩ := open_int Try.underlying3 (hval 1 3 v1 rfl rfl) h1
  clear hA0 hval0
  simp only [List.append_nil] at hW'
  refine (counts_walk a0 a1 W w0).mono fun e W' ⟨he, hg⟩ => ?_
  subst he
  exact ⟨_, rfl, _, _, _, [], [], [], hW', trodAll_cons_mk (shut_bool Try.underlying4 _) trodAll_mk0, trodAll_cons_mk (shut_string Try.underlying9 w0) (trodAll_cons_mk (shut_int Try.underlying3 w1) trodAll_mk0), rfl, (below_of_grown hg).frame _, fun h => by cases h⟩

theorem counts_over : Rows.countsRow.holds Try.pinned (OpenSpec.ofChange Rows.countsSpec) :=
  OpenClaim.holds_of_wide 11 Try.f11 rfl rfl rfl rfl rfl rfl rfl ⟨rfl, rfl, rfl, rfl, rfl⟩ rfl rfl rfl rfl rfl (by kernel_rfl) Try.func11 (by kernel_rfl)
    (of_decide_eq_true (by kernel_rfl)) (by unfold Func.isWrapper; first | (rw [if_pos (by decide +kernel)]; kernel_rfl) | (rw [if_neg (by decide +kernel)]; exact ⟨rfl, rfl⟩))
    (fun os started H enc _ => counts_lifted os started H enc)

theorem counts_holds : Rows.CountsSaid := counts_over
#print axioms counts_holds
end Go.Proofs.Ytimgindeiekpmaa

