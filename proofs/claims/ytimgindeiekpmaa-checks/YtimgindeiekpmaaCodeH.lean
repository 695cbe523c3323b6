import Derived.Test.YtimgindeiekpmaaCodeG
import Derived.Recover
import Derived.Defers
set_option linter.unusedSimpArgs false
set_option linter.unusedVariables false
namespace Go.Proofs.Ytimgindeiekpmaa
open Go.RowKit Wv

set_option maxHeartbeats 400000 in
theorem refused_nil (w : World) : Calls Try.prog 37 #[.nilIface] w fun e w' => e = .returned (.tuple #[.int .i64 0, .int .i64 0]) ∧ w' = w := by
  go_enter Try.func37, Try.ntmps37
  go_wp2
  go_ret2
  exact ⟨rfl, rfl⟩

theorem run_ta (v : Value) (w : World) : (Instr.typeAssert (.iface 108 v) 20 108 true).run Try.prog w = .ok (.tuple #[v, .bool true]) w := by
  simp [Instr.typeAssert, run_underlying Try.underlying108]

set_option maxHeartbeats 400000 in
set_option maxRecDepth 100000 in
theorem refused_some (a b : Int) (w : World) : Calls Try.prog 37 #[.iface 108 (.agg #[.int .i64 a, .int .i64 b])] w fun e w' => e = .returned (.tuple #[.int .i64 a, .int .i64 b]) ∧ w.grownBy w' none := by
  have hta := run_ta
  go_enter Try.func37, Try.ntmps37
  go_wp2
  go_quiet (fail)
  go_wp2
  go_ret2
  exact ⟨rfl, grownBy_trans (World.grownBy_alloc w _ none) (grownBy_drewN _ nq _)⟩

/-- A block of one cell. -/
structure One (w : World) (b t : Nat) (v : Value) : Prop where
  blk : w.heap[b]? = some (.cells #[v] t (0, 0))
theorem One.kept {w w' : World} {b t : Nat} {v : Value} {r : Option Nat} (h : One w b t v) (hg : w.grownBy w' r) (hne : some b ≠ r) : One w' b t v := ⟨(hg.block b (lt_of_block h.blk) hne).trans h.blk⟩

set_option maxRecDepth 100000 in
theorem catch_panicking (p q : Nat) (t1 t2 : Nat) (v1 v2 : Value) (a b : Int) (older : List PanicEntry) (w : World) (h1 : One w p t1 v1) (h2 : One w q t2 v2) (hne : p ≠ q) :
    CallsD Try.prog 36 #[.pointer (some ⟨p, 0, none⟩), .pointer (some ⟨q, 0, none⟩)] (.panicking ({ v := .iface 108 (.agg #[.int .i64 a, .int .i64 b]), recovered := false } :: older)) w fun e u' w' =>
      e = .returned (.tuple #[]) ∧ u' = .panicking ({ v := .iface 108 (.agg #[.int .i64 a, .int .i64 b]), recovered := true } :: older) ∧
      ∃ w1, w.grownBy w1 none ∧ w' = (w1.setCell ⟨p, 0, none⟩ (.int .i64 a)).setCell ⟨q, 0, none⟩ (.int .i64 b) := by
  refine callsD_of_wpS Try.func36 rfl fun c₀ cs hu => ?_
  apply wpS_region
  simp [wpOpsS, go_sem, recoverD, hu, Try.ntmps36, Exit.thenS]
  refine Calls.mono (refused_some a b w) ?_
  rintro e w1 ⟨rfl, hg⟩
  have k1 := cell_of_one (h1.kept hg (by simp)).blk
  have k2 := cell_of_one (h2.kept hg (by simp)).blk
  have z1 := free_of_one (h1.kept hg (by simp)).blk
  have z2 := free_of_one (h2.kept hg (by simp)).blk
  simp [wpOpsS, go_sem, k1, k2, z1, z2, hne, hne.symm, bodyPostS, results, Try.results36]
  exact ⟨w1, hg, rfl⟩

set_option maxRecDepth 100000 in
theorem catch_idle (p q : Nat) (t1 t2 : Nat) (v1 v2 : Value) (w : World) (h1 : One w p t1 v1) (h2 : One w q t2 v2) (hne : p ≠ q) :
    CallsD Try.prog 36 #[.pointer (some ⟨p, 0, none⟩), .pointer (some ⟨q, 0, none⟩)] .returning w fun e u' w' =>
      e = .returned (.tuple #[]) ∧ u' = .returning ∧ w' = (w.setCell ⟨p, 0, none⟩ (.int .i64 0)).setCell ⟨q, 0, none⟩ (.int .i64 0) := by
  have k1 := cell_of_one h1.blk
  have k2 := cell_of_one h2.blk
  have z1 := free_of_one h1.blk
  have z2 := free_of_one h2.blk
  refine callsD_of_wpS Try.func36 rfl fun c₀ cs hu => ?_
  apply wpS_region
  simp [wpOpsS, go_sem, recoverD, hu, Try.ntmps36, Exit.thenS]
  refine Calls.mono (refused_nil w) ?_
  rintro e w1 ⟨rfl, rfl⟩
  cases c₀
  simp_all [wpOpsS, go_sem, hne, hne.symm, bodyPostS, results, Try.results36]

theorem two_ones {w w1 : World} {v1 v2 : Value} {t1 t2 : Nat} (hg : ((w.alloc (.cells #[v1] t1)).alloc (.cells #[v2] t2)).grownBy w1 none) : One w1 w.heap.size t1 v1 ∧ One w1 (w.heap.size + 1) t2 v2 ∧ w.grownBy w1 none := by
  have hs : (w.alloc (.cells #[v1] t1)).heap.size = w.heap.size + 1 := by simp
  refine ⟨⟨?_⟩, ⟨?_⟩, grownBy_trans (grownBy_trans (World.grownBy_alloc _ _ _) (World.grownBy_alloc _ _ _)) hg⟩
  · rw [hg.block _ (by simp; omega) (by simp), heap_alloc_old _ _ (by omega)]; exact heap_alloc_new _ _
  · rw [hg.block _ (by simp) (by simp), ← hs]; exact heap_alloc_new _ _

set_option maxHeartbeats 1000000 in
set_option maxRecDepth 100000 in
theorem check_any (s : ByteArray) (w : World) (hm : s.size ≤ maxLen) :
    Calls Try.prog 14 #[.string s] w fun e w' => e = .returned (.tuple #[.int .i64 (chk s).1, .int .i64 ((chk s).2 : Int)]) ∧ w.grownBy w' none := by
  have hmf : ∀ (fn : Fn) (first cap : Array Value) (w : World), (Instr.makeFunc fn first cap).run Try.prog w = .ok (.func fn first cap) w := fun _ _ _ _ => rfl
  have HRD : Hid _ := fun W => read_any s W hm
  clear hm
  go_enter_defers Try.func14, Try.ntmps14
  go_wp2_with fail
  refine Calls.mono (HRD.out _) ?_
  rintro e w1 ⟨hg, hpost⟩
  obtain ⟨o1, o2, hgw⟩ := two_ones hg
  clear hg
  have hN : w.heap.size ≠ w.heap.size + 1 := by omega
  rcases hpost with ⟨hne, rfl⟩ | ⟨heq, L, tv, vs, mb, rfl, hM⟩
  · refine leaves_cons (f := 36) (args := #[.pointer (some ⟨w.heap.size, 0, none⟩), .pointer (some ⟨w.heap.size + 1, 0, none⟩)]) (by simp) (by simp [go_sem]) ?_
    refine CallsD.mono (catch_panicking _ _ _ _ _ _ (chk s).1 ((chk s).2 : Int) [] w1 o1 o2 hN) ?_
    rintro e u' w'' ⟨rfl, rfl, w2, hg2, rfl⟩
    have k1 := cell_of_one (o1.kept hg2 (by simp)).blk
    have k2 := cell_of_one (o2.kept hg2 (by simp)).blk
    simp [Leaves, settle, results, Try.results14, go_sem, k1, k2]
    exact grownBy_set_new (grownBy_set_new (grownBy_trans hgw hg2) (Nat.le_refl _) _ _) (Nat.le_succ _) _ _
  · have k1 := cell_of_one o1.blk
    have k2 := cell_of_one o2.blk
    have z1 := free_of_one o1.blk
    have z2 := free_of_one o2.blk
    have H1 : Hid _ := o1
    have H2 : Hid _ := o2
    clear o1 o2 hM
    have hc : chk s = (0, 0) := by
      revert heq; unfold chk; split
      · simp
      · split
        · simp
        · split <;> simp
    have HC : Hid _ := hc
    clear hc heq
    go_wp2_with fail
    have p1 : One ((w1.setCell ⟨w.heap.size, 0, none⟩ (.int .i64 0)).setCell ⟨w.heap.size + 1, 0, none⟩ (.int .i64 0)) w.heap.size 22 (.int .i64 0) :=
      One.kept ⟨one_setCell H1.out.blk⟩ (grownBy_setCell _ _ _ _) (by simp)
    have p2 : One ((w1.setCell ⟨w.heap.size, 0, none⟩ (.int .i64 0)).setCell ⟨w.heap.size + 1, 0, none⟩ (.int .i64 0)) (w.heap.size + 1) 3 (.int .i64 0) :=
      ⟨one_setCell (One.kept H2.out (grownBy_setCell _ w.heap.size 0 (.int .i64 0)) (by simp)).blk⟩
    refine leaves_cons (f := 36) (args := #[.pointer (some ⟨w.heap.size, 0, none⟩), .pointer (some ⟨w.heap.size + 1, 0, none⟩)]) (by simp) (by simp [go_sem]) ?_
    refine CallsD.mono (catch_idle _ _ _ _ _ _ _ p1 p2 hN) ?_
    rintro e u' w'' ⟨rfl, rfl, rfl⟩
    rw [HC.out]
    have j1 := cell_of_one p1.blk
    have j2 := cell_of_one p2.blk
    have hge := Nat.le_refl w.heap.size
    have hge1 := Nat.le_succ w.heap.size
    have hgf := grownBy_set_new (grownBy_set_new (grownBy_set_new (grownBy_set_new hgw hge 0 (.int .i64 0)) hge1 0 (.int .i64 0)) hge 0 (.int .i64 0)) hge1 0 (.int .i64 0)
    simp [Leaves, settle, results, Try.results14, go_sem, j1, j2]
    exact hgf

end Go.Proofs.Ytimgindeiekpmaa
