import Derived.Test.YtimgindeiekpmaaCodeA
import Derived.Test.YtimgindeiekpmaaJump
set_option linter.unusedSimpArgs false
set_option linter.unusedVariables false
namespace Go.Proofs.Ytimgindeiekpmaa
open Go.RowKit Wv

theorem blk7 {w : World} {b : Nat} {v0 v1 v2 v3 v4 v5 v6 : Value} {t : TypeId} (h : w.heap[b]? = some (.cells #[v0, v1, v2, v3, v4, v5, v6] t (0, 0))) :
    w.cell? ⟨b, 0, none⟩ = some v0 ∧ w.cell? ⟨b, 1, none⟩ = some v1 ∧ w.cell? ⟨b, 2, none⟩ = some v2 ∧ w.cell? ⟨b, 3, none⟩ = some v3 ∧ w.cell? ⟨b, 4, none⟩ = some v4 ∧
    w.cell? ⟨b, 5, none⟩ = some v5 ∧ w.cell? ⟨b, 6, none⟩ = some v6 ∧ ∀ o, w.frozen? ⟨b, o, none⟩ = false := by
  refine ⟨?_, ?_, ?_, ?_, ?_, ?_, ?_, fun o => ?_⟩ <;> simp [World.cell?, World.frozen?, h]

/-- In mid-step: the reader, the result's block (still zero), the step's own block. -/
structure St (w w1 : World) (b : Nat) (s : ByteArray) (i : Nat) (cs : Array Value) : Prop where
  old : b < w.heap.size
  rd : RdAt w1 b s i
  grow : w.grownBy w1 (some b)
  res : w1.heap[w.heap.size]? = some (.cells #[.int .u8 0, .int .u8 0, .int .u8 0, .int .u8 0, .int .u8 0, .int .u8 0, .int .i64 0] 143 (0, 0))
  st : w1.heap[w.heap.size + 1]? = some (.cells cs 143 (0, 0))

theorem grownBy_alloc_of {w w1 : World} {r : Option Nat} (h : w.grownBy w1 r) (o : Obj) : w.grownBy (w1.alloc o) r := grownBy_trans h (World.grownBy_alloc w1 o r)
theorem grownBy_set_new {w w1 : World} {r : Option Nat} (h : w.grownBy w1 r) {g : Nat} (hg : w.heap.size ≤ g) (o : Nat) (v : Value) : w.grownBy (w1.setCell ⟨g, o, none⟩ v) r := by
  refine ⟨h.os, h.tape, h.output, by simpa [World.setCell] using h.size, fun k hk hr => ?_⟩
  have hne : g ≠ k := by omega
  rw [← h.block k hk hr]
  simp [World.setCell, Array.getElem?_modify, hne]

theorem heap_setCell_same {w : World} {g : Nat} {cs : Array Value} {t : TypeId} (h : w.heap[g]? = some (.cells cs t (0, 0))) (k : Nat) (v : Value) :
    (w.setCell ⟨g, k, none⟩ v).heap[g]? = some (.cells (cs.setIfInBounds k v) t (0, 0)) := by
  simp [World.setCell, Array.getElem?_modify, h]
theorem heap_setCell_ne {w : World} {g j : Nat} (h : g ≠ j) (k : Nat) (v : Value) : (w.setCell ⟨g, k, none⟩ v).heap[j]? = w.heap[j]? := by
  simp [World.setCell, Array.getElem?_modify, h]

theorem St.call {w w1 w2 : World} {b : Nat} {s : ByteArray} {i j : Nat} {cs : Array Value} (h : St w w1 b s i cs) (hr : RdAt w2 b s j) (hg : w1.grownBy w2 (some b)) : St w w2 b s j cs := by
  have hb := h.old
  refine ⟨h.old, hr, grownBy_trans h.grow hg, ?_, ?_⟩
  · rw [hg.block _ (lt_of_block h.res) (by simp; omega)]; exact h.res
  · rw [hg.block _ (lt_of_block h.st) (by simp; omega)]; exact h.st

theorem St.store {w w1 : World} {b : Nat} {s : ByteArray} {i : Nat} {cs : Array Value} (h : St w w1 b s i cs) (k : Nat) (v : Value) {cs' : Array Value} (hcs : cs.setIfInBounds k v = cs') :
    St w (w1.setCell ⟨w.heap.size + 1, k, none⟩ v) b s i cs' := by
  have hb := h.old
  subst hcs
  refine ⟨h.old, ⟨?_⟩, grownBy_set_new h.grow (by omega) _ _, ?_, heap_setCell_same h.st k v⟩
  · rw [heap_setCell_ne (by omega)]; exact h.rd.blk
  · rw [heap_setCell_ne (by omega)]; exact h.res

theorem St.start {w : World} {b : Nat} {s : ByteArray} {i : Nat} (h : RdAt w b s i) (n : Nat) (v : Int) (hv : v = ((i + 1 : Nat) : Int)) (cs : Array Value) :
    St w ((((w.alloc (.cells #[.int .u8 0, .int .u8 0, .int .u8 0, .int .u8 0, .int .u8 0, .int .u8 0, .int .i64 0] 143)).drewN n).setCell ⟨b, 1, none⟩ (.int .i64 v)).alloc (.cells cs 143)) b s (i + 1) cs := by
  have hlt := h.lt
  have h1 : RdAt (((w.alloc (.cells #[.int .u8 0, .int .u8 0, .int .u8 0, .int .u8 0, .int .u8 0, .int .u8 0, .int .i64 0] 143)).drewN n).setCell ⟨b, 1, none⟩ (.int .i64 v)) b s (i + 1) := ((h.alloc _).drewN n).set (i + 1) v hv
  have hsz : (((w.alloc (.cells #[.int .u8 0, .int .u8 0, .int .u8 0, .int .u8 0, .int .u8 0, .int .u8 0, .int .i64 0] 143)).drewN n).setCell ⟨b, 1, none⟩ (.int .i64 v)).heap.size = w.heap.size + 1 := by simp
  refine ⟨hlt, h1.alloc _, ?_, ?_, ?_⟩
  · exact grownBy_alloc_of (grownBy_trans (grownBy_trans (World.grownBy_alloc w _ _) (grownBy_drewN _ n _)) (grownBy_setCell _ _ _ _)) _
  · rw [heap_alloc_old _ _ (by rw [hsz]; omega), heap_setCell_ne (by omega)]
    exact heap_alloc_new w _
  · rw [← hsz]
    exact heap_alloc_new _ _

theorem sNumber_yes {w w1 : World} {b : Nat} {s : ByteArray} {i : Nat} {cs : Array Value} (h : St w w1 b s i cs) (hi1 : i ≤ s.size) (hs : s.size ≤ 150) (hlo : 97 ≤ pk s i) (hhi : pk s i ≤ 100) :
    Calls Try.prog 99 #[.pointer (some ⟨b, 0, none⟩)] w1 fun e w' => e = .returned (.int .u8 (pk s i - 97)) ∧ St w w' b s (i + 1) cs :=
  (takeNumber_yes s i b w1 h.rd hi1 hs hlo hhi).mono fun _ _ ⟨h1, h2, h3⟩ => ⟨h1, h.call h2 h3⟩
theorem sNumber_no {w w1 : World} {b : Nat} {s : ByteArray} {i : Nat} {cs : Array Value} (h : St w w1 b s i cs) (hi1 : i ≤ s.size) (hs : s.size ≤ 150) (hno : pk s i < 97 ∨ 100 < pk s i) :
    Calls Try.prog 99 #[.pointer (some ⟨b, 0, none⟩)] w1 fun e w' => e = .panicked (refusal 2 i) ∧ w.grownBy w' (some b) :=
  (takeNumber_no s i b w1 h.rd hi1 hs hno).mono fun _ _ ⟨h1, h2⟩ => ⟨h1, grownBy_trans h.grow h2⟩
theorem sCell_yes {w w1 : World} {b : Nat} {s : ByteArray} {i : Nat} {cs : Array Value} (h : St w w1 b s i cs) (hi1 : i ≤ s.size) (hs : s.size ≤ 150) (hlo : 120 ≤ pk s i) (hhi : pk s i ≤ 122) :
    Calls Try.prog 101 #[.pointer (some ⟨b, 0, none⟩)] w1 fun e w' => e = .returned (.int .u8 (pk s i - 120)) ∧ St w w' b s (i + 1) cs :=
  (takeCell_yes s i b w1 h.rd hi1 hs hlo hhi).mono fun _ _ ⟨h1, h2, h3⟩ => ⟨h1, h.call h2 h3⟩
theorem sCell_no {w w1 : World} {b : Nat} {s : ByteArray} {i : Nat} {cs : Array Value} (h : St w w1 b s i cs) (hi1 : i ≤ s.size) (hs : s.size ≤ 150) (hno : pk s i < 120 ∨ 122 < pk s i) :
    Calls Try.prog 101 #[.pointer (some ⟨b, 0, none⟩)] w1 fun e w' => e = .panicked (refusal 2 i) ∧ w.grownBy w' (some b) :=
  (takeCell_no s i b w1 h.rd hi1 hs hno).mono fun _ _ ⟨h1, h2⟩ => ⟨h1, grownBy_trans h.grow h2⟩
theorem sLock_yes {w w1 : World} {b : Nat} {s : ByteArray} {i : Nat} {cs : Array Value} (h : St w w1 b s i cs) (hi1 : i ≤ s.size) (hs : s.size ≤ 150) (hlo : 109 ≤ pk s i) (hhi : pk s i ≤ 110) :
    Calls Try.prog 102 #[.pointer (some ⟨b, 0, none⟩)] w1 fun e w' => e = .returned (.int .u8 (pk s i - 109)) ∧ St w w' b s (i + 1) cs :=
  (takeLock_yes s i b w1 h.rd hi1 hs hlo hhi).mono fun _ _ ⟨h1, h2, h3⟩ => ⟨h1, h.call h2 h3⟩
theorem sLock_no {w w1 : World} {b : Nat} {s : ByteArray} {i : Nat} {cs : Array Value} (h : St w w1 b s i cs) (hi1 : i ≤ s.size) (hs : s.size ≤ 150) (hno : pk s i < 109 ∨ 110 < pk s i) :
    Calls Try.prog 102 #[.pointer (some ⟨b, 0, none⟩)] w1 fun e w' => e = .panicked (refusal 2 i) ∧ w.grownBy w' (some b) :=
  (takeLock_no s i b w1 h.rd hi1 hs hno).mono fun _ _ ⟨h1, h2⟩ => ⟨h1, grownBy_trans h.grow h2⟩
theorem sDigit_yes {w w1 : World} {b : Nat} {s : ByteArray} {i : Nat} {cs : Array Value} (h : St w w1 b s i cs) (hi1 : i ≤ s.size) (hs : s.size ≤ 150) (hlo : 48 ≤ pk s i) (hhi : pk s i ≤ 57) :
    Calls Try.prog 100 #[.pointer (some ⟨b, 0, none⟩)] w1 fun e w' => e = .returned (.int .u8 (pk s i - 48)) ∧ St w w' b s (i + 1) cs :=
  (takeDigit_yes s i b w1 h.rd hi1 hs hlo hhi).mono fun _ _ ⟨h1, h2, h3⟩ => ⟨h1, h.call h2 h3⟩
theorem sDigit_no {w w1 : World} {b : Nat} {s : ByteArray} {i : Nat} {cs : Array Value} (h : St w w1 b s i cs) (hi1 : i ≤ s.size) (hs : s.size ≤ 150) (hno : pk s i < 48 ∨ 57 < pk s i) :
    Calls Try.prog 100 #[.pointer (some ⟨b, 0, none⟩)] w1 fun e w' => e = .panicked (refusal 2 i) ∧ w.grownBy w' (some b) :=
  (takeDigit_no s i b w1 h.rd hi1 hs hno).mono fun _ _ ⟨h1, h2⟩ => ⟨h1, grownBy_trans h.grow h2⟩

theorem St.done {w w2 : World} {b : Nat} {s : ByteArray} {j : Nat} {cs : Array Value} (h : St w w2 b s j cs) (k : Nat) (v u0 u1 u2 u3 u4 u5 u6 : Value) :
    RdAt ((((((((w2.setCell ⟨w.heap.size + 1, k, none⟩ v).setCell ⟨w.heap.size, 0, none⟩ u0).setCell ⟨w.heap.size, 1, none⟩ u1).setCell ⟨w.heap.size, 2, none⟩ u2).setCell ⟨w.heap.size, 3, none⟩ u3).setCell ⟨w.heap.size, 4, none⟩ u4).setCell ⟨w.heap.size, 5, none⟩ u5).setCell ⟨w.heap.size, 6, none⟩ u6) b s j ∧
    w.grownBy ((((((((w2.setCell ⟨w.heap.size + 1, k, none⟩ v).setCell ⟨w.heap.size, 0, none⟩ u0).setCell ⟨w.heap.size, 1, none⟩ u1).setCell ⟨w.heap.size, 2, none⟩ u2).setCell ⟨w.heap.size, 3, none⟩ u3).setCell ⟨w.heap.size, 4, none⟩ u4).setCell ⟨w.heap.size, 5, none⟩ u5).setCell ⟨w.heap.size, 6, none⟩ u6) (some b) := by
  have hb := h.old
  have hne : w.heap.size ≠ b := by omega
  have hne1 : w.heap.size + 1 ≠ b := by omega
  refine ⟨⟨?_⟩, ?_⟩
  · simp only [heap_setCell_ne hne, heap_setCell_ne hne1]
    exact h.rd.blk
  · have h0 := Nat.le_refl w.heap.size
    exact grownBy_set_new (grownBy_set_new (grownBy_set_new (grownBy_set_new (grownBy_set_new (grownBy_set_new (grownBy_set_new (grownBy_set_new h.grow (by omega) _ _) h0 _ _) h0 _ _) h0 _ _) h0 _ _) h0 _ _) h0 _ _) h0 _ _

theorem pk_some {s : ByteArray} {i : Nat} (h : 0 ≤ pk s i) : i < s.size := by
  rcases Nat.lt_or_ge i s.size with h' | h'
  · exact h'
  · rw [pk_out (by omega)] at h; omega

end Go.Proofs.Ytimgindeiekpmaa
