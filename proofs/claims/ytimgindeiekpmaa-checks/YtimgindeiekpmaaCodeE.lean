import Derived.Test.YtimgindeiekpmaaCodeA
import Derived.WideMake
set_option linter.unusedSimpArgs false
set_option linter.unusedVariables false
namespace Go.Proofs.Ytimgindeiekpmaa
open Go.RowKit Wv

/-- The table of what steps do, as deeds makes it. -/
def deedEntries : Array MapEntry := #[{ key := .int .u8 61, val := .func (.func 79) #[] #[], born := 0 }, { key := .int .u8 43, val := .func (.func 80) #[] #[], born := 1 }, { key := .int .u8 45, val := .func (.func 81) #[] #[], born := 2 }, { key := .int .u8 114, val := .func (.func 82) #[] #[], born := 3 }, { key := .int .u8 119, val := .func (.func 83) #[] #[], born := 4 }, { key := .int .u8 108, val := .func (.func 84) #[] #[], born := 5 }, { key := .int .u8 117, val := .func (.func 85) #[] #[], born := 6 }, { key := .int .u8 122, val := .func (.func 86) #[] #[], born := 7 }, { key := .int .u8 106, val := .func (.func 87) #[] #[], born := 8 }, { key := .int .u8 33, val := .func (.func 88) #[] #[], born := 9 }]

theorem set_alloc (w : World) (o o' : Obj) : ({ (w.alloc o) with heap := (w.alloc o).heap.setIfInBounds w.heap.size o' } : World) = w.alloc o' := by
  have h : (w.heap.push o).setIfInBounds w.heap.size o' = w.heap.push o' := by
    apply Array.ext
    · simp
    · intro i h1 h2
      simp at h1 h2
      by_cases hi : i = w.heap.size
      · subst hi; simp
      · have : i < w.heap.size := by omega
        rw [Array.getElem_setIfInBounds_ne (by simpa using h1) (fun e => hi e.symm)]
        rw [Array.getElem_push_lt this, Array.getElem_push_lt this]
  show ({ w with heap := (w.heap.push o).setIfInBounds w.heap.size o' } : World) = { w with heap := w.heap.push o' }
  rw [h]

theorem run_up (w : World) (es : Array MapEntry) (clock : Nat) (k : Int) (val : Value) (hf : Instr.findNow (.int .u8) (.int .u8 k) es.toList 0 = some none) :
    (Instr.mapUpdate 75 (.map (some w.heap.size)) (.int .u8 k) val).run Try.prog (w.alloc (.map es clock)) = .ok () (w.alloc (.map (es.push { key := .int .u8 k, val := val, born := clock }) (clock + 1))) := by
  have hb : (w.alloc (.map es clock)).heap[w.heap.size]? = some (.map es clock) := heap_alloc_new w _
  have hc : (Instr.checkKey false 10000 5 (.int .u8 k)).run Try.prog (w.alloc (.map es clock)) = .ok () (w.alloc (.map es clock)) := MapKept.run_checkKey (k := .int .u8 k) Try.underlying5 (by simp [MapKept.IsKey]) false 9999
  simp [Instr.mapUpdate, run_underlying Try.underlying75, MapKept.run_getObj_map hb, hc, MapKept.run_findKey Try.underlying5 hf, MapKept.run_setObj_map _ hb, Result.andThen]
  exact set_alloc w _ _

set_option maxHeartbeats 1000000 in
set_option maxRecDepth 100000 in
theorem deeds_any (w : World) : Calls Try.prog 59 #[] w fun e w' => e = .returned (.map (some w.heap.size)) ∧ w' = w.alloc (.map deedEntries 10) := by
  have hmm := @run_makeMap Try.prog
  have u0 := run_up w #[] 0 61 (.func (.func 79) #[] #[]) rfl
  have u1 := run_up w #[{ key := .int .u8 61, val := .func (.func 79) #[] #[], born := 0 }] 1 43 (.func (.func 80) #[] #[]) rfl
  have u2 := run_up w #[{ key := .int .u8 61, val := .func (.func 79) #[] #[], born := 0 }, { key := .int .u8 43, val := .func (.func 80) #[] #[], born := 1 }] 2 45 (.func (.func 81) #[] #[]) rfl
  have u3 := run_up w #[{ key := .int .u8 61, val := .func (.func 79) #[] #[], born := 0 }, { key := .int .u8 43, val := .func (.func 80) #[] #[], born := 1 }, { key := .int .u8 45, val := .func (.func 81) #[] #[], born := 2 }] 3 114 (.func (.func 82) #[] #[]) rfl
  have u4 := run_up w #[{ key := .int .u8 61, val := .func (.func 79) #[] #[], born := 0 }, { key := .int .u8 43, val := .func (.func 80) #[] #[], born := 1 }, { key := .int .u8 45, val := .func (.func 81) #[] #[], born := 2 }, { key := .int .u8 114, val := .func (.func 82) #[] #[], born := 3 }] 4 119 (.func (.func 83) #[] #[]) rfl
  have u5 := run_up w #[{ key := .int .u8 61, val := .func (.func 79) #[] #[], born := 0 }, { key := .int .u8 43, val := .func (.func 80) #[] #[], born := 1 }, { key := .int .u8 45, val := .func (.func 81) #[] #[], born := 2 }, { key := .int .u8 114, val := .func (.func 82) #[] #[], born := 3 }, { key := .int .u8 119, val := .func (.func 83) #[] #[], born := 4 }] 5 108 (.func (.func 84) #[] #[]) rfl
  have u6 := run_up w #[{ key := .int .u8 61, val := .func (.func 79) #[] #[], born := 0 }, { key := .int .u8 43, val := .func (.func 80) #[] #[], born := 1 }, { key := .int .u8 45, val := .func (.func 81) #[] #[], born := 2 }, { key := .int .u8 114, val := .func (.func 82) #[] #[], born := 3 }, { key := .int .u8 119, val := .func (.func 83) #[] #[], born := 4 }, { key := .int .u8 108, val := .func (.func 84) #[] #[], born := 5 }] 6 117 (.func (.func 85) #[] #[]) rfl
  have u7 := run_up w #[{ key := .int .u8 61, val := .func (.func 79) #[] #[], born := 0 }, { key := .int .u8 43, val := .func (.func 80) #[] #[], born := 1 }, { key := .int .u8 45, val := .func (.func 81) #[] #[], born := 2 }, { key := .int .u8 114, val := .func (.func 82) #[] #[], born := 3 }, { key := .int .u8 119, val := .func (.func 83) #[] #[], born := 4 }, { key := .int .u8 108, val := .func (.func 84) #[] #[], born := 5 }, { key := .int .u8 117, val := .func (.func 85) #[] #[], born := 6 }] 7 122 (.func (.func 86) #[] #[]) rfl
  have u8 := run_up w #[{ key := .int .u8 61, val := .func (.func 79) #[] #[], born := 0 }, { key := .int .u8 43, val := .func (.func 80) #[] #[], born := 1 }, { key := .int .u8 45, val := .func (.func 81) #[] #[], born := 2 }, { key := .int .u8 114, val := .func (.func 82) #[] #[], born := 3 }, { key := .int .u8 119, val := .func (.func 83) #[] #[], born := 4 }, { key := .int .u8 108, val := .func (.func 84) #[] #[], born := 5 }, { key := .int .u8 117, val := .func (.func 85) #[] #[], born := 6 }, { key := .int .u8 122, val := .func (.func 86) #[] #[], born := 7 }] 8 106 (.func (.func 87) #[] #[]) rfl
  have u9 := run_up w #[{ key := .int .u8 61, val := .func (.func 79) #[] #[], born := 0 }, { key := .int .u8 43, val := .func (.func 80) #[] #[], born := 1 }, { key := .int .u8 45, val := .func (.func 81) #[] #[], born := 2 }, { key := .int .u8 114, val := .func (.func 82) #[] #[], born := 3 }, { key := .int .u8 119, val := .func (.func 83) #[] #[], born := 4 }, { key := .int .u8 108, val := .func (.func 84) #[] #[], born := 5 }, { key := .int .u8 117, val := .func (.func 85) #[] #[], born := 6 }, { key := .int .u8 122, val := .func (.func 86) #[] #[], born := 7 }, { key := .int .u8 106, val := .func (.func 87) #[] #[], born := 8 }] 9 33 (.func (.func 88) #[] #[]) rfl
  simp only [List.push_toArray, List.nil_append, List.cons_append, Nat.reduceAdd, Nat.zero_add] at u0 u1 u2 u3 u4 u5 u6 u7 u8 u9
  go_enter Try.func59, Try.ntmps59
  go_wp2
  go_ret
  exact ⟨rfl, rfl⟩
end Go.Proofs.Ytimgindeiekpmaa
