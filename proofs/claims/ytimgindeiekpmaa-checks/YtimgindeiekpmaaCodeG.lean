import Derived.Test.YtimgindeiekpmaaCodeD
import Derived.Test.YtimgindeiekpmaaCodeE
import Derived.Test.YtimgindeiekpmaaCodeF
set_option linter.unusedSimpArgs false
set_option linter.unusedVariables false
namespace Go.Proofs.Ytimgindeiekpmaa
open Go.RowKit Wv

/-- A program that was read: its threads and the table of what steps do. -/
structure Machine (w : World) (base : Nat) (s : ByteArray) (L : List (List Nat)) (tv : Value) (vs : List Value) (mb : Nat) : Prop where
  rd : Wv.rd s 2 0 [] = .ok L
  own : OwnT w base 114 143 7 (ccells s) w.heap.size tv vs L
  deeds : w.heap[mb]? = some (.map deedEntries 10)

def ReadPost (w : World) (s : ByteArray) (e : Ending) (w' : World) : Prop :=
  w.grownBy w' none ∧ (((chk s).1 ≠ 0 ∧ e = .panicked (refusal (chk s).1 ((chk s).2 : Int))) ∨
    ((chk s).1 = 0 ∧ ∃ L tv vs mb, e = .returned (.agg #[tv, .map (some mb)]) ∧ Machine w' (w.heap.size + 2) s L tv vs mb))

theorem rd_start (w : World) (o : Obj) (s : ByteArray) : RdAt ((w.alloc o).alloc (.cells #[.string s, .int .i64 0] 111)) (w.heap.size + 1) s 0 := by
  have h := heap_alloc_new (w.alloc o) (.cells #[.string s, .int .i64 0] 111)
  have hs : (w.alloc o).heap.size = w.heap.size + 1 := by simp
  rw [hs] at h
  exact ⟨h⟩
theorem grow_two {w w2 : World} {o o' : Obj} {b : Nat} (hg : ((w.alloc o).alloc o').grownBy w2 (some (w.heap.size + b))) : w.grownBy w2 none :=
  grownBy_new (grownBy_trans (World.grownBy_alloc w o none) (World.grownBy_alloc _ o' none)) hg (fun r e => by simp at e; omega)

theorem chk_long {s : ByteArray} (h : 150 < s.size) : chk s = (1, 0) := by simp [chk, h]
theorem chk_text {s : ByteArray} {p : Nat} (h : ¬ 150 < s.size) (hr : rd s 2 0 [] = .error p) : chk s = (2, p) := by simp [chk, h, hr]
theorem chk_jump {s : ByteArray} {p : Nat} {L : List (List Nat)} (h : ¬ 150 < s.size) (hr : rd s 2 0 [] = .ok L) (hj : jumps s L = some p) : chk s = (3, p) := by simp [chk, h, hr, hj]
theorem chk_ok {s : ByteArray} {L : List (List Nat)} (h : ¬ 150 < s.size) (hr : rd s 2 0 [] = .ok L) (hj : jumps s L = none) : chk s = (0, 0) := by simp [chk, h, hr, hj]

set_option maxHeartbeats 400000 in
theorem read_long (s : ByteArray) (w : World) (h : 150 < s.size) (hm : s.size ≤ maxLen) : Calls Try.prog 38 #[.string s] w (ReadPost w s) := by
  unfold maxLen at hm
  have HC : Hid _ := chk_long h
  go_enter Try.func38, Try.ntmps38
  go_wp2
  refine ⟨rfl, World.grownBy_alloc _ _ _, .inl ?_⟩
  rw [HC.out]
  exact ⟨by decide, rfl⟩

set_option maxHeartbeats 400000 in
theorem read_text (s : ByteArray) (p : Nat) (w : World) (h : ¬ 150 < s.size) (hr : rd s 2 0 [] = .error p) : Calls Try.prog 38 #[.string s] w (ReadPost w s) := by
  have HC : Hid _ := chk_text h hr
  have hrt : ∀ (w1 : World) (b : Nat), RdAt w1 b s 0 → Calls Try.prog 58 #[.pointer (some ⟨b, 0, none⟩)] w1 (fun e w' => e = .panicked (refusal 2 (p : Int)) ∧ w1.grownBy w' (some b)) :=
    fun w1 b hb => (readThreads_any s b w1 hb (by omega)).mono fun e w' h => by rw [hr] at h; exact ⟨h.2, h.1⟩
  have HRT : Hid _ := hrt
  clear hrt hr
  go_enter Try.func38, Try.ntmps38
  go_wp2_with (go_at_call 58; go_must (refine Calls.mono (HRT.out _ _ (rd_start w _ s)) ?_; rintro e w2 ⟨rfl, hg⟩))
  refine ⟨rfl, grow_two hg, .inl ?_⟩
  rw [HC.out]
  exact ⟨by simp, rfl⟩

/-- The worlds in which the loop over the threads goes on. -/
structure LoopAt (w w2 wr : World) (s : ByteArray) (L : List (List Nat)) (ao : Option Addr) (cap : Nat) (vs : List Value) : Prop where
  grow : w.grownBy wr none
  own : OwnT wr (w.heap.size + 2) 114 143 7 (ccells s) w2.heap.size (.slice ao L.length cap) vs L
  map : wr.heap[w2.heap.size]? = some (.map deedEntries 10)
  mach : wr.heap[w2.heap.size + 1]? = some (.cells #[.slice ao L.length cap, .map (some w2.heap.size)] 77 (0, 0))
  res : wr.heap[w.heap.size]? = some (.cells #[.slice none 0 0, .map none] 77 (0, 0))
  sz : w.heap.size + 2 ≤ w2.heap.size

theorem LoopAt.start {w w2 : World} {s : ByteArray} {L : List (List Nat)} {ao : Option Addr} {cap : Nat} {vs : List Value} {o' : Obj}
    (hg : ((w.alloc (.cells #[.slice none 0 0, .map none] 77)).alloc o').grownBy w2 (some (w.heap.size + 1)))
    (ho : OwnT w2 ((w.alloc (.cells #[.slice none 0 0, .map none] 77)).alloc o').heap.size 114 143 7 (ccells s) w2.heap.size (.slice ao L.length cap) vs L) :
    LoopAt w w2 ((w2.alloc (.map deedEntries 10)).alloc (.cells #[.slice ao L.length cap, .map (some w2.heap.size)] 77)) s L ao cap vs := by
  have hsz : ((w.alloc (.cells #[.slice none 0 0, .map none] 77)).alloc o').heap.size = w.heap.size + 2 := by simp
  have hs2 := hg.size
  rw [hsz] at hs2 ho
  have hm : (w2.alloc (.map deedEntries 10)).heap.size = w2.heap.size + 1 := by simp
  refine ⟨grownBy_trans (grownBy_trans (grow_two hg) (World.grownBy_alloc _ _ _)) (World.grownBy_alloc _ _ _), ?_, ?_, ?_, ?_, hs2⟩
  · exact ho.kept (grownBy_trans (World.grownBy_alloc _ _ none) (World.grownBy_alloc _ _ none)) (by cases Value.ownBlock (.slice ao L.length cap) <;> simp) (by simp)
  · rw [heap_alloc_old _ _ (by rw [hm]; omega)]; exact heap_alloc_new w2 _
  · rw [← hm]; exact heap_alloc_new _ _
  · rw [heap_alloc_old _ _ (by rw [hm]; omega), heap_alloc_old _ _ (by omega), hg.block _ (by rw [hsz]; omega) (by simp), heap_alloc_old _ _ (by simp)]
    exact heap_alloc_new w _
theorem LoopAt.go {w w2 wr wr' : World} {s : ByteArray} {L : List (List Nat)} {ao : Option Addr} {cap : Nat} {vs : List Value} (h : LoopAt w w2 wr s L ao cap vs) (hg : wr.grownBy wr' none) : LoopAt w w2 wr' s L ao cap vs :=
  ⟨grownBy_trans h.grow hg, h.own.kept hg (by cases Value.ownBlock (.slice ao L.length cap) <;> simp) (by simp), (hg.block _ (lt_of_block h.map) (by simp)).trans h.map, (hg.block _ (lt_of_block h.mach) (by simp)).trans h.mach,
    (hg.block _ (lt_of_block h.res) (by simp)).trans h.res, h.sz⟩
theorem blk2 {w : World} {b : Nat} {v0 v1 : Value} {t : TypeId} (h : w.heap[b]? = some (.cells #[v0, v1] t (0, 0))) :
    w.cell? ⟨b, 0, none⟩ = some v0 ∧ w.cell? ⟨b, 1, none⟩ = some v1 ∧ ∀ o, w.frozen? ⟨b, o, none⟩ = false := by
  refine ⟨?_, ?_, fun o => ?_⟩ <;> simp [World.cell?, World.frozen?, h]
/-- Thread k's row, and where it lies. -/
theorem LoopAt.thread {w w2 wr : World} {s : ByteArray} {L : List (List Nat)} {ao : Option Addr} {cap : Nat} {vs : List Value} (h : LoopAt w w2 wr s L ao cap vs) (k : Nat) (hk : k < L.length) :
    ∃ g v, ao = some ⟨g, 0, none⟩ ∧ wr.cell? ⟨g, k, none⟩ = some v ∧ wr.ownsRow (w.heap.size + 2) 143 7 v L[k].length (L[k].flatMap (ccells s)) := by
  obtain ⟨v, hv, hi⟩ := h.own.inn k L[k] (List.getElem?_eq_getElem hk)
  rcases h.own.out.2 with ⟨_, h0⟩ | ⟨g, cp, cur, hvv, _⟩
  · omega
  · simp at hvv
    refine ⟨g, v, hvv.1, ?_, hi.own⟩
    have h1 := h.own.out.cells (g := g) (by rw [hvv.1]; rfl) k v hv
    have hadd : (⟨g, 0, none⟩ : Addr).add k = ⟨g, k, none⟩ := by unfold Addr.add; split <;> simp_all
    rw [hadd] at h1
    exact h1
theorem LoopAt.done {w w2 wr : World} {s : ByteArray} {L : List (List Nat)} {ao : Option Addr} {cap : Nat} {vs : List Value} (h : LoopAt w w2 wr s L ao cap vs) (hr : Wv.rd s 2 0 [] = .ok L) (u v : Value) :
    w.grownBy ((wr.setCell ⟨w.heap.size, 0, none⟩ u).setCell ⟨w.heap.size, 1, none⟩ v) none ∧
    Machine ((wr.setCell ⟨w.heap.size, 0, none⟩ u).setCell ⟨w.heap.size, 1, none⟩ v) (w.heap.size + 2) s L (.slice ao L.length cap) vs w2.heap.size := by
  have hg : wr.grownBy ((wr.setCell ⟨w.heap.size, 0, none⟩ u).setCell ⟨w.heap.size, 1, none⟩ v) (some w.heap.size) := grownBy_trans (grownBy_setCell _ _ _ _) (grownBy_setCell _ _ _ _)
  have hsz := h.sz
  have hlt := lt_of_block h.map
  refine ⟨grownBy_new h.grow hg (fun r e => by simp at e; omega), hr, ?_, ?_⟩
  · refine (h.own.kept hg ?_ (fun r e => by simp at e; omega)).mono (by have := hg.size; omega)
    cases hv : Value.ownBlock (.slice ao L.length cap) with
    | none => exact .inl rfl
    | some g => have := h.own.out.lt g hv; exact .inr (by simp; omega)
  · rw [hg.block _ hlt (by simp; omega)]; exact h.map
theorem jumps_hit {s : ByteArray} {k p : Nat} {L : List (List Nat)} (hk : k < L.length) (h : jump1 s L[k].length L[k] = some p) : jumps s (L.drop k) = some p := by
  rw [List.drop_eq_getElem_cons hk, jumps, h]
theorem jumps_miss {s : ByteArray} {k : Nat} {L : List (List Nat)} (hk : k < L.length) (h : jump1 s L[k].length L[k] = none) : jumps s (L.drop k) = jumps s (L.drop (k + 1)) := by
  rw [List.drop_eq_getElem_cons hk, jumps, h]

set_option maxHeartbeats 1000000 in
set_option maxRecDepth 100000 in
theorem read_rest (s : ByteArray) (L : List (List Nat)) (w : World) (h : ¬ 150 < s.size) (hr : rd s 2 0 [] = .ok L) : Calls Try.prog 38 #[.string s] w (ReadPost w s) := by
  have hrt : ∀ (w1 : World) (b : Nat), RdAt w1 b s 0 → Calls Try.prog 58 #[.pointer (some ⟨b, 0, none⟩)] w1 (fun e w' => ∃ tv vs, e = .returned tv ∧ OwnT w' w1.heap.size 114 143 7 (ccells s) w'.heap.size tv vs L ∧ w1.grownBy w' (some b)) :=
    fun w1 b hb => (readThreads_any s b w1 hb (by omega)).mono fun e w' h => by
      rw [hr] at h
      obtain ⟨h1, tv, vs, h2, h3⟩ := h
      exact ⟨tv, vs, h2, h3, h1⟩
  have hg := rd_good hr (by simp)
  have HG : Hid _ := hg.1
  have hL3 : L.length ≤ 3 := by simpa using hg.2
  have HRT : Hid _ := hrt
  have HR : Hid _ := hr
  clear hrt hr hg
  go_enter Try.func38, Try.ntmps38
  go_wp2_with (first | (go_at_call 58; go_must (refine Calls.mono (HRT.out _ _ (rd_start w _ s)) ?_; rintro e w2 ⟨tv, vs, rfl, hown, hg⟩; have HO : Hid _ := hown; have HGR : Hid _ := hg; obtain ⟨ao, cap, hv⟩ := ownsRow_slice hown.out; clear hown hg; subst hv)) | (go_at_call 59; go_must (refine Calls.mono (deeds_any _) ?_; rintro e w3 ⟨rfl, rfl⟩)))
  have hst := LoopAt.start HGR.out HO.out
  have HH : Hid _ := h
  clear HO HGR h HRT
  go_loopw [20] (fun i wr => ∃ k : Nat, k ≤ L.length ∧ i = .int .i64 k ∧ LoopAt w w2 wr s L ao cap vs ∧ Hid (jumps s (L.drop k) = jumps s L)) (fun i _ => L.length - (intOf i).toNat)
  case atStart => exact ⟨0, Nat.zero_le _, rfl, hst, rfl⟩
  case round =>
    obtain ⟨k, hk, rfl, hat, hj⟩ := hrel
    clear hst
    by_cases hlt : k < L.length
    · obtain ⟨g, v, hao, hcell, hrow⟩ := hat.thread k hlt
      subst hao
      have hgk := HG.out L[k] (List.getElem_mem hlt)
      have hcj := checkJumps_any s _ v L[k] wr hrow hgk.2 hgk.1
      have HAT : Hid _ := hat
      clear hgk hrow hat
      cases hjj : jump1 s L[k].length L[k] with
      | some p =>
        have HC : Hid _ := chk_jump HH.out HR.out (by rw [← hj.out]; exact jumps_hit hlt hjj)
        have HCJ : Hid (Calls Try.prog 60 #[v] wr fun e w' => e = .panicked (refusal 3 (p : Int)) ∧ wr.grownBy w' none) := hcj.mono fun e w' h => by unfold JumpPost at h; rw [hjj] at h; exact h
        clear hcj hj hjj
        go_wp2_with (go_at_call 60; go_must (refine Calls.mono HCJ.out ?_; rintro e w4 ⟨rfl, hg⟩))
        refine ⟨rfl, grownBy_trans HAT.out.grow hg, .inl ?_⟩
        rw [HC.out]
        exact ⟨by simp, rfl⟩
      | none =>
        have HJ : Hid (jumps s (L.drop (k + 1)) = jumps s L) := by rw [← hj.out]; exact (jumps_miss hlt hjj).symm
        have HCJ : Hid (Calls Try.prog 60 #[v] wr fun e w' => e = .returned (.tuple #[]) ∧ wr.grownBy w' none) := hcj.mono fun e w' h => by unfold JumpPost at h; rw [hjj] at h; exact h
        clear hcj hj hjj
        go_wp2_with (go_at_call 60; go_must (refine Calls.mono HCJ.out ?_; rintro e w4 ⟨rfl, hg⟩))
        go_roundw
        case rel => exact ⟨k + 1, by omega, by go_num, HAT.out.go hg, HJ⟩
        case measure => simp [intOf]; omega
    · obtain ⟨m0, m1, mf⟩ := blk2 hat.mach
      obtain ⟨n0, n1, nf⟩ := blk2 hat.res
      have HAT : Hid _ := hat
      have hne : w2.heap.size + 1 ≠ w.heap.size := by have := hat.sz; omega
      have HC : Hid _ := chk_ok HH.out HR.out (by rw [← hj.out, List.drop_of_length_le (by omega)]; rfl)
      clear hat hj
      go_wp2_with fail
      have hd := HAT.out.done HR.out (.slice ao L.length cap) (.map (some w2.heap.size))
      refine bodyPost_ret (v := .agg #[.slice ao L.length cap, .map (some w2.heap.size)]) ?_ rfl ⟨hd.1, .inr ⟨by rw [HC.out], L, _, vs, _, rfl, hd.2⟩⟩
      simp [results, Try.results38, go_sem, n0, n1]

theorem read_any (s : ByteArray) (w : World) (hm : s.size ≤ maxLen) : Calls Try.prog 38 #[.string s] w (ReadPost w s) := by
  by_cases h : 150 < s.size
  · exact read_long s w h hm
  · cases hr : Wv.rd s 2 0 [] with
    | error p => exact read_text s p w h hr
    | ok L => exact read_rest s L w h hr

end Go.Proofs.Ytimgindeiekpmaa
