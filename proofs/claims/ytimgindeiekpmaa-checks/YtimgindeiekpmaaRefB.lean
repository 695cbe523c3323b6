import Derived.Test.YtimgindeiekpmaaRefA
import Derived.Test.YtimgindeiekpmaaCodeA
import Derived.Test.YtimgindeiekpmaaSpecD
import Derived.Test.YtimgindeiekpmaaOwn
import Derived.BigRegion
import Derived.Laws.Closers25
import Derived.Deep.RegionWith
set_option linter.unusedSimpArgs false
set_option linter.unusedVariables false
namespace Go.Proofs.Ytimgindeiekpmaa
open Go.RowKit Wv

theorem blk4 {w : World} {b : Nat} {v0 v1 v2 v3 : Value} {t : TypeId} (h : w.heap[b]? = some (.cells #[v0, v1, v2, v3] t (0, 0))) :
    w.cell? ⟨b, 0, none⟩ = some v0 ∧ w.cell? ⟨b, 1, none⟩ = some v1 ∧ w.cell? ⟨b, 2, none⟩ = some v2 ∧ w.cell? ⟨b, 3, none⟩ = some v3 ∧ ∀ o, w.frozen? ⟨b, o, none⟩ = false := by
  refine ⟨?_, ?_, ?_, ?_, fun o => ?_⟩ <;> simp [World.cell?, World.frozen?, h]

theorem run_index_pk (s : ByteArray) (j : Int) (k : Nat) (hj : j = k) (hk : k < s.size) (w : World) : (Instr.index 9 (.string s) (.int .i64 j)).run Try.prog w = .ok (.int .u8 (pk s k)) w := by
  subst hj
  rw [pk_in hk]
  have h : s[k]? = some s[k] := by simp [hk]
  simp [Instr.index, asIntOf, run_underlying Try.underlying9, h]

/-- What the document's step comes to. -/
def RStepPost (s : ByteArray) (i : Nat) (w : World) (e : Ending) (w' : World) : Prop :=
  w.grownBy w' none ∧ match stepBad s i with
  | some p => ∃ x0 x1 x2 x3, e = .returned (.tuple #[.agg #[.int .u8 x0, .int .i64 x1, .int .i64 x2, .int .i64 x3], .int .i64 (p : Int), .bool false])
  | none => e = .returned (.tuple #[.agg (rcells s i).toArray, .int .i64 ((stepAt s i : Int) + 1), .bool true])

set_option maxHeartbeats 1000000 in
set_option maxRecDepth 100000 in
theorem rstep_end (s : ByteArray) (i : Nat) (w : World) (hs : s.size ≤ 150) (hi : i ≤ s.size) (h : ¬ i < s.size) :
    Calls Try.prog 66 #[.string s, .int .i64 (i : Int)] w (RStepPost s i w) := by
  have hB : stepBad s i = some i := by unfold stepBad; rw [if_pos (by rw [pk_out h]; rfl)]
  have HB : Hid _ := hB
  clear hB
  have hge : (s.size : Int) ≤ i := by omega
  go_enter Try.func66, Try.ntmps66
  go_wp2
  refine bodyPost_ret (v := .tuple #[.agg #[.int .u8 0, .int .i64 0, .int .i64 0, .int .i64 0], .int .i64 (i : Int), .bool false]) (by simp [results, Try.results66, go_sem]) rfl ⟨?_, ?_⟩
  · exact grownBy_trans (World.grownBy_alloc w _ none) (World.grownBy_alloc _ _ none)
  · rw [HB.out]; exact ⟨_, _, _, _, rfl⟩

set_option maxHeartbeats 1000000 in
set_option maxRecDepth 100000 in
theorem rstep_none (s : ByteArray) (i : Nat) (w : World) (hs : s.size ≤ 150) (h : i < s.size) (hf : frm (pk s i) = []) :
    Calls Try.prog 66 #[.string s, .int .i64 (i : Int)] w (RStepPost s i w) := by
  have hB : stepBad s i = some i := by unfold stepBad; rw [if_pos hf]
  have HB : Hid _ := hB
  clear hB
  have hfo := fun w => forms_any (pk s i) w
  rw [hf] at hfo
  rw [pk_in h] at hfo
  have HF : Hid _ := hfo
  clear hfo hf
  go_enter Try.func66, Try.ntmps66
  go_wp2_with (go_at_call 94; go_must (refine Calls.mono (HF.out _) ?_; rintro e w1 ⟨rfl, rfl⟩))
  refine bodyPost_ret (v := .tuple #[.agg #[.int .u8 ((s[i]'h).toNat : Int), .int .i64 0, .int .i64 0, .int .i64 0], .int .i64 (i : Int), .bool false]) (by simp [results, Try.results66, go_sem]) rfl ⟨?_, ?_⟩
  · exact grownBy_trans (World.grownBy_alloc w _ none) (World.grownBy_alloc _ _ none)
  · rw [HB.out]; exact ⟨_, _, _, _, rfl⟩

/-- In the loop over the forms: the result's block, the step's block. -/
structure RS (w wr : World) (c A B At : Int) : Prop where
  grow : w.grownBy wr none
  res : wr.heap[w.heap.size]? = some (.cells #[.int .u8 0, .int .i64 0, .int .i64 0, .int .i64 0] 50 (0, 0))
  x : wr.heap[w.heap.size + 1]? = some (.cells #[.int .u8 c, .int .i64 A, .int .i64 B, .int .i64 At] 50 (0, 0))
theorem RS.start (w : World) (c : Int) : RS w ((w.alloc (.cells #[.int .u8 0, .int .i64 0, .int .i64 0, .int .i64 0] 50)).alloc (.cells #[.int .u8 c, .int .i64 0, .int .i64 0, .int .i64 0] 50)) c 0 0 0 := by
  have hs : (w.alloc (.cells #[.int .u8 0, .int .i64 0, .int .i64 0, .int .i64 0] 50)).heap.size = w.heap.size + 1 := by simp
  refine ⟨grownBy_trans (World.grownBy_alloc w _ none) (World.grownBy_alloc _ _ none), ?_, ?_⟩
  · rw [heap_alloc_old _ _ (by omega)]; exact heap_alloc_new _ _
  · rw [← hs]; exact heap_alloc_new _ _

theorem grownBy_new' {w0 w w1 : World} {b : Option Nat} {row : Option Nat} (h : w0.grownBy w b) (hg : w.grownBy w1 row) (hr : ∀ r, row = some r → w0.heap.size ≤ r) : w0.grownBy w1 b := by
  refine ⟨hg.os.trans h.os, hg.tape.trans h.tape, hg.output.trans h.output, Nat.le_trans h.size hg.size, fun k hk hb => ?_⟩
  rw [hg.block k (Nat.lt_of_lt_of_le hk h.size) (fun e => by have := hr k e.symm; omega)]
  exact h.block k hk hb
theorem RS.drewN {w wr : World} {c A B At : Int} (h : RS w wr c A B At) (n : Nat) : RS w (wr.drewN n) c A B At := ⟨grownBy_trans h.grow (grownBy_drewN _ _ _), h.res, h.x⟩
theorem RS.set {w wr : World} {c A B At : Int} (h : RS w wr c A B At) (k : Nat) (v : Value) {c' A' B' At' : Int} (hv : (#[Value.int .u8 c, .int .i64 A, .int .i64 B, .int .i64 At]).setIfInBounds k v = #[.int .u8 c', .int .i64 A', .int .i64 B', .int .i64 At']) :
    RS w (wr.setCell ⟨w.heap.size + 1, k, none⟩ v) c' A' B' At' := by
  refine ⟨grownBy_new' h.grow (grownBy_setCell _ _ _ _) (fun r e => by simp at e; omega), ?_, ?_⟩
  · rw [← h.res]; simp [World.setCell, Array.getElem?_modify]
  · have : (wr.setCell ⟨w.heap.size + 1, k, none⟩ v).heap[w.heap.size + 1]? = some (.cells ((#[Value.int .u8 c, .int .i64 A, .int .i64 B, .int .i64 At]).setIfInBounds k v) 50 (0, 0)) := by
      simp [World.setCell, Array.getElem?_modify, h.x]
    rw [this, hv]
theorem RS.done {w wr : World} {c A B At : Int} (h : RS w wr c A B At) (u0 u1 u2 u3 : Value) :
    w.grownBy ((((wr.setCell ⟨w.heap.size, 0, none⟩ u0).setCell ⟨w.heap.size, 1, none⟩ u1).setCell ⟨w.heap.size, 2, none⟩ u2).setCell ⟨w.heap.size, 3, none⟩ u3) none :=
  grownBy_new' h.grow (grownBy_trans (grownBy_trans (grownBy_trans (grownBy_setCell _ _ _ _) (grownBy_setCell _ _ _ _)) (grownBy_setCell _ _ _ _)) (grownBy_setCell _ _ _ _)) (fun r e => by simp at e; omega)

set_option maxHeartbeats 2000000 in
set_option maxRecDepth 100000 in
theorem rstep_loop (s : ByteArray) (i : Nat) (w : World) (hs : s.size ≤ 150) (h : i < s.size) (hf : frm (pk s i) ≠ []) :
    Calls Try.prog 66 #[.string s, .int .i64 (i : Int)] w (RStepPost s i w) := by
  obtain ⟨F, hF⟩ : ∃ F : ByteArray, F = ⟨(frm (pk s i)).toArray⟩ := ⟨_, rfl⟩
  have hfo := fun w => forms_any (pk s i) w
  rw [← hF] at hfo
  have hpi := pk_in h
  obtain ⟨c, HC⟩ : ∃ c, Hid (pk s i = c) := ⟨_, rfl⟩
  have hix0 := run_index_pk s (i : Int) i rfl h
  rw [HC.out] at hfo hix0
  have HFO : Hid _ := hfo
  have HF : Hid _ := hF
  have HNE : Hid _ := hf
  have hsz := frm_size hF hf
  have hF0 : 0 < F.size := hsz.1
  have hF2 : F.size ≤ 2 := hsz.2.1
  have hFe : F.toList.isEmpty = false := by
    rw [← decide_eq_emptyBytes F]
    simp
    intro e
    rw [e] at hF0
    exact absurd hF0 (by decide)
  clear hfo hF hf hpi hsz
  go_enter Try.func66, Try.ntmps66
  go_wp2_with (go_at_call 94; go_must (refine Calls.mono (HFO.out _) ?_; rintro e w1 ⟨rfl, rfl⟩))
  clear hix0
  go_loopw [1, 9] (fun iv kv wr => ∃ (m : Nat) (A B At : Int), m ≤ F.size ∧ kv = .int .i64 m ∧ iv = .int .i64 ((i : Int) + m) ∧ RS w wr c A B At ∧ Hid (Mid s i m A B At)) (fun _ kv _ => F.size - (intOf kv).toNat)
  case atStart => exact ⟨0, 0, 0, 0, Nat.zero_le _, rfl, by simp, RS.start w _, .inl ⟨rfl, rfl, rfl, rfl⟩⟩
  case round =>
    obtain ⟨m, A, B, At, hm, rfl, rfl, hrs, hmid⟩ := hrel
    obtain ⟨q0, q1, q2, q3, qf⟩ := blk4 hrs.x
    obtain ⟨n0, n1, n2, n3, nf⟩ := blk4 hrs.res
    have HRS : Hid _ := hrs
    clear hrs
    by_cases hlt : m < F.size
    · by_cases hend : i + m + 1 < s.size
      · have hd : decide ((s.size : Int) ≤ (i : Int) + m + 1) = false := by simp; omega
        have hixF := run_index_pk F (m : Int) m rfl hlt
        have hixS := run_index_pk s ((i : Int) + m + 1) (i + m + 1) (by omega) hend
        have hg := pk_range F m
        have hp := pk_range s (i + m + 1)
        have hg0 : 0 ≤ pk F m := by rw [pk_in hlt]; omega
        have hp0 : 0 ≤ pk s (i + m + 1) := by rw [pk_in hend]; omega
        obtain ⟨g, HG⟩ : ∃ g, Hid (pk F m = g) := ⟨_, rfl⟩
        obtain ⟨p, HP⟩ : ∃ p, Hid (pk s (i + m + 1) = p) := ⟨_, rfl⟩
        rw [HG.out] at hixF hg hg0
        rw [HP.out] at hixS hp hp0
        have HL : Hid _ := fun W => letter_any g p W (by omega) (by omega) (by omega) (by omega)
        by_cases hneg : letv g p < 0
        · have HB : Hid (stepBad s i = some (i + m + 1)) := mid_fail HF.out HNE.out hmid.out hlt (by rw [HG.out, HP.out]; exact letv_neg hneg)
          generalize letv g p = lv at *
          go_wp2_with fail
          go_quiet ((go_at_call 95; exact Calls.quiet_of_same (HL.out _)))
          go_wp2_with fail
          refine bodyPost_ret (v := .tuple #[.agg #[.int .u8 c, .int .i64 A, .int .i64 B, .int .i64 At], .int .i64 ((i : Int) + m + 1), .bool false]) (by simp [results, Try.results66, go_sem, n0, n1, n2, n3]) rfl ⟨(HRS.out.drewN _).done _ _ _ _, ?_⟩
          rw [HB.out]
          exact ⟨_, _, _, _, by rw [show (((i + m + 1 : Nat)) : Int) = (i : Int) + m + 1 from by omega]⟩
        · obtain ⟨hkin, hlv⟩ := letv_pos hneg
          by_cases hm0 : m = 0
          · have hmb : ((m : Int) == 0) = true := by simpa using hm0
            have HMid : Hid (Mid s i 1 (letv g p) B ((i : Int) + m + 1)) := by
              subst hm0
              rw [hlv, ← HG.out, ← HP.out, show (i : Int) + ((0 : Nat) : Int) + 1 = (i : Int) + 1 from by omega]
              exact mid_next0 HF.out HNE.out hmid.out (by rw [HG.out]; exact (show kin g (pk s (i + 0 + 1)) = true by rw [HP.out]; exact hkin))
            have hm1 : m ≤ 0 := by omega
            clear hm0 hkin hlv hmid
            generalize letv g p = lv at *
            go_wp2_with fail
            go_quiet ((go_at_call 95; exact Calls.quiet_of_same (HL.out _)))
            go_wp2_with fail
            go_region_with (go_at_call 95; refine Calls.mono (HL.out _) ?_; rintro e w5 ⟨rfl, rfl⟩)
            all_goals
              go_wp2_with fail
              go_roundw
              case rel => exact ⟨m + 1, lv, B, (i : Int) + m + 1, by omega, by go_num, by rw [show (i : Int) + ((m + 1 : Nat) : Int) = (i : Int) + m + 1 from by omega], ((HRS.out.drewN _).set 1 _ rfl).set 3 _ rfl, by rw [show m + 1 = 1 from by omega]; exact HMid⟩
              case measure => simp [intOf]; omega
          · have hmb : ((m : Int) == 0) = false := by simpa using hm0
            have HMid : Hid (Mid s i 2 A (letv g p) ((i : Int) + m + 1)) := by
              have hm1 : m = 1 := by omega
              subst hm1
              rw [hlv, ← HG.out, ← HP.out]
              have := mid_next1 HF.out hlt hmid.out (by rw [HG.out]; rw [show i + 2 = i + 1 + 1 from rfl, HP.out]; exact hkin)
              rw [show (i : Int) + ((1 : Nat) : Int) + 1 = (i : Int) + 2 from by omega]
              exact this
            have hm1 : 1 ≤ m := by omega
            clear hm0 hkin hlv hmid
            generalize letv g p = lv at *
            go_wp2_with fail
            go_quiet ((go_at_call 95; exact Calls.quiet_of_same (HL.out _)))
            go_wp2_with fail
            go_region_with (go_at_call 95; refine Calls.mono (HL.out _) ?_; rintro e w5 ⟨rfl, rfl⟩)
            all_goals
              go_wp2_with fail
              go_roundw
              case rel => exact ⟨m + 1, A, lv, (i : Int) + m + 1, by omega, by go_num, by rw [show (i : Int) + ((m + 1 : Nat) : Int) = (i : Int) + m + 1 from by omega], ((HRS.out.drewN _).set 2 _ rfl).set 3 _ rfl, by rw [show m + 1 = 2 from by omega]; exact HMid⟩
              case measure => simp [intOf]; omega
      · have hd : decide ((s.size : Int) ≤ (i : Int) + m + 1) = true := by simp; omega
        have HB : Hid (stepBad s i = some (i + m + 1)) := mid_fail HF.out HNE.out hmid.out hlt (by rw [pk_out hend]; exact kin_out)
        go_wp2_with fail
        go_quiet (fail)
        go_wp2_with fail
        refine bodyPost_ret (v := .tuple #[.agg #[.int .u8 c, .int .i64 A, .int .i64 B, .int .i64 At], .int .i64 ((i : Int) + m + 1), .bool false]) (by simp [results, Try.results66, go_sem, n0, n1, n2, n3]) rfl ⟨(HRS.out.drewN _).done _ _ _ _, ?_⟩
        rw [HB.out]
        exact ⟨_, _, _, _, by rw [show (((i + m + 1 : Nat)) : Int) = (i : Int) + m + 1 from by omega]⟩
    · have hd := mid_done HF.out HNE.out (by rw [show F.size = m from by omega]; exact hmid.out)
      have HD : Hid _ := hd
      clear hd hmid
      go_wp2_with fail
      refine bodyPost_ret (v := .tuple #[.agg #[.int .u8 c, .int .i64 A, .int .i64 B, .int .i64 At], .int .i64 ((i : Int) + m + 1), .bool true]) (by simp [results, Try.results66, go_sem, n0, n1, n2, n3]) rfl ⟨HRS.out.done _ _ _ _, ?_⟩
      obtain ⟨d1, d2, d3, d4, d5⟩ := HD.out
      rw [d1, d2, d3, d4, ← HC.out, show (i : Int) + m + 1 = (stepAt s i : Int) + 1 from by omega]
      rfl

theorem rstep_any (s : ByteArray) (i : Nat) (w : World) (hs : s.size ≤ 150) (hi : i ≤ s.size) : Calls Try.prog 66 #[.string s, .int .i64 (i : Int)] w (RStepPost s i w) := by
  by_cases h : i < s.size
  · by_cases hf : frm (pk s i) = []
    · exact rstep_none s i w hs h hf
    · exact rstep_loop s i w hs h hf
  · exact rstep_end s i w hs hi h

end Go.Proofs.Ytimgindeiekpmaa
