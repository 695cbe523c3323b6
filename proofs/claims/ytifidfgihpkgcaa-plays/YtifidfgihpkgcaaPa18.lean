import Derived.Test.YtifidfgihpkgcaaPa17
import Derived.Test.YtifidfgihpkgcaaPa13
import Derived.Shelf.Strings.BuilderK
import Derived.Test.YtifidfgihpkgcaaPa01
import Derived.Test.YtifidfgihpkgcaaPa02
set_option linter.unusedSimpArgs false
set_option linter.unusedVariables false
namespace Go.Proofs.Ytifidfgihpkgcaa
open Go.RowKit Wv

section
variable {P : Program}
/-- A whole row read in an operation that is guarded, where the guard lets it. -/
theorem wpList_load_row_g {ops : Array Oper} {rest : List Oper} {o : Oper} {a : Act} {w : World} {Q : Exit → Act → World → Prop} (ty : TypeId) (x : Operand) (ho : o.op = .load ty x) (hw : Region.wanted o (yielded ops a.tmps) = true)
    (g : Nat) (hx : a.eval x = .pointer (some ⟨g, 0, none⟩)) (t : TypeId) (cs : Array Value) (fr : Nat × Nat) (d : TypeDesc) (hg : w.heap[g]? = some (.cells cs t fr))
    (hu : P.underlying ty = some d) (hd : (match d with | .struct _ | .array _ _ => true | _ => false) = true) (hi : (P.info? ty).map (·.size) = some cs.size)
    (h : wpList P ops Q rest (a.put o.dst (.agg cs)) w) : wpList P ops Q (o :: rest) a w :=
  wpList_step fun _ hK => by simp only [hw, if_true]; exact wp_load_row ty x ho g hx t cs fr d hg hu hd hi (hK _ _ h)
end

theorem keep3 {w w1 : World} {A B C : Obj} (hg : (((w.alloc A).alloc B).alloc C).grownBy w1 none) : w1.heap[w.heap.size]? = some A ∧ w1.heap[w.heap.size + 1]? = some B ∧ w1.heap[w.heap.size + 2]? = some C ∧ w.grownBy w1 none := by
  have hs : (((w.alloc A).alloc B).alloc C).heap.size = w.heap.size + 3 := by simp
  refine ⟨?_, ?_, ?_, grownBy_trans (grown3 w A B C) hg⟩
  · rw [hg.block _ (by omega) (by simp)]; exact (heap3 w A B C).1
  · rw [hg.block _ (by omega) (by simp)]; exact (heap3 w A B C).2.1
  · rw [hg.block _ (by omega) (by simp)]; exact (heap3 w A B C).2.2

set_option maxHeartbeats 600000 in
set_option maxRecDepth 100000 in
theorem mayGoOn_any (s : ByteArray) (L : List (List Nat)) (σ : Nat → Int) (who base B : Nat) (tv mv : Value) (vs : List Value) (w : World) (hM : OwnT w base 89 102 7 (ccells s) B tv vs L)
    (hmv : mv.oneCell' = true) (hw3 : who < 3) (hw : who < L.length) (hG : StOk L σ) (h8 : L[who].length ≤ 8) (hgood : ∀ x ∈ L[who], stepBad s x = none) :
    Calls Try.prog 33 #[.agg #[tv, mv], .agg (cst σ), .int .i64 (who : Int)] w fun e w' =>
      e = .returned (.bool (mayB s L σ who)) ∧ w.grownBy w' none := by
  have hn := hG.nx hw3
  have hnx := hG.nxt who hw
  rw [thOf_in hw, hn] at hnx
  have hfu := hG.inv (who * 7 + 5) (by omega)
  have hMB : mayB s L σ who = (σ (who * 7 + 6) == 0 && !((nx σ who : Int) == (L[who].length : Int)) && decide (0 < σ (who * 7 + 5)) && !waitsB s L σ who) := by
    unfold mayB; rw [thOf_in hw, hn]
  rw [hMB]
  have HE : Hid (∀ W, w.grownBy W none → Calls Try.prog 51 #[.agg #[tv, mv], .agg (cst σ), .int .i64 (who : Int)] W fun e w' => e = .returned (.bool ((nx σ who : Int) == (L[who].length : Int))) ∧ W.grownBy w' none) :=
    fun W hW => hasEnded_any s L σ who base B tv mv vs W (hM.kept hW (Classical.em _) (by simp)) hmv hw3 hw hn (by omega) h8
  have HW : Hid (nx σ who < L[who].length → ∀ W, w.grownBy W none → Calls Try.prog 52 #[.agg #[tv, mv], .agg (cst σ), .int .i64 (who : Int)] W fun e w' => e = .returned (.bool (waitsB s L σ who)) ∧ W.grownBy w' none) :=
    fun hk W hW => waits_any s L σ who base B tv mv vs W (hM.kept hW (Classical.em _) (by simp)) hmv hw3 hw hn hk h8 (by rw [stp_in hw hk]; exact hgood _ (List.getElem_mem _))
  have g0 := cst_get σ (who * 7) (by omega)
  have g1 := cst_get σ (who * 7 + 1) (by omega)
  have g2 := cst_get σ (who * 7 + 2) (by omega)
  have g3 := cst_get σ (who * 7 + 3) (by omega)
  have g4 := cst_get σ (who * 7 + 4) (by omega)
  have g5 := cst_get σ (who * 7 + 5) (by omega)
  have g6 := cst_get σ (who * 7 + 6) (by omega)
  obtain ⟨ao, cap, rfl⟩ := ownsRow_slice hM.out
  clear hM hgood hG hMB hn
  generalize L[who].length = len at *
  generalize nx σ who = k at *
  generalize waitsB s L σ who = wb at *
  generalize σ (who * 7) = v0 at *
  generalize σ (who * 7 + 1) = v1 at *
  generalize σ (who * 7 + 2) = v2 at *
  generalize σ (who * 7 + 3) = v3 at *
  generalize σ (who * 7 + 4) = v4 at *
  generalize σ (who * 7 + 5) = v5 at *
  generalize σ (who * 7 + 6) = v6 at *
  by_cases hf : v6 = 0
  · subst hf
    by_cases hend : k = len
    · have hb : ((k : Int) == (len : Int)) = true := by simp; omega
      rw [hb] at HE ⊢
      clear hend HW
      go_enter Try.func33, Try.ntmps33
      go_wp2_with (first | (refine wpList_load_row_g 72 (.tmp 4) rfl ?_ (w.heap.size + 1) ?_ 72 (cst σ) (0, 0) _ ?_ Try.underlying72 rfl (info_state _) ?_; go_simp; rfl; exact (heap3 _ _ _ _).2.1) | (go_at_call 51; go_must (refine Calls.mono (HE.out _ (grown3 _ _ _ _)) ?_; rintro e w1 ⟨rfl, hg⟩; have hk3 := keep3 hg; obtain ⟨m0, m1, mf⟩ := blk2 hk3.1; obtain ⟨t0, t1, t2, t3, t4, t5, t6, tf⟩ := blk7 hk3.2.2.1; have HK : Hid _ := hk3; clear hg hk3)))
      go_ret
      exact ⟨rfl, HK.out.2.2.2⟩
    · have hb : ((k : Int) == (len : Int)) = false := by simp; omega
      rw [hb] at HE ⊢
      have hlt : k < len := by omega
      by_cases hfz : 0 < v5
      · have hd : decide (0 < v5) = true := by simpa using hfz
        rw [hd]
        go_enter Try.func33, Try.ntmps33
        go_wp2_with (first | (refine wpList_load_row_g 72 (.tmp 4) rfl ?_ (w.heap.size + 1) ?_ 72 (cst σ) (0, 0) _ ?_ Try.underlying72 rfl (info_state _) ?_; go_simp; rfl; exact (heap3 _ _ _ _).2.1) | (refine wpList_load_row_g 72 (.tmp 4) rfl ?_ (w.heap.size + 1) ?_ 72 (cst σ) (0, 0) _ ?_ Try.underlying72 rfl (info_state _) ?_; go_simp; rfl; exact HK.out.2.1) | (go_at_call 51; go_must (refine Calls.mono (HE.out _ (grown3 _ _ _ _)) ?_; rintro e w1 ⟨rfl, hg⟩; have hk3 := keep3 hg; obtain ⟨m0, m1, mf⟩ := blk2 hk3.1; obtain ⟨t0, t1, t2, t3, t4, t5, t6, tf⟩ := blk7 hk3.2.2.1; have HK : Hid _ := hk3; clear hg hk3)) | (go_at_call 52; go_must (refine Calls.mono (HW.out hlt _ HK.out.2.2.2) ?_; rintro e w2 ⟨rfl, hg2⟩)))
        go_ret
        exact ⟨by cases wb <;> rfl, grownBy_trans HK.out.2.2.2 hg2⟩
      · have hd : decide (0 < v5) = false := by simpa using hfz
        rw [hd]
        clear HW
        go_enter Try.func33, Try.ntmps33
        go_wp2_with (first | (refine wpList_load_row_g 72 (.tmp 4) rfl ?_ (w.heap.size + 1) ?_ 72 (cst σ) (0, 0) _ ?_ Try.underlying72 rfl (info_state _) ?_; go_simp; rfl; exact (heap3 _ _ _ _).2.1) | (go_at_call 51; go_must (refine Calls.mono (HE.out _ (grown3 _ _ _ _)) ?_; rintro e w1 ⟨rfl, hg⟩; have hk3 := keep3 hg; obtain ⟨m0, m1, mf⟩ := blk2 hk3.1; obtain ⟨t0, t1, t2, t3, t4, t5, t6, tf⟩ := blk7 hk3.2.2.1; have HK : Hid _ := hk3; clear hg hk3)))
        go_ret
        exact ⟨by simp, HK.out.2.2.2⟩
  · have hb : (v6 == 0) = false := by simpa using hf
    rw [hb]
    clear HW HE hf
    go_enter Try.func33, Try.ntmps33
    go_wp2_with fail
    go_ret
    exact ⟨rfl, grown3 _ _ _ _⟩

end Go.Proofs.Ytifidfgihpkgcaa

set_option linter.unusedSimpArgs false
set_option linter.unusedVariables false
namespace Go.Proofs.Ytifidfgihpkgcaa
open Go.RowKit Wv

/-- All that a call reads of a program: its threads, read, with good steps. -/
structure Prog (w : World) (base B : Nat) (s : ByteArray) (L : List (List Nat)) (tv : Value) (vs : List Value) : Prop where
  own : OwnT w base 89 102 7 (ccells s) B tv vs L
  three : L.length ≤ 3
  eight : ∀ l ∈ L, l.length ≤ 8
  good : ∀ l ∈ L, ∀ x ∈ l, stepBad s x = none
theorem Prog.kept {w w' : World} {base B : Nat} {s : ByteArray} {L : List (List Nat)} {tv : Value} {vs : List Value} (h : Prog w base B s L tv vs) (hg : w.grownBy w' none) : Prog w' base B s L tv vs :=
  ⟨h.own.kept hg (Classical.em _) (by simp), h.three, h.eight, h.good⟩

theorem may_call {w : World} {base B : Nat} {s : ByteArray} {L : List (List Nat)} {tv mv : Value} {vs : List Value} (h : Prog w base B s L tv vs) (hmv : mv.oneCell' = true) {σ : Nat → Int} (hG : StOk L σ) (who : Nat) (hw : who < L.length) :
    Calls Try.prog 33 #[.agg #[tv, mv], .agg (cst σ), .int .i64 (who : Int)] w fun e w' => e = .returned (.bool (mayB s L σ who)) ∧ w.grownBy w' none :=
  mayGoOn_any s L σ who base B tv mv vs w h.own hmv (by have := h.three; omega) hw hG (h.eight _ (List.getElem_mem hw)) (h.good _ (List.getElem_mem hw))

def overFrom (s : ByteArray) (L : List (List Nat)) (σ : Nat → Int) (k : Nat) : Prop := ∀ j, j < k → mayB s L σ j = false
def overB (s : ByteArray) (L : List (List Nat)) (σ : Nat → Int) : Bool := (List.range L.length).all fun j => !mayB s L σ j
theorem over_yes {s : ByteArray} {L : List (List Nat)} {σ : Nat → Int} (h : overFrom s L σ L.length) : overB s L σ = true := by
  simp [overB]; exact h
theorem over_no {s : ByteArray} {L : List (List Nat)} {σ : Nat → Int} {k : Nat} (hk : k < L.length) (h : mayB s L σ k = true) : overB s L σ = false := by
  simp [overB]; exact ⟨k, hk, h⟩

set_option maxHeartbeats 1000000 in
set_option maxRecDepth 100000 in
theorem someMayGoOn_any (s : ByteArray) (L : List (List Nat)) (σ : Nat → Int) (base B : Nat) (tv mv : Value) (vs : List Value) (w : World) (hP : Prog w base B s L tv vs) (hmv : mv.oneCell' = true) (hG : StOk L σ) :
    Calls Try.prog 35 #[.agg #[tv, mv], .agg (cst σ)] w fun e w' => e = .returned (.bool (!overB s L σ)) ∧ w.grownBy w' none := by
  have HM : Hid (∀ W, w.grownBy W none → ∀ who, who < L.length → Calls Try.prog 33 #[.agg #[tv, mv], .agg (cst σ), .int .i64 (who : Int)] W fun e w' => e = .returned (.bool (mayB s L σ who)) ∧ W.grownBy w' none) :=
    fun W hW who hw => may_call (hP.kept hW) hmv hG who hw
  obtain ⟨ao, cap, rfl⟩ := ownsRow_slice hP.own.out
  have h3 := hP.three
  clear hP
  go_enter Try.func35, Try.ntmps35
  go_wp2_with fail
  go_loopw [9] (fun iv wr => ∃ k : Nat, k ≤ L.length ∧ iv = .int .i64 (k : Int) ∧ Hid (wr.heap[w.heap.size]? = some (.cells #[.slice ao L.length cap, mv] 61 (0, 0)) ∧ wr.heap[w.heap.size + 1]? = some (.cells (cst σ) 72 (0, 0)) ∧ w.grownBy wr none ∧ overFrom s L σ k)) (fun iv _ => L.length - (intOf iv).toNat)
  case atStart => exact ⟨0, Nat.zero_le _, rfl, (heap2 _ _ _).1, (heap2 _ _ _).2, grown2 _ _ _, fun j hj => absurd hj (by omega)⟩
  case round =>
    obtain ⟨k, hk, rfl, hat⟩ := hrel
    obtain ⟨m0, m1, mf⟩ := blk2 hat.out.1
    by_cases hlt : k < L.length
    · have hcall := HM.out wr hat.out.2.2.1 k hlt
      cases hmb : mayB s L σ k with
      | true =>
        have HO : Hid _ := over_no hlt hmb
        rw [hmb] at hcall
        have HC : Hid _ := hcall
        clear hcall hmb
        go_wp2_with (first | (refine wpList_load_row rfl 72 (.tmp 3) rfl (w.heap.size + 1) ?_ 72 (cst σ) (0, 0) _ ?_ Try.underlying72 rfl (info_state _) ?_; rfl; exact hat.out.2.1) | (go_at_call 33; go_must (refine Calls.mono HC.out ?_; rintro e w2 ⟨rfl, hg⟩)))
        go_ret
        rw [HO.out]
        exact ⟨rfl, grownBy_trans hat.out.2.2.1 hg⟩
      | false =>
        rw [hmb] at hcall
        have HC : Hid _ := hcall
        have HO : Hid (overFrom s L σ (k + 1)) := fun j hj => by
          rcases Nat.lt_or_ge j k with h | h
          · exact hat.out.2.2.2 j h
          · rw [show j = k from by omega]; exact hmb
        clear hcall hmb
        go_wp2_with (first | (refine wpList_load_row rfl 72 (.tmp 3) rfl (w.heap.size + 1) ?_ 72 (cst σ) (0, 0) _ ?_ Try.underlying72 rfl (info_state _) ?_; rfl; exact hat.out.2.1) | (go_at_call 33; go_must (refine Calls.mono HC.out ?_; rintro e w2 ⟨rfl, hg⟩)))
        go_roundw
        case rel => exact ⟨k + 1, by omega, by go_num, (hg.block _ (lt_of_block hat.out.1) (by simp)).trans hat.out.1, (hg.block _ (lt_of_block hat.out.2.1) (by simp)).trans hat.out.2.1, grownBy_trans hat.out.2.2.1 hg, HO.out⟩
        case measure => simp [intOf]; omega
    · have HO : Hid (overB s L σ = true) := over_yes (by rw [show L.length = k from by omega]; exact hat.out.2.2.2)
      go_wp2_with fail
      go_ret
      rw [HO.out]
      exact ⟨rfl, hat.out.2.2.1⟩

/-- The letter of a thread's end. -/
def letterB (L : List (List Nat)) (σ : Nat → Int) (who : Nat) : Int :=
  if σ (who * 7 + 6) = 1 then 70 else if σ (who * 7 + 6) = 2 then 87 else if σ (who * 7 + 4) = ((thOf L who).length : Int) then 69 else if σ (who * 7 + 5) = 0 then 79 else 66

set_option maxHeartbeats 1000000 in
set_option maxRecDepth 100000 in
theorem endLetter_any (s : ByteArray) (L : List (List Nat)) (σ : Nat → Int) (who base B : Nat) (tv mv : Value) (vs : List Value) (w : World) (hP : Prog w base B s L tv vs) (hmv : mv.oneCell' = true) (hG : StOk L σ) (hw : who < L.length) :
    Calls Try.prog 54 #[.agg #[tv, mv], .agg (cst σ), .int .i64 (who : Int)] w fun e w' => e = .returned (.int .u8 (letterB L σ who)) ∧ w.grownBy w' none := by
  have h3 := hP.three
  have hw3 : who < 3 := by omega
  have h8 := hP.eight _ (List.getElem_mem hw)
  have hn := hG.nx hw3
  have hnx := hG.nxt who hw
  rw [thOf_in hw, hn] at hnx
  have HE : Hid (∀ W, w.grownBy W none → Calls Try.prog 51 #[.agg #[tv, mv], .agg (cst σ), .int .i64 (who : Int)] W fun e w' => e = .returned (.bool ((nx σ who : Int) == (L[who].length : Int))) ∧ W.grownBy w' none) :=
    fun W hW => hasEnded_any s L σ who base B tv mv vs W (hP.own.kept hW (Classical.em _) (by simp)) hmv hw3 hw hn (by omega) h8
  have g0 := cst_get σ (who * 7) (by omega)
  have g1 := cst_get σ (who * 7 + 1) (by omega)
  have g2 := cst_get σ (who * 7 + 2) (by omega)
  have g3 := cst_get σ (who * 7 + 3) (by omega)
  have g4 := cst_get σ (who * 7 + 4) (by omega)
  have g5 := cst_get σ (who * 7 + 5) (by omega)
  have g6 := cst_get σ (who * 7 + 6) (by omega)
  obtain ⟨ao, cap, rfl⟩ := ownsRow_slice hP.own.out
  obtain ⟨l, hl⟩ : ∃ l, letterB L σ who = l := ⟨_, rfl⟩
  have hl2 := hl
  unfold letterB at hl2
  rw [thOf_in hw, hn] at hl2
  rw [hl]
  clear hP hG hl hn
  generalize L[who].length = len at *
  generalize nx σ who = k at *
  generalize σ (who * 7) = v0 at *
  generalize σ (who * 7 + 1) = v1 at *
  generalize σ (who * 7 + 2) = v2 at *
  generalize σ (who * 7 + 3) = v3 at *
  generalize σ (who * 7 + 4) = v4 at *
  generalize σ (who * 7 + 5) = v5 at *
  generalize σ (who * 7 + 6) = v6 at *
  by_cases hf1 : v6 = 1
  · subst hf1
    rw [if_pos rfl] at hl2
    subst hl2
    go_enter Try.func54, Try.ntmps54
    go_wp2_with fail
    go_ret
    exact ⟨rfl, grown3 _ _ _ _⟩
  rw [if_neg hf1] at hl2
  by_cases hf2 : v6 = 2
  · subst hf2
    rw [if_pos rfl] at hl2
    subst hl2
    go_enter Try.func54, Try.ntmps54
    go_wp2_with fail
    go_ret
    exact ⟨rfl, grown3 _ _ _ _⟩
  rw [if_neg hf2] at hl2
  have b1 : (v6 == 1) = false := by simpa using hf1
  have b2 : (v6 == 2) = false := by simpa using hf2
  clear hf1 hf2
  by_cases hend : k = len
  · have hb : ((k : Int) == (len : Int)) = true := by simp; omega
    rw [if_pos (by omega)] at hl2
    rw [hb] at HE
    subst hl2
    clear hend
    go_enter Try.func54, Try.ntmps54
    go_wp2_with (first | (refine wpList_load_row rfl 72 (.tmp 4) rfl (w.heap.size + 1) ?_ 72 (cst σ) (0, 0) _ ?_ Try.underlying72 rfl (info_state _) ?_; rfl; exact (heap3 _ _ _ _).2.1) | (go_at_call 51; go_must (refine Calls.mono (HE.out _ (grown3 _ _ _ _)) ?_; rintro e w1 ⟨rfl, hg⟩; have HK : Hid _ := keep3 hg; clear hg)))
    go_ret
    exact ⟨rfl, HK.out.2.2.2⟩
  · have hb : ((k : Int) == (len : Int)) = false := by simp; omega
    rw [if_neg (by omega)] at hl2
    rw [hb] at HE
    clear hend
    by_cases hz : v5 = 0
    · rw [if_pos hz] at hl2
      subst hl2
      subst hz
      go_enter Try.func54, Try.ntmps54
      go_wp2_with (first | (refine wpList_load_row rfl 72 (.tmp 4) rfl (w.heap.size + 1) ?_ 72 (cst σ) (0, 0) _ ?_ Try.underlying72 rfl (info_state _) ?_; rfl; exact (heap3 _ _ _ _).2.1) | (go_at_call 51; go_must (refine Calls.mono (HE.out _ (grown3 _ _ _ _)) ?_; rintro e w1 ⟨rfl, hg⟩; have hk3 := keep3 hg; obtain ⟨t0, t1, t2, t3, t4, t5, t6, tf⟩ := blk7 hk3.2.2.1; have HK : Hid _ := hk3; clear hg hk3)))
      go_ret
      exact ⟨rfl, HK.out.2.2.2⟩
    · rw [if_neg hz] at hl2
      subst hl2
      have b5 : (v5 == 0) = false := by simpa using hz
      clear hz
      go_enter Try.func54, Try.ntmps54
      go_wp2_with (first | (refine wpList_load_row rfl 72 (.tmp 4) rfl (w.heap.size + 1) ?_ 72 (cst σ) (0, 0) _ ?_ Try.underlying72 rfl (info_state _) ?_; rfl; exact (heap3 _ _ _ _).2.1) | (go_at_call 51; go_must (refine Calls.mono (HE.out _ (grown3 _ _ _ _)) ?_; rintro e w1 ⟨rfl, hg⟩; have hk3 := keep3 hg; obtain ⟨t0, t1, t2, t3, t4, t5, t6, tf⟩ := blk7 hk3.2.2.1; have HK : Hid _ := hk3; clear hg hk3)))
      go_ret
      exact ⟨rfl, HK.out.2.2.2⟩

end Go.Proofs.Ytifidfgihpkgcaa

set_option linter.unusedSimpArgs false
set_option linter.unusedVariables false
namespace Go.Proofs.Ytifidfgihpkgcaa
open Go.RowKit Wv

set_option maxHeartbeats 1000000 in
set_option maxRecDepth 100000 in
theorem rOver_any (s : ByteArray) (L : List (List Nat)) (σ : Nat → Int) (base B : Nat) (tv : Value) (vs : List Value) (w : World) (hP : RProg w base B s L tv vs) (hG : StOk L σ) (hfa : ∀ who, who < 3 → σ (who * 7 + 6) ≤ 2) :
    Calls Try.prog 24 #[tv, .agg (rst σ)] w fun e w' => e = .returned (.bool (overB s L σ)) ∧ w.grownBy w' none := by
  have h3 := hP.three
  have HM : Hid (∀ W, w.grownBy W none → ∀ who, who < L.length → Calls Try.prog 14 #[tv, .agg (rst σ), .int .i64 (who : Int)] W fun e w' => e = .returned (.bool (mayB s L σ who)) ∧ W.grownBy w' none) :=
    fun W hW who hw => rMay_any s L σ who base B tv vs W (hP.kept hW) hw hG (hfa who (by omega))
  obtain ⟨ao, cap, rfl⟩ := ownsRow_slice hP.own.out
  clear hP
  go_enter Try.func24, Try.ntmps24
  go_wp2_with fail
  go_loopw [5] (fun iv wr => ∃ k : Nat, k ≤ L.length ∧ iv = .int .i64 (k : Int) ∧ Hid (wr.heap[w.heap.size]? = some (.cells (rst σ) 45 (0, 0)) ∧ w.grownBy wr none ∧ overFrom s L σ k)) (fun iv _ => L.length - (intOf iv).toNat)
  case atStart => exact ⟨0, Nat.zero_le _, rfl, heap_alloc_new _ _, World.grownBy_alloc _ _ _, fun j hj => absurd hj (by omega)⟩
  case round =>
    obtain ⟨k, hk, rfl, hat⟩ := hrel
    by_cases hlt : k < L.length
    · have hcall := HM.out wr hat.out.2.1 k hlt
      cases hmb : mayB s L σ k with
      | true =>
        have HO : Hid _ := over_no hlt hmb
        rw [hmb] at hcall
        have HC : Hid _ := hcall
        clear hcall hmb
        go_wp2_with (first | (refine ld_row 45 (.tmp 3) w.heap.size ?_ (rst σ) ?_ Try.underlying45 rfl ?_ ?_; rfl; exact hat.out.1; exact info_rstate σ) | (go_at_call 14; go_must (refine Calls.mono HC.out ?_; rintro e w2 ⟨rfl, hg⟩)))
        go_ret
        rw [HO.out]
        exact ⟨rfl, grownBy_trans hat.out.2.1 hg⟩
      | false =>
        rw [hmb] at hcall
        have HC : Hid _ := hcall
        have HO : Hid (overFrom s L σ (k + 1)) := fun j hj => by
          rcases Nat.lt_or_ge j k with h | h
          · exact hat.out.2.2 j h
          · rw [show j = k from by omega]; exact hmb
        clear hcall hmb
        go_wp2_with (first | (refine ld_row 45 (.tmp 3) w.heap.size ?_ (rst σ) ?_ Try.underlying45 rfl ?_ ?_; rfl; exact hat.out.1; exact info_rstate σ) | (go_at_call 14; go_must (refine Calls.mono HC.out ?_; rintro e w2 ⟨rfl, hg⟩)))
        go_roundw
        case rel => exact ⟨k + 1, by omega, by go_num, (hg.block _ (lt_of_block hat.out.1) (by simp)).trans hat.out.1, grownBy_trans hat.out.2.1 hg, HO.out⟩
        case measure => simp [intOf]; omega
    · have HO : Hid (overB s L σ = true) := over_yes (by rw [show L.length = k from by omega]; exact hat.out.2.2)
      go_wp2_with fail
      go_ret
      rw [HO.out]
      exact ⟨rfl, hat.out.2.1⟩
end Go.Proofs.Ytifidfgihpkgcaa

set_option linter.unusedSimpArgs false
set_option linter.unusedVariables false
namespace Go.Proofs.Ytifidfgihpkgcaa
open Go.RowKit Wv

/-- The errors of a program and of fuel. -/
def givB (s : ByteArray) (fuel : Int) : Int × Int := if (chk s).1 = 0 then (if fuel < 0 ∨ 8 < fuel then (4, 0) else (0, 0)) else ((chk s).1, ((chk s).2 : Int))

set_option maxRecDepth 100000 in
theorem rGiven_any (s : ByteArray) (fuel : Int) (w : World) (hm : s.size ≤ maxLen) :
    Calls Try.prog 23 #[.string s, .int .i64 fuel] w fun e w' => e = .returned (.tuple #[.int .i64 (givB s fuel).1, .int .i64 (givB s fuel).2]) ∧ w.grownBy w' none := by
  have hc := rcheck_any s w hm
  unfold RChkPost at hc
  unfold givB
  by_cases h0 : (chk s).1 = 0
  · rw [if_pos h0]
    rw [h0] at hc
    have HC : Hid _ := hc
    clear hc h0
    generalize (chk s).2 = p at *
    by_cases h1 : fuel < 0
    · rw [if_pos (.inl h1)]
      have b1 : decide (fuel < 0) = true := by simpa using h1
      go_enter Try.func23, Try.ntmps23
      go_wp2_with (go_at_call 7; go_must (refine Calls.mono HC.out ?_; rintro e w2 ⟨rfl, hg⟩))
      go_ret2
      exact ⟨rfl, hg⟩
    · have b1 : decide (fuel < 0) = false := by simpa using h1
      by_cases h2 : 8 < fuel
      · rw [if_pos (.inr h2)]
        have b2 : decide (8 < fuel) = true := by simpa using h2
        clear h1 h2
        go_enter Try.func23, Try.ntmps23
        go_wp2_with (go_at_call 7; go_must (refine Calls.mono HC.out ?_; rintro e w2 ⟨rfl, hg⟩))
        go_ret2
        exact ⟨rfl, hg⟩
      · rw [if_neg (by omega)]
        have b2 : decide (8 < fuel) = false := by simpa using h2
        clear h1 h2
        go_enter Try.func23, Try.ntmps23
        go_wp2_with (go_at_call 7; go_must (refine Calls.mono HC.out ?_; rintro e w2 ⟨rfl, hg⟩))
        go_ret2
        exact ⟨rfl, hg⟩
  · rw [if_neg h0]
    have HC : Hid _ := hc
    clear hc
    generalize (chk s).1 = q at *
    generalize (chk s).2 = p at *
    have b0 : (q == 0) = false := by simpa using h0
    clear h0
    go_enter Try.func23, Try.ntmps23
    go_wp2_with (go_at_call 7; go_must (refine Calls.mono HC.out ?_; rintro e w2 ⟨rfl, hg⟩))
    go_ret2
    exact ⟨rfl, hg⟩
end Go.Proofs.Ytifidfgihpkgcaa

set_option linter.unusedSimpArgs false
set_option linter.unusedVariables false
namespace Go.Proofs.Ytifidfgihpkgcaa
open Go.Shelf Go.RowKit Wv

theorem info_builder : (Try.prog.info? 110).map (·.size) = some 2 := by kernel_rfl
theorem lies_builder : liesAt Try.prog Try.prog.depth 110 (2 / Try.prog.cellsOf 110) 0 110 1 = true := by kernel_rfl

set_option maxHeartbeats 400000 in
set_option maxRecDepth 100000 in
theorem copyCheck_used (b : Nat) (w : World) (h0 : w.cell? ⟨b, 0, none⟩ = some (.pointer (some ⟨b, 0, none⟩))) :
    Calls Try.prog 65 #[.pointer (some ⟨b, 0, none⟩)] w fun e w' => e = .returned (.tuple #[]) ∧ w' = w := by
  obtain ⟨j, hj, _⟩ := Option.map_eq_some_iff.1 info_builder
  go_enter Try.func65, Try.ntmps65
  go_wp2_with fail
  rw [Lib.run_neq_ptr_same w _ Try.underlying108 hj]
  go_wp2_with fail
  go_end0
  exact ⟨rfl, rfl⟩

set_option maxHeartbeats 400000 in
set_option maxRecDepth 100000 in
theorem copyCheck_fresh (b : Nat) (w : World) (h0 : w.cell? ⟨b, 0, none⟩ = some (.pointer none)) (hsh : w.shape? b = some (110, 2)) (hfz : w.frozen? ⟨b, 0, none⟩ = false) :
    Calls Try.prog 65 #[.pointer (some ⟨b, 0, none⟩)] w fun e w' => e = .returned (.tuple #[]) ∧ w' = w.setCell ⟨b, 0, none⟩ (.pointer (some ⟨b, 0, none⟩)) := by
  obtain ⟨j, hj, hjs⟩ := Option.map_eq_some_iff.1 info_builder
  go_enter Try.func65, Try.ntmps65
  go_wp2_with fail
  rw [Lib.run_to_unsafe w ⟨b, 0, none⟩ Try.underlying108 Try.underlying124 hj (by rw [hjs]; decide) hsh (Nat.zero_lt_succ 1)]
  simp only [Result.andThen]
  rw [Oper.upon_value]
  go_wp2_with fail
  rw [run_callFunc_extern Try.func67 (by kernel_rfl) (by kernel_rfl) (by kernel_rfl) (e := Extern.AbiNoEscape.same) (by kernel_rfl)]
  rw [Lib.run_noEscape]
  simp only [Result.andThen]
  rw [Oper.upon_value]
  go_wp2_with fail
  rw [Lib.run_from_unsafe w ⟨b, 0, none⟩ Try.underlying124 Try.underlying108 hj hsh lies_builder]
  simp only [Result.andThen]
  rw [Oper.upon_value]
  go_wp2_with fail
  go_end0
  exact ⟨rfl, rfl⟩
end Go.Proofs.Ytifidfgihpkgcaa

set_option linter.unusedSimpArgs false
set_option linter.unusedVariables false
namespace Go.Proofs.Ytifidfgihpkgcaa
open Go.Shelf Go.RowKit Wv

/-- A builder that has been begun or not, whose bytes are bs; of the blocks below B nothing is its own. -/
theorem copyCheck_any (B b : Nat) (bs : List Value) (w : World) (h : Lib.IsBuilderF 110 5 B b bs w) :
    Calls Try.prog 65 #[.pointer (some ⟨b, 0, none⟩)] w fun e w' => e = .returned (.tuple #[]) ∧ Lib.BuilderAtF 110 5 B b (.pointer (some ⟨b, 0, none⟩)) bs w' ∧ Below B w w' := by
  rcases h with h | h
  · refine (copyCheck_fresh b w h.cell0 h.shape h.frozen0).mono ?_
    rintro e w' ⟨rfl, rfl⟩
    exact ⟨rfl, h.used _, (Below.refl B w).setCell (p := ⟨b, 0, none⟩) h.1 _⟩
  · refine (copyCheck_used b w h.cell0).mono ?_
    rintro e w' ⟨rfl, rfl⟩
    exact ⟨rfl, h, Below.refl B _⟩

theorem info_byte : (Try.prog.info? 5).map (fun i => (i.zero, i.size, i.bytes)) = some (some (.int .u8 0), 1, 1) := by kernel_rfl

set_option maxHeartbeats 1000000 in
set_option maxRecDepth 100000 in
theorem writeByte_any (B b : Nat) (bs : List Value) (c : Int) (w : World) (h : Lib.IsBuilderF 110 5 B b bs w) (hlen : bs.length + 1 ≤ 140737488355328) (hBw : B ≤ w.heap.size) :
    Calls Try.prog 55 #[.pointer (some ⟨b, 0, none⟩), .int .u8 c] w fun e w' => e = .returned .nilIface ∧ Lib.IsBuilderF 110 5 B b (bs ++ [.int .u8 c]) w' ∧ Below B w w' := by
  obtain ⟨i0, hi, hz0, hz1, hz2⟩ := info_parts info_byte
  go_enter Try.func55, Try.ntmps55
  go_wp2_with (go_at_call 65; refine (copyCheck_any B b bs _ h).mono ?_)
  rintro e w1 ⟨rfl, h1, hb1⟩
  obtain ⟨hB, v, hbk, hown, hne⟩ := h1
  have c0 : w1.cell? ⟨b, 0, none⟩ = some (.pointer (some ⟨b, 0, none⟩)) := by rw [Lib.cell_of_heap hbk]; rfl
  have c1 : w1.cell? ⟨b, 1, none⟩ = some v := by rw [Lib.cell_of_heap hbk]; rfl
  go_wp2_with (at_builtin; refine wpList_append_ownF _ rfl _ _ 95 rfl B 5 i0 (.int .u8 0) 1 1 Try.underlying95 hi hz0 hz1 hz2 rfl (by decide) _ _ _ rfl (hown.alloc _) ⟨w1.heap.size, 0, none⟩ 1 1 [.int .u8 c] rfl rfl ?c1 ?c2 ?c3 ?c4 ?c5 ?_)
  case c1 =>
    intro j u hj
    match j, hj with
    | 0, hj => simp at hj; subst hj; simp [Addr.add]
  case c2 => intro u hu; simp at hu; subst hu; rfl
  case c3 => unfold maxLen; omega
  case c4 => omega
  case c5 => have := hb1.size; simp; omega
  intro v' w2 hown' hgrow _
  have hlt : b < w1.heap.size := by
    rcases Nat.lt_or_ge b w1.heap.size with h' | h'
    · exact h'
    · simp [Array.getElem?_eq_none h'] at hbk
  have hb2 : w2.heap[b]? = some (.cells #[.pointer (some ⟨b, 0, none⟩), v] 110 (0, 0)) := by
    rw [hgrow.block b (by simp; omega) (fun e => hne e.symm), Lib.alloc_old w1 _ b hlt]
    exact hbk
  have d0 : w2.cell? ⟨b, 0, none⟩ = some (.pointer (some ⟨b, 0, none⟩)) := by rw [Lib.cell_of_heap hb2]; rfl
  have d1 : w2.cell? ⟨b, 1, none⟩ = some v := by rw [Lib.cell_of_heap hb2]; rfl
  have f1 : w2.frozen? ⟨b, 1, none⟩ = false := Lib.frozen_of_heap hb2 1
  obtain ⟨g, cap, rfl⟩ : ∃ g cap, v' = .slice (some ⟨g, 0, none⟩) (bs.length + 1) cap := by
    rcases hown'.2 with ⟨_, h0⟩ | ⟨g, cap, cur, fz, hv, _⟩
    · omega
    · exact ⟨g, cap, hv⟩
  go_wp2_with fail
  go_ret
  refine ⟨rfl, .inr ?_, ?_⟩
  · exact Lib.BuilderAtF.put (T := 110) (e := 5) hB hb2 (bs' := bs ++ [.int .u8 c]) (by simpa using hown') (by decide)
  · exact ((hb1.alloc (by have := hb1.size; omega) _).grown hgrow (by have := hb1.size; simp; omega) (fun k hk => (hown.lt k hk).1)).setCell (p := ⟨b, 1, none⟩) hB _

def sbRen : Go.Shelf.Ren := ⟨fun | 169 => 56 | n => n, fun | 70 => 108 | 9 => 9 | 0 => 0 | 72 => 110 | 37 => 95 | 127 => 122 | 3 => 3 | 5 => 5 | n => n, fun | n => n⟩
theorem sbLays : Go.Proofs.Lays.n169 Try.prog sbRen := {
  mixed := by kernel_rfl
  f169 := Try.func56.trans (congrArg some (by kernel_rfl))
  t0 := Try.underlying0
  a0 := Try.isAgg0
  z0 := Try.sizeOf0
  v0 := Try.zeroValue0
  t3 := Try.underlying3
  a3 := Try.isAgg3
  z3 := Try.sizeOf3
  v3 := Try.zeroValue3
  t9 := Try.underlying9
  a9 := Try.isAgg9
  z9 := Try.sizeOf9
  v9 := Try.zeroValue9
  t37 := Try.underlying95
  a37 := Try.isAgg95
  z37 := Try.sizeOf95
  v37 := Try.zeroValue95
  t70 := Try.underlying108
  a70 := Try.isAgg108
  z70 := Try.sizeOf108
  v70 := Try.zeroValue108
  t72 := Try.underlying110
  a72 := Try.isAgg110
  z72 := Try.sizeOf110
  v72 := Try.zeroValue110
  t127 := Try.underlying122
  a127 := Try.isAgg122
  z127 := Try.sizeOf122
  v127 := Try.zeroValue122 }
theorem sbExtra : Builder.Extra Try.prog sbRen := {
  sizeBuilder := by kernel_rfl
  liesBuilder := by kernel_rfl
  t5 := Try.underlying5
  a5 := Try.isAgg5
  z5 := Try.sizeOf5
  v5 := Try.zeroValue5
  infoByte := by kernel_rfl
  cellsByte := by kernel_rfl
  sizeByte := by kernel_rfl
  neB5 := by decide }
theorem sbString_any (B b : Nat) (l : List UInt8) (w : World) (h : Lib.IsBuilderF 110 5 B b (Lib.byteCells l) w) (h0 : l ≠ []) :
    Calls Try.prog 56 #[.pointer (some ⟨b, 0, none⟩)] w fun e w' => e = .returned (.string ⟨l.toArray⟩) ∧ Below B w w' :=
  (Any.Builder_String_k sbLays sbExtra B b l w h h0).mono fun e w' hh => ⟨hh.1, hh.2.2.1⟩
end Go.Proofs.Ytifidfgihpkgcaa

set_option linter.unusedSimpArgs false
namespace Go.Proofs.Ytifidfgihpkgcaa.Wv

/-- A text of bytes, given as numbers. -/
def txt (l : List Int) : ByteArray := ⟨(l.map fun c => UInt8.ofNat c.toNat).toArray⟩
theorem txt_append (a b : List Int) : txt a ++ txt b = txt (a ++ b) := by
  apply ByteArray.ext
  simp [txt]
theorem txt_size (l : List Int) : (txt l).size = l.length := by simp [txt, ByteArray.size]

def way1 (L : List (List Nat)) (σ : Nat → Int) (who : Nat) : List Int := if letterB L σ who = 69 then [69] else [letterB L σ who, 48 + σ (who * 7 + 4)]
def wayTo (L : List (List Nat)) (σ : Nat → Int) : Nat → List Int
  | 0 => []
  | k + 1 => wayTo L σ k ++ way1 L σ k
/-- The way to end of a state. -/
def wayL (L : List (List Nat)) (σ : Nat → Int) : List Int := wayTo L σ L.length ++ [58, 48 + σ 21, 48 + σ 22, 48 + σ 23]

theorem letter_cases (L : List (List Nat)) (σ : Nat → Int) (who : Nat) : letterB L σ who = 70 ∨ letterB L σ who = 87 ∨ letterB L σ who = 69 ∨ letterB L σ who = 79 ∨ letterB L σ who = 66 := by
  unfold letterB
  split
  · simp
  split
  · simp
  split
  · simp
  split <;> simp
theorem way1_byte {L : List (List Nat)} {σ : Nat → Int} (h : Inv σ) {who : Nat} (hw : who < 3) : ∀ c ∈ way1 L σ who, 0 ≤ c ∧ c ≤ 255 := by
  intro c hc
  have h4 := h (who * 7 + 4) (by omega)
  have hl := letter_cases L σ who
  unfold way1 at hc
  split at hc
  · simp at hc; omega
  · simp at hc
    rcases hc with rfl | rfl <;> omega
theorem wayTo_byte {L : List (List Nat)} {σ : Nat → Int} (h : Inv σ) : ∀ k, k ≤ 3 → ∀ c ∈ wayTo L σ k, 0 ≤ c ∧ c ≤ 255
  | 0, _ => fun c hc => by simp [wayTo] at hc
  | k + 1, hk => fun c hc => by
    rcases List.mem_append.1 hc with h1 | h1
    · exact wayTo_byte h k (by omega) c h1
    · exact way1_byte h (by omega) c h1
theorem wayL_byte {L : List (List Nat)} {σ : Nat → Int} (h : Inv σ) (h3 : L.length ≤ 3) : ∀ c ∈ wayL L σ, 0 ≤ c ∧ c ≤ 255 := by
  intro c hc
  have h1 := h 21 (by omega)
  have h2 := h 22 (by omega)
  have h4 := h 23 (by omega)
  rcases List.mem_append.1 hc with h5 | h5
  · exact wayTo_byte h _ h3 c h5
  · simp at h5
    rcases h5 with rfl | rfl | rfl | rfl <;> omega
theorem way1_len (L : List (List Nat)) (σ : Nat → Int) (who : Nat) : (way1 L σ who).length ≤ 2 := by unfold way1; split <;> simp
theorem wayTo_len (L : List (List Nat)) (σ : Nat → Int) : ∀ k, (wayTo L σ k).length ≤ 2 * k
  | 0 => by simp [wayTo]
  | k + 1 => by
    have h1 := wayTo_len L σ k
    have h2 := way1_len L σ k
    simp [wayTo]; omega
theorem byteCells_txt (l : List Int) (h : ∀ c ∈ l, 0 ≤ c ∧ c ≤ 255) : Go.Lib.byteCells (l.map fun c => UInt8.ofNat c.toNat) = l.map (.int .u8 ·) := by
  unfold Go.Lib.byteCells
  rw [List.map_map]
  apply List.map_congr_left
  intro c hc
  have := h c hc
  simp [UInt8.toNat_ofNat']; omega
end Go.Proofs.Ytifidfgihpkgcaa.Wv

set_option linter.unusedSimpArgs false
set_option linter.unusedVariables false
namespace Go.Proofs.Ytifidfgihpkgcaa
open Go.RowKit Wv

/-- A thread's copy stands; nothing that was there has changed. -/
structure Cop (w : World) (b : Nat) (t : TypeId) (C : Array Value) (W : World) : Prop where
  box : W.heap[b]? = some (.cells C t (0, 0))
  grown : w.grownBy W none
theorem Cop.later {w W W' : World} {b : Nat} {t : TypeId} {C : Array Value} (h : Cop w b t C W) (g : W.grownBy W' none) : Cop w b t C W' :=
  ⟨(g.block b (lt_of_block h.box) (by simp)).trans h.box, grownBy_trans h.grown g⟩
theorem Cop.alloc {w W : World} {b : Nat} {t : TypeId} {C : Array Value} (h : Cop w b t C W) (o : Obj) : Cop w b t C (W.alloc o) := h.later (World.grownBy_alloc _ _ _)
theorem Cop.drew {w W : World} {b : Nat} {t : TypeId} {C : Array Value} (h : Cop w b t C W) : Cop w b t C W.drew := ⟨h.box, rgrown_drew h.grown⟩
theorem Cop.cell {w W : World} {b : Nat} {t : TypeId} {C : Array Value} (h : Cop w b t C W) (i : Nat) : W.cell? ⟨b, i, none⟩ = C[i]? := cell_of_row W b i C _ _ h.box
theorem grown_one {W w5 : World} {v : Value} {t : TypeId} (h : (W.alloc (.cells #[v] t)).grownBy w5 none) : w5.cell? ⟨W.heap.size, 0, none⟩ = some v := by
  refine h.cell ?_ (by simp)
  exact cell_of_row _ _ 0 #[v] t (0, 0) (heap_alloc_new _ _)
theorem grown_one_d {W w5 : World} {v : Value} {t : TypeId} (h : (W.alloc (.cells #[v] t)).drew.grownBy w5 none) : w5.cell? ⟨W.heap.size, 0, none⟩ = some v :=
  grown_one (W := W) (t := t) ⟨h.os, h.tape, h.output, h.size, h.block⟩

theorem alloc_drewN (w : World) (o : Obj) (n : Nat) : w.grownBy ((w.alloc o).drewN n) none := grownBy_trans (World.grownBy_alloc _ _ _) (grownBy_drewN _ _ _)
/-- Two texts in one, by a name of its own. -/
def catT (a b : List Int) : Sem Value := Op.stringOp .add (txt a) (txt b)
theorem catT_of (a b : List Int) : Op.stringOp .add (txt a) (txt b) = catT a b := rfl
theorem catT_69 (a : List Int) : Op.stringOp .add (txt a) ⟨#[69]⟩ = catT a [69] := rfl
theorem catT_79 (a : List Int) : Op.stringOp .add (txt a) ⟨#[79]⟩ = catT a [79] := rfl
theorem catT_66 (a : List Int) : Op.stringOp .add (txt a) ⟨#[66]⟩ = catT a [66] := rfl
theorem catT_58 (a : List Int) : Op.stringOp .add (txt a) ⟨#[58]⟩ = catT a [58] := rfl
attribute [local go_sem] catT_of catT_69 catT_79 catT_66 catT_58
theorem catT_run (a b : List Int) (h : a.length + b.length ≤ 1000) (W : World) : (catT a b).run Try.prog W = .ok (.string (txt (a ++ b))) W := by
  unfold catT
  rw [run_string_add_sum W (txt a) (txt b) (by rw [txt_size, txt_size]; omega), txt_append]

set_option maxHeartbeats 1000000 in
set_option maxRecDepth 100000 in
theorem rWay_any (s : ByteArray) (L : List (List Nat)) (σ : Nat → Int) (base B : Nat) (tv : Value) (vs : List Value) (w : World) (hP : RProg w base B s L tv vs) (hG : StOk L σ) (hfa : ∀ who, who < 3 → σ (who * 7 + 6) ≤ 2) :
    Calls Try.prog 25 #[tv, .agg (rst σ)] w fun e w' => e = .returned (.string (txt (wayL L σ))) ∧ w.grownBy w' none := by
  have h3 := hP.three
  have hsl := ownsRow_slice hP.own.out
  have hrow : ∀ who (hw : who < L.length), ∃ g cap bo cp, tv = .slice (some ⟨g, 0, none⟩) L.length cap ∧ g < w.heap.size ∧ w.cell? ⟨g, who, none⟩ = some (.slice bo L[who].length cp) := fun who hw => by
    obtain ⟨g, cap, bo, cp, h1, h2, h4, h5⟩ := hP.row who hw
    exact ⟨g, cap, bo, cp, h1, h2, h4⟩
  obtain ⟨ao, cap, rfl⟩ := hsl
  clear hP
  go_enter Try.func25, Try.ntmps25
  go_wp2_with fail
  go_loopw [5, 6] (fun wv iv wr => ∃ k : Nat, k ≤ L.length ∧ iv = .int .i64 (k : Int) ∧ wv = .string (txt (wayTo L σ k)) ∧ Hid (wr.heap[w.heap.size]? = some (.cells (rst σ) 45 (0, 0)) ∧ w.grownBy wr none)) (fun _ iv _ => L.length - (intOf iv).toNat)
  case atStart => exact ⟨0, Nat.zero_le _, rfl, rfl, heap_alloc_new _ _, World.grownBy_alloc _ _ _⟩
  case round =>
    obtain ⟨k, hk, rfl, rfl, hat⟩ := hrel
    have hlen := wayTo_len L σ k
    by_cases hlt : k < L.length
    · have hw3 : k < 3 := by omega
      have c0 := (cell_of_row wr _ _ _ _ _ hat.out.1).trans (rst_int σ (k * 7) (by omega) (by omega) (by omega) (by omega))
      have c1 := (cell_of_row wr _ _ _ _ _ hat.out.1).trans (rst_int σ (k * 7 + 1) (by omega) (by omega) (by omega) (by omega))
      have c2 := (cell_of_row wr _ _ _ _ _ hat.out.1).trans (rst_int σ (k * 7 + 2) (by omega) (by omega) (by omega) (by omega))
      have c3 := (cell_of_row wr _ _ _ _ _ hat.out.1).trans (rst_int σ (k * 7 + 3) (by omega) (by omega) (by omega) (by omega))
      have c4 := (cell_of_row wr _ _ _ _ _ hat.out.1).trans (rst_int σ (k * 7 + 4) (by omega) (by omega) (by omega) (by omega))
      have c5 := (cell_of_row wr _ _ _ _ _ hat.out.1).trans (rst_int σ (k * 7 + 5) (by omega) (by omega) (by omega) (by omega))
      have c6 := (cell_of_row wr _ _ _ _ _ hat.out.1).trans (rst_how σ k hw3)
      have i4 := hG.inv (k * 7 + 4) (by omega)
      have i6 := hG.inv (k * 7 + 6) (by omega)
      have i6b := hfa k hw3
      have HX : Hid (wayTo L σ (k + 1) = wayTo L σ k ++ way1 L σ k) := rfl
      have HD : Hid (∀ W, Calls Try.prog 37 #[.int .i64 (σ (k * 7 + 4))] W fun e w' => e = .returned (.string (txt [48 + σ (k * 7 + 4)])) ∧ W.grownBy w' none) := fun W => digit_any _ W i4.1 i4.2
      by_cases hf : σ (k * 7 + 6) = 0
      · obtain ⟨g, cp1, bo, cp, hsv, hgl, hcl⟩ := hrow k hlt
        have hlb : letterB L σ k = if σ (k * 7 + 4) = (L[k].length : Int) then 69 else if σ (k * 7 + 5) = 0 then 79 else 66 := by
          unfold letterB
          rw [thOf_in hlt, hf]
          simp
        have hh : how (σ (k * 7 + 6)) = 0 := by rw [hf]; rfl
        rw [hh] at c6
        have hcl1 := hat.out.2.cell hcl (by simp)
        have hcl2 := rcell_old hcl1
        have hgl2 : g < wr.heap.size := by have := hat.out.2.size; omega
        obtain ⟨rfl, rfl⟩ : ao = some ⟨g, 0, none⟩ ∧ cap = cp1 := by simpa using hsv
        clear hf hh i6 i6b hcl hgl hsv
        generalize L[k].length = len at *
        generalize σ (k * 7) = v0 at *
        generalize σ (k * 7 + 1) = v1 at *
        generalize σ (k * 7 + 2) = v2 at *
        generalize σ (k * 7 + 3) = v3 at *
        by_cases hE : σ (k * 7 + 4) = (len : Int)
        · have hbe : (σ (k * 7 + 4) == (len : Int)) = true := by simpa using hE
          rw [if_pos hE] at hlb
          have he : wayTo L σ (k + 1) = wayTo L σ k ++ [69] := by rw [HX.out]; simp [way1, hlb]
          have HE : Hid _ := he
          have a1 := catT_run (wayTo L σ k) [69] (by simp; omega)
          clear he HX hlb hE HD
          generalize σ (k * 7 + 4) = v4 at *
          generalize σ (k * 7 + 5) = v5 at *
          go_wp2_with fail
          go_quiet (fail)
          go_wp2_with fail
          go_roundw
          case rel => exact ⟨k + 1, by omega, by go_num, by rw [HE.out], ((alloc_drewN wr _ nq).block _ (lt_of_block hat.out.1) (by simp)).trans hat.out.1, grownBy_trans hat.out.2 (alloc_drewN wr _ nq)⟩
          case measure => simp [intOf]; omega
        · have hbe : (σ (k * 7 + 4) == (len : Int)) = false := by simpa using hE
          rw [if_neg hE] at hlb
          by_cases hO : σ (k * 7 + 5) = 0
          · have hbo : (σ (k * 7 + 5) == 0) = true := by simpa using hO
            rw [if_pos hO] at hlb
            have he : wayTo L σ (k + 1) = wayTo L σ k ++ [79, 48 + σ (k * 7 + 4)] := by rw [HX.out]; simp [way1, hlb]
            have HE : Hid _ := he
            have a1 := catT_run (wayTo L σ k) [79] (by simp; omega)
            have a2 := catT_run (wayTo L σ k ++ [79]) [48 + σ (k * 7 + 4)] (by simp; omega)
            clear he HX hlb hE hO
            generalize σ (k * 7 + 4) = v4 at *
            generalize σ (k * 7 + 5) = v5 at *
            go_wp2_with fail
            go_quiet (fail)
            go_wp2_with (go_at_call 37; go_must (refine Calls.mono (HD.out _) ?_; rintro e w5 ⟨rfl, hg5⟩; have HG5 : Hid _ := grownBy_trans (alloc_drewN wr _ nq) hg5; clear hg5))
            go_roundw
            case rel => exact ⟨k + 1, by omega, by go_num, by rw [HE.out], (HG5.out.block _ (lt_of_block hat.out.1) (by simp)).trans hat.out.1, grownBy_trans hat.out.2 HG5.out⟩
            case measure => simp [intOf]; omega
          · have hbo : (σ (k * 7 + 5) == 0) = false := by simpa using hO
            rw [if_neg hO] at hlb
            have he : wayTo L σ (k + 1) = wayTo L σ k ++ [66, 48 + σ (k * 7 + 4)] := by rw [HX.out]; simp [way1, hlb]
            have HE : Hid _ := he
            have a1 := catT_run (wayTo L σ k) [66] (by simp; omega)
            have a2 := catT_run (wayTo L σ k ++ [66]) [48 + σ (k * 7 + 4)] (by simp; omega)
            clear he HX hlb hE hO
            generalize σ (k * 7 + 4) = v4 at *
            generalize σ (k * 7 + 5) = v5 at *
            go_wp2_with fail
            go_quiet (fail)
            go_wp2_with (go_at_call 37; go_must (refine Calls.mono (HD.out _) ?_; rintro e w5 ⟨rfl, hg5⟩; have HG5 : Hid _ := grownBy_trans (alloc_drewN wr _ nq) hg5; clear hg5))
            go_roundw
            case rel => exact ⟨k + 1, by omega, by go_num, by rw [HE.out], (HG5.out.block _ (lt_of_block hat.out.1) (by simp)).trans hat.out.1, grownBy_trans hat.out.2 HG5.out⟩
            case measure => simp [intOf]; omega
      · have HE : Hid (wayTo L σ (k + 1) = wayTo L σ k ++ [how (σ (k * 7 + 6)), 48 + σ (k * 7 + 4)]) := by
          rw [HX.out]
          have : way1 L σ k = [how (σ (k * 7 + 6)), 48 + σ (k * 7 + 4)] := by
            unfold way1 letterB how
            rcases (show σ (k * 7 + 6) = 1 ∨ σ (k * 7 + 6) = 2 from by omega) with h | h <;> simp [h]
          rw [this]; rfl
        have hh : 0 ≤ how (σ (k * 7 + 6)) ∧ how (σ (k * 7 + 6)) ≤ 255 ∧ (how (σ (k * 7 + 6)) == 0) = false := by
          unfold how
          rcases (show σ (k * 7 + 6) = 1 ∨ σ (k * 7 + 6) = 2 from by omega) with h | h <;> simp [h]
        obtain ⟨hh0, hh1, hh2⟩ := hh
        clear hf i6 i6b HX
        generalize σ (k * 7) = v0 at *
        generalize σ (k * 7 + 1) = v1 at *
        generalize σ (k * 7 + 2) = v2 at *
        generalize σ (k * 7 + 3) = v3 at *
        generalize σ (k * 7 + 4) = v4 at *
        generalize σ (k * 7 + 5) = v5 at *
        generalize how (σ (k * 7 + 6)) = v6 at *
        have hcv : ∀ W p c, W.cell? ⟨p, 0, none⟩ = some (.int .u8 v6) → (convert 95 9 (.slice (some ⟨p, 0, none⟩) 1 c)).run Try.prog W = .ok (.string (txt [v6])) W := fun W p c => conv1 W p c v6 hh0 hh1
        go_wp2_with fail
        obtain ⟨C, hC⟩ : ∃ C : Array Value, C = #[.int .i64 v0, .int .i64 v1, .int .i64 v2, .int .i64 v3, .int .i64 v4, .int .i64 v5, .int .u8 v6] := ⟨_, rfl⟩
        have hst : Cop wr wr.heap.size 40 C ((wr.alloc (.cells #[.int .i64 v0, .int .i64 v1, .int .i64 v2, .int .i64 v3, .int .i64 v4, .int .i64 v5, .int .u8 v6] 40)).drew) := by subst hC; exact ⟨heap_alloc_new _ _, rgrown_drew (World.grownBy_alloc _ _ _)⟩
        have h6 : ∀ W, Cop wr wr.heap.size 40 C W → W.cell? ⟨wr.heap.size, 6, none⟩ = some (.int .u8 v6) := by subst hC; exact fun W h => h.cell 6
        have h4 : ∀ W, Cop wr wr.heap.size 40 C W → W.cell? ⟨wr.heap.size, 4, none⟩ = some (.int .i64 v4) := by subst hC; exact fun W h => h.cell 4
        clear hC c0 c1 c2 c3 c4 c5 c6
        have a1 := catT_run (wayTo L σ k) [v6] (by simp; omega)
        have a2 := catT_run (wayTo L σ k ++ [v6]) [48 + v4] (by simp; omega)
        refine wp_region_noPanic ?_
        go_region_held (fun W => Cop wr wr.heap.size 40 C W) (first | assumption | exact Cop.later ‹Cop _ _ _ _ _› ‹World.grownBy _ _ _› | exact Cop.alloc ‹Cop _ _ _ _ _› _) (first | (go_at_call 37; refine Calls.mono (HD.out _) ?_; rintro e w5 ⟨rfl, hg5⟩; try (have hz := grown_one_d hg5; simp at hz)))
        all_goals
          refine NoPanic.normal ?_
          go_wp2_with fail
          go_roundw
          case rel => exact ⟨k + 1, by omega, by go_num, by rw [HE.out], (((‹Cop _ _ _ _ _›).grown).block _ (lt_of_block hat.out.1) (by simp)).trans hat.out.1, grownBy_trans hat.out.2 (‹Cop _ _ _ _ _›).grown⟩
          case measure => simp [intOf]; omega
    · have hkL : k = L.length := by omega
      have i1 := hG.inv 21 (by omega)
      have i2 := hG.inv 22 (by omega)
      have i3 := hG.inv 23 (by omega)
      have D : Hid (∀ n, 0 ≤ n ∧ n ≤ 9 → ∀ W, Calls Try.prog 37 #[.int .i64 n] W fun e w' => e = .returned (.string (txt [48 + n])) ∧ W.grownBy w' none) := fun n hn W => digit_any _ W hn.1 hn.2
      have HW : Hid (wayL L σ = wayTo L σ k ++ [58] ++ [48 + σ 21] ++ [48 + σ 22] ++ [48 + σ 23]) := by rw [hkL]; show _ = _; simp [wayL]
      have hst : Cop w w.heap.size 45 (rst σ) wr.drew := ⟨hat.out.1, rgrown_drew hat.out.2⟩
      have e1 : ∀ W, Cop w w.heap.size 45 (rst σ) W → W.cell? ⟨w.heap.size, 21, none⟩ = some (.int .i64 (σ 21)) := fun W h => (h.cell 21).trans (rst_int σ 21 (by omega) (by omega) (by omega) (by omega))
      have e2 : ∀ W, Cop w w.heap.size 45 (rst σ) W → W.cell? ⟨w.heap.size, 22, none⟩ = some (.int .i64 (σ 22)) := fun W h => (h.cell 22).trans (rst_int σ 22 (by omega) (by omega) (by omega) (by omega))
      have e3 : ∀ W, Cop w w.heap.size 45 (rst σ) W → W.cell? ⟨w.heap.size, 23, none⟩ = some (.int .i64 (σ 23)) := fun W h => (h.cell 23).trans (rst_int σ 23 (by omega) (by omega) (by omega) (by omega))
      have a1 := catT_run (wayTo L σ k) [58] (by simp; omega)
      have a2 := catT_run (wayTo L σ k ++ [58]) [48 + σ 21] (by simp; omega)
      have a3 := catT_run (wayTo L σ k ++ [58] ++ [48 + σ 21]) [48 + σ 22] (by simp; omega)
      have a4 := catT_run (wayTo L σ k ++ [58] ++ [48 + σ 21] ++ [48 + σ 22]) [48 + σ 23] (by simp; omega)
      simp only [List.append_assoc, List.cons_append, List.nil_append] at a1 a2 a3 a4 HW
      clear hrow hG hfa hkL
      go_wp2_with fail
      refine wp_region_noPanic ?_
      go_region_held (fun W => Cop w w.heap.size 45 (rst σ) W) (first | assumption | exact Cop.later ‹Cop _ _ _ _ _› ‹World.grownBy _ _ _›) (first | (go_at_call 37; refine Calls.mono (D.out _ (by first | exact i1 | exact i2 | exact i3) _) ?_; rintro e w5 ⟨rfl, hg5⟩))
      all_goals
        refine NoPanic.normal ?_
        go_wp2_with fail
        go_ret
        rw [HW.out]
        exact ⟨rfl, (‹Cop _ _ _ _ _›).grown⟩
end Go.Proofs.Ytifidfgihpkgcaa

set_option linter.unusedSimpArgs false
set_option linter.unusedVariables false
namespace Go.Proofs.Ytifidfgihpkgcaa
open Go.RowKit Wv

theorem run_look {w : World} {mb : Nat} {c : Int} {v : Value} {j : Nat} (hb : w.heap[mb]? = some (.map deedEntries 10)) (hf : Instr.findNow (.int .u8) (.int .u8 c) deedEntries.toList 0 = some (some (j, v))) :
    (Instr.lookup 59 (.map (some mb)) (.int .u8 c) false).run Try.prog w = .ok v w := by
  have hc : (Instr.checkKey deedEntries.isEmpty 10000 5 (.int .u8 c)).run Try.prog w = .ok () w := MapKept.run_checkKey (k := .int .u8 c) Try.underlying5 (by simp [MapKept.IsKey]) _ 9999
  simp [Instr.lookup, run_underlying Try.underlying59, MapKept.run_getObj_map hb, hc, MapKept.run_findKey Try.underlying5 hf, Result.andThen]

/-- Behind nextStep: the machine's block, the state's, the result's; all else as it was. -/
structure TurnAt (w w1 : World) (tv : Value) (mb : Nat) (σ : Nat → Int) (Z : Obj) : Prop where
  m : w1.heap[w.heap.size]? = some (.cells #[tv, .map (some mb)] 61 (0, 0))
  st : w1.heap[w.heap.size + 1]? = some (.cells (cst σ) 72 (0, 0))
  res : w1.heap[w.heap.size + 2]? = some Z
  deeds : w1.heap[mb]? = some (.map deedEntries 10)
  old : mb < w.heap.size
  grow : w.grownBy w1 none

theorem TurnAt.mk' {w w1 : World} {tv : Value} {mb : Nat} {σ : Nat → Int} {Z : Obj} (hd : w.heap[mb]? = some (.map deedEntries 10))
    (hg : (((w.alloc (.cells #[tv, .map (some mb)] 61)).alloc (.cells (cst σ) 72)).alloc Z).grownBy w1 none) : TurnAt w w1 tv mb σ Z := by
  have h := keep3 hg
  have hlt := lt_of_block hd
  exact ⟨h.1, h.2.1, h.2.2.1, (h.2.2.2.block mb hlt (by simp)).trans hd, hlt, h.2.2.2⟩

/-- .. and behind the step's copy, the fuel and the next step. -/
theorem TurnAt.two {w w1 : World} {tv : Value} {mb : Nat} {σ : Nat → Int} {Z : Obj} (h : TurnAt w w1 tv mb σ Z) (X : Obj) (who : Nat) :
    let W := ((w1.setCell ⟨w.heap.size + 1, who * 7 + 5, none⟩ (.int .u8 (σ (who * 7 + 5) - 1))).setCell ⟨w.heap.size + 1, who * 7 + 4, none⟩ (.int .u8 (σ (who * 7 + 4) + 1))).alloc X
    W.heap[w.heap.size + 1]? = some (.cells (cst (pre σ who)) 72 (0, 0)) ∧ W.heap[w.heap.size + 2]? = some Z ∧ W.heap[mb]? = some (.map deedEntries 10) ∧ w.grownBy W none := by
  have hlt := h.old
  have h1 := lt_of_block h.st
  have h2 := lt_of_block h.res
  have h3 := lt_of_block h.deeds
  have hsz : ((w1.setCell ⟨w.heap.size + 1, who * 7 + 5, none⟩ (.int .u8 (σ (who * 7 + 5) - 1))).setCell ⟨w.heap.size + 1, who * 7 + 4, none⟩ (.int .u8 (σ (who * 7 + 4) + 1))).heap.size = w1.heap.size := by simp
  refine ⟨?_, ?_, ?_, ?_⟩
  · rw [heap_alloc_old _ _ (by omega)]
    have e2 := heap_setCell_same h.st (who * 7 + 5) (.int .u8 (σ (who * 7 + 5) - 1))
    rw [cst_set] at e2
    have e3 := heap_setCell_same e2 (who * 7 + 4) (.int .u8 (σ (who * 7 + 4) + 1))
    rw [cst_set] at e3
    exact e3
  · rw [heap_alloc_old _ _ (by omega), heap_setCell_other _ _ _ _ (by simp), heap_setCell_other _ _ _ _ (by simp)]; exact h.res
  · rw [heap_alloc_old _ _ (by omega), heap_setCell_other _ _ _ _ (by simp; omega), heap_setCell_other _ _ _ _ (by simp; omega)]; exact h.deeds
  · have e : w1.grownBy (((w1.setCell ⟨w.heap.size + 1, who * 7 + 5, none⟩ (.int .u8 (σ (who * 7 + 5) - 1))).setCell ⟨w.heap.size + 1, who * 7 + 4, none⟩ (.int .u8 (σ (who * 7 + 4) + 1))).alloc X) (some (w.heap.size + 1)) :=
      grownBy_trans (grownBy_trans (grownBy_setCell _ _ _ _) (grownBy_setCell _ _ _ _)) (World.grownBy_alloc _ X _)
    exact grownBy_new h.grow e (fun r er => by simp at er; omega)
theorem TurnAt.after {w w1 w2 : World} {tv : Value} {mb : Nat} {σ : Nat → Int} {Z : Obj} (h : TurnAt w w1 tv mb σ Z) {X : Obj} {who : Nat}
    (hg : (((w1.setCell ⟨w.heap.size + 1, who * 7 + 5, none⟩ (.int .u8 (σ (who * 7 + 5) - 1))).setCell ⟨w.heap.size + 1, who * 7 + 4, none⟩ (.int .u8 (σ (who * 7 + 4) + 1))).alloc X).grownBy w2 none) :
    w2.heap[w.heap.size + 2]? = some Z ∧ w.grownBy w2 none := by
  have h2 := h.two X who
  exact ⟨(hg.block _ (lt_of_block h2.2.1) (by simp)).trans h2.2.1, grownBy_trans h2.2.2.2 hg⟩

end Go.Proofs.Ytifidfgihpkgcaa

set_option linter.unusedSimpArgs false
set_option linter.unusedVariables false
namespace Go.Proofs.Ytifidfgihpkgcaa
open Go.RowKit Wv

set_option maxHeartbeats 1000000 in
set_option maxRecDepth 100000 in
theorem turn_61 (s : ByteArray) (L : List (List Nat)) (σ τ : Nat → Int) (who base B : Nat) (tv : Value) (mb : Nat) (vs : List Value) (w : World) (hM : OwnT w base 89 102 7 (ccells s) B tv vs L)
    (hmb : w.heap[mb]? = some (.map deedEntries 10)) (hw3 : who < 3) (hw : who < L.length) (hn : σ (who * 7 + 4) = (nx σ who : Int)) (hk : nx σ who < L[who].length) (h8 : L[who].length ≤ 8)
    (f0 : 1 ≤ σ (who * 7 + 5)) (f1 : σ (who * 7 + 5) ≤ 9) (hc : pk s (stp L σ who) = 61)
    (hdeed : ∀ W, Calls Try.prog 41 #[.agg (cst (pre σ who)), .int .i64 (who : Int), .agg (ccells s (stp L σ who)).toArray] W fun e w' => e = .returned (.agg (cst τ)) ∧ W.grownBy w' none) :
    Calls Try.prog 34 #[.agg #[tv, .map (some mb)], .agg (cst σ), .int .i64 (who : Int)] w fun e w' =>
      e = .returned (.agg (cst τ)) ∧ w.grownBy w' none := by
  have HN : Hid (∀ A C D, Calls Try.prog 53 #[.agg #[tv, .map (some mb)], .agg (cst σ), .int .i64 (who : Int)] (((w.alloc A).alloc C).alloc D) fun e w' => e = .returned (.agg (ccells s (stp L σ who)).toArray) ∧ (((w.alloc A).alloc C).alloc D).grownBy w' none) :=
    fun A C D => nextStep_any s L σ who base B tv _ vs _ (hM.kept (grown3 w A C D) (Classical.em _) (by simp)) rfl hw3 hw hn hk h8
  obtain ⟨ao, cap, rfl⟩ := ownsRow_slice hM.out
  have hn4 : 0 ≤ σ (who * 7 + 4) ∧ σ (who * 7 + 4) ≤ 7 := by omega
  clear hM hn hk h8
  generalize stp L σ who = x at *
  obtain ⟨y1, y2, y3, y4, y5, y6, hcc⟩ : ∃ y1 y2 y3 y4 y5 y6, ccells s x = [.int .u8 61, .int .u8 y1, .int .u8 y2, .int .u8 y3, .int .u8 y4, .int .u8 y5, .int .i64 y6] := ⟨_, _, _, _, _, _, by unfold ccells; rw [hc]⟩
  rw [hcc] at hdeed
  have HD : Hid _ := hdeed
  have HN2 : Hid (∀ A C D, Calls Try.prog 53 #[.agg #[.slice ao L.length cap, .map (some mb)], .agg (cst σ), .int .i64 (who : Int)] (((w.alloc A).alloc C).alloc D) fun e w' => e = .returned (.agg #[.int .u8 61, .int .u8 y1, .int .u8 y2, .int .u8 y3, .int .u8 y4, .int .u8 y5, .int .i64 y6]) ∧ (((w.alloc A).alloc C).alloc D).grownBy w' none) := by
    have := HN.out
    rw [hcc] at this
    exact this
  clear HN hcc hdeed hc
  have g5 := cst_get σ (who * 7 + 5) (by omega)
  have g4 := cst_get σ (who * 7 + 4) (by omega)
  have HMB : Hid _ := hmb
  clear hmb
  go_enter Try.func34, Try.ntmps34
  go_wp2_with (refine wpList_load_row rfl 72 (.tmp 4) rfl (w.heap.size + 1) ?_ 72 (cst σ) (0, 0) _ ?_ Try.underlying72 rfl (info_state _) ?_; rfl; exact (heap3 _ _ _ _).2.1)
  refine Calls.mono (HN2.out _ _ _) ?_
  rintro e w1 ⟨rfl, hg⟩
  have hT := TurnAt.mk' HMB.out hg
  obtain ⟨m0, m1, mf⟩ := blk2 hT.m
  have c5 := cell_of_row w1 (w.heap.size + 1) (who * 7 + 5) _ _ _ hT.st
  have c4 := cell_of_row w1 (w.heap.size + 1) (who * 7 + 4) _ _ _ hT.st
  rw [g5] at c5
  rw [g4] at c4
  have fz := fun o => frozen_of_row w1 (w.heap.size + 1) o _ _ hT.st
  have lt1 : w.heap.size + 1 < w1.heap.size := lt_of_block hT.st
  have lt0 : w.heap.size < w1.heap.size := by omega
  have hlook : ∀ X, (Instr.lookup 59 (.map (some mb)) (.int .u8 61) false).run Try.prog (((w1.setCell ⟨w.heap.size + 1, who * 7 + 5, none⟩ (.int .u8 (σ (who * 7 + 5) - 1))).setCell ⟨w.heap.size + 1, who * 7 + 4, none⟩ (.int .u8 (σ (who * 7 + 4) + 1))).alloc X) = .ok (.func (.func 41) #[] #[]) (((w1.setCell ⟨w.heap.size + 1, who * 7 + 5, none⟩ (.int .u8 (σ (who * 7 + 5) - 1))).setCell ⟨w.heap.size + 1, who * 7 + 4, none⟩ (.int .u8 (σ (who * 7 + 4) + 1))).alloc X) :=
    fun X => run_look (j := 0) (hT.two X who).2.2.1 rfl
  have HT : Hid _ := hT
  clear hg hT HN2 HMB
  go_wp2_with (first | (refine wpList_load_row rfl 72 (.tmp 4) rfl (w.heap.size + 1) ?_ 72 (cst (pre σ who)) (0, 0) _ ?_ Try.underlying72 rfl (info_state _) ?_; rfl; exact (HT.out.two _ who).1) | (go_at_call 41; go_must (refine Calls.mono (HD.out _) ?_; rintro e w2 ⟨rfl, hg2⟩; have HA : Hid _ := HT.out.after hg2; clear hg2)) | (refine wpList_store_row rfl 72 (.tmp 6) (.tmp 38) rfl (w.heap.size + 1 + 1) (cst τ) ?_ ?_ 72 _ HA.out.1 (info_state _) ?_ (cst_oneCell _) ?_; rfl; rfl; (rw [cst_size]; rfl)))
  refine bodyPost_ret (v := .agg (cst τ)) (results_cell_row Try.results34 _ _ (w.heap.size + 1 + 1) 72 _ (0, 0) _ rfl (setRow_heap _ _ _ _ 72 (0, 0) HA.out.1) Try.underlying72 rfl (info_state _)) rfl ⟨rfl, ?_⟩
  exact grownBy_setRow HA.out.2 (by omega) _

end Go.Proofs.Ytifidfgihpkgcaa

