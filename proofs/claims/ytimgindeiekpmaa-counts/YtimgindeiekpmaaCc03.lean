import Derived.Test.YtimgindeiekpmaaCc02
set_option linter.unusedSimpArgs false
set_option linter.unusedVariables false
namespace Go.Proofs.Ytimgindeiekpmaa
open Go.RowKit Wv

/-- The read of a whole state, by a name of its own: the walk does not open it. -/
def loadSt (v : Value) : Sem Value := Instr.loadAt 88 v
theorem loadSt_of (v : Value) : Instr.loadAt 88 v = loadSt v := rfl
theorem ClAt.load {w0 w W : World} {R : Array Value} {σ : Nat → Int} {rv : Value} {n : Nat} {xs : List Value} (h : ClAt w0 w R (cst σ) rv n xs W) :
    Sem.run Try.prog (loadSt (.pointer (some ⟨w.heap.size + 1, 0, none⟩))) W = .ok (.agg (cst σ)) W := by
  unfold loadSt
  simp only [Instr.loadAt, Instr.sureAddr, Sem.run_bind, Sem.run_pure, Result.andThen_ok, run_loadVar_row _ _ 88 _ _ (0, 0) _ h.st Try.underlying88 rfl (info_state σ)]
attribute [local go_sem ↓] loadSt_of

set_option maxHeartbeats 4000000 in
set_option maxRecDepth 100000 in
theorem classes_more (s : ByteArray) (L : List (List Nat)) (w0 : World) (base0 B0 : Nat) (tv : Value) (mb : Nat) (vs : List Value) (hP : Prog w0 base0 B0 s L tv vs) (hmb : w0.heap[mb]? = some (.map deedEntries 10)) (hL : PL s L) (f : Nat) (σ : Nat → Int) (row : List (Nat × Nat)) (c : Nat) (rv : Value) (w : World)
    (h0 : w0.grownBy w none) (ho : w.ownsRow w0.heap.size 146 8 rv row.length (rowC (ccells s) row)) (hO : Ok L σ) (hlen : row.length ≤ 24) (hc : c ≤ 300) (hgood : ∀ k, k < row.length → stepBad s (mAt row k).2 = none) (hov : overB s L σ = false)
    (IH : ∀ who, who < L.length → mayB s L σ who = true → lateK s row who (stp L σ who) row.length = false → ∀ (c' : Nat) (rv' : Value) (W : World), c' ≤ 300 → w0.grownBy W none → W.ownsRow w0.heap.size 146 8 rv' (row.length + 1) (rowC (ccells s) (row ++ [(who, stp L σ who)])) →
      Calls Try.prog 56 #[.agg #[tv, .map (some mb)], .agg (cst (turnF s L σ who)), rv', .int .i64 (c' : Int)] W (ClsPost w0 W rv' (row.length + 1) (rowC (ccells s) (row ++ [(who, stp L σ who)])) c' (cnt s L f (turnF s L σ who) (row ++ [(who, stp L σ who)])))) :
    Calls Try.prog 56 #[.agg #[tv, .map (some mb)], .agg (cst σ), rv, .int .i64 (c : Int)] w (ClsPost w0 w rv row.length (rowC (ccells s) row) c (sumTo (cntW s L f σ row) L.length)) := by
  have h3 := hP.three
  obtain ⟨ao, cap, rfl⟩ := ownsRow_slice hP.own.out
  have HS : Hid (∀ W, w0.grownBy W none → Calls Try.prog 63 #[.agg #[.slice ao L.length cap, .map (some mb)], .agg (cst σ)] W fun e w' => e = .returned (.bool true) ∧ W.grownBy w' none) := fun W hW => by
    have := someMayGoOn_any s L σ base0 B0 _ (.map (some mb)) vs W (hP.kept hW) rfl hO.st
    rw [hov] at this; exact this
  have HM : Hid (∀ who, who < L.length → ∀ W, w0.grownBy W none → Calls Try.prog 61 #[.agg #[.slice ao L.length cap, .map (some mb)], .agg (cst σ), .int .i64 (who : Int)] W fun e w' => e = .returned (.bool (mayB s L σ who)) ∧ W.grownBy w' none) :=
    fun who hw W hW => may_call (hP.kept hW) rfl hO.st who hw
  have HN : Hid (∀ who, who < L.length → mayB s L σ who = true → ∀ W, w0.grownBy W none → Calls Try.prog 74 #[.agg #[.slice ao L.length cap, .map (some mb)], .agg (cst σ), .int .i64 (who : Int)] W fun e w' => e = .returned (.agg (ccells s (stp L σ who)).toArray) ∧ W.grownBy w' none) :=
    fun who hw hm W hW => nextStep_any s L σ who base0 B0 _ (.map (some mb)) vs W (hP.kept hW).own rfl (by omega) hw (hO.st.nx (by omega)) (may_out hO.st (by omega) hw hm).1 (hP.eight _ (List.getElem_mem hw))
  have HTT : Hid (∀ who, who < L.length → mayB s L σ who = true → ∀ W, w0.grownBy W none → Calls Try.prog 62 #[.agg #[.slice ao L.length cap, .map (some mb)], .agg (cst σ), .int .i64 (who : Int)] W fun e w' => e = .returned (.agg (cst (turnF s L σ who))) ∧ W.grownBy w' none) :=
    fun who hw hm W hW => turn_any s L σ who base0 B0 _ mb vs W (hP.kept hW).own ((hW.block _ (lt_of_block hmb) (by simp)).trans hmb) (by omega) hw hO.st (hP.eight _ (List.getElem_mem hw)) (hP.good _ (List.getElem_mem hw)) hm
  have HSB : Hid (∀ who, who < L.length → mayB s L σ who = true → stepBad s (stp L σ who) = none) := fun who hw hm => hP.good _ (List.getElem_mem hw) _ (stp_mem h3 hO hw hm)
  obtain ⟨bo, cp, rfl⟩ := ownsRow_slice ho
  have HY : Hid (∀ who, who < L.length → mayB s L σ who = true → ∀ W, W.ownsRow w0.heap.size 146 8 (.slice bo row.length cp) row.length (rowC (ccells s) row) → Calls Try.prog 75 #[.slice bo row.length cp, .agg (madeK s who (stp L σ who)).toArray] W fun e w' => e = .returned (.bool (!lateK s row who (stp L σ who) row.length)) ∧ W.grownBy w' none) :=
    fun who hw hm W hW => stays_any s row who (stp L σ who) _ _ W hW (by omega) hgood (HSB.out who hw hm)
  have HX : Hid _ := ClAt.start h0 ho #[.slice ao L.length cap, .map (some mb)] (cst σ)
  have HLT : Hid (∀ r, Value.ownBlock (.slice bo row.length cp) = some r → r < w.heap.size) := fun r e => (ho.lt r e).2
  have HB0 : Hid (w0.heap.size ≤ w.heap.size) := h0.size
  have HI : Hid _ := IH
  clear hP ho hov h0 hmb hL hgood IH HSB
  unfold ClsPost
  go_enter Try.func56, Try.ntmps56
  go_wp2_with (first | (refine ld_row 88 (.tmp 5) (w.heap.size + 1) ?_ (cst σ) ?_ Try.underlying88 rfl (info_state _) ?_; rfl; first | exact HX.out.st | exact HA.out.st | exact HA1.out.st) | (go_at_call 63; go_must (refine Calls.mono (HS.out _ HX.out.pg) ?_; rintro e1 w1 ⟨rfl, hg1⟩; have hx1 := HX.out.later hg1; obtain ⟨m0, m1, mf⟩ := blk2 hx1.mach; have HX1 : Hid _ := hx1; clear hg1 hx1)))
  go_loopw [3, 24] (fun cv iv wr => ∃ k C : Nat, k ≤ L.length ∧ iv = .int .i64 (k : Int) ∧ cv = .int .i64 (C : Int) ∧ Hid (C = c + sumTo (cntW s L f σ row) k) ∧ C ≤ 300 ∧ Hid (ClAt w0 w #[.slice ao L.length cap, .map (some mb)] (cst σ) (.slice bo row.length cp) row.length (rowC (ccells s) row) wr)) (fun _ iv _ => L.length - (intOf iv).toNat)
  case atStart => exact ⟨0, c, Nat.zero_le _, rfl, rfl, rfl, hc, HX1.out⟩
  case round =>
    clear m0 m1 mf HX1 HX HS
    obtain ⟨k, C, hk, rfl, rfl, HC, hle, hat⟩ := hrel
    by_cases hp : k < L.length
    · obtain ⟨m0, m1, mf⟩ := blk2 hat.out.mach
      have HA : Hid _ := hat.out
      cases hmay : mayB s L σ k with
      | false =>
        have hz : cntW s L f σ row k = 0 := by unfold cntW; rw [hmay]; rfl
        have hs : sumTo (cntW s L f σ row) (k + 1) = sumTo (cntW s L f σ row) k := by rw [sumTo, hz]; rfl
        have HSUM : Hid (C = c + sumTo (cntW s L f σ row) (k + 1)) := by rw [hs]; exact HC.out
        have hMC := HM.out k hp
        rw [hmay] at hMC
        have HMC : Hid _ := hMC
        clear hz hs hmay hMC hat
        go_wp2_with (first | (refine ld_row 88 (.tmp 5) (w.heap.size + 1) ?_ (cst σ) ?_ Try.underlying88 rfl (info_state _) ?_; rfl; first | exact HX.out.st | exact HA.out.st | exact HA1.out.st) | (go_at_call 61; go_must (refine Calls.mono (HMC.out _ HA.out.pg) ?_; rintro e2 w2 ⟨rfl, hg2⟩; have HA2 : Hid _ := HA.out.later hg2; clear hg2)))
        go_roundw
        case rel => exact ⟨k + 1, C, by omega, by first | rfl | go_num, rfl, HSUM.out, hle, HA2.out⟩
        case measure => simp [intOf]; omega
      | true =>
        have hMC := HM.out k hp
        rw [hmay] at hMC
        have HMC : Hid _ := hMC
        have hNC := HN.out k hp hmay
        have hYC := HY.out k hp hmay
        have HT : Hid _ := HTT.out k hp hmay
        unfold ccells at hNC
        unfold madeK ccells at hYC
        cases hlt : lateK s row k (stp L σ k) row.length with
        | true =>
          have hz : cntW s L f σ row k = 0 := by unfold cntW; rw [hmay, hlt]; rfl
          have hs : sumTo (cntW s L f σ row) (k + 1) = sumTo (cntW s L f σ row) k := by rw [sumTo, hz]; rfl
          have HSUM : Hid (C = c + sumTo (cntW s L f σ row) (k + 1)) := by rw [hs]; exact HC.out
          rw [hlt] at hYC
          have HNC : Hid _ := hNC
          have HYC : Hid _ := hYC
          clear hz hs hmay hMC hat hlt hNC hYC HI HT
          generalize stp L σ k = x at *
          go_wp2_with (first | (refine ld_row 88 (.tmp 5) (w.heap.size + 1) ?_ (cst σ) ?_ Try.underlying88 rfl (info_state _) ?_; rfl; first | exact HX.out.st | exact HA.out.st | exact HA1.out.st) | (go_at_call 61; go_must (refine Calls.mono (HMC.out _ HA.out.pg) ?_; rintro e1 w1 ⟨rfl, hg1⟩; have ha1 := HA.out.later hg1; obtain ⟨n0, n1, nf⟩ := blk2 ha1.mach; have HA1 : Hid _ := ha1; clear hg1 ha1)) | (go_at_call 74; go_must (refine Calls.mono (HNC.out _ HA1.out.pg) ?_; rintro e2 w2 ⟨rfl, hg2⟩; have HA2 : Hid _ := HA1.out.later hg2; clear hg2)) | (go_at_call 75; go_must (refine Calls.mono (HYC.out _ (HA2.out.later (World.grownBy_alloc _ _ _)).own) ?_; rintro e3 w3 ⟨rfl, hg3⟩; have HA3 : Hid _ := (HA2.out.later (World.grownBy_alloc _ _ _)).later hg3; clear hg3)))
          go_roundw
          case rel => exact ⟨k + 1, C, by omega, by first | rfl | go_num, rfl, HSUM.out, hle, HA3.out⟩
          case measure => simp [intOf]; omega
        | false =>
          have hz : cntW s L f σ row k = cnt s L f (turnF s L σ k) (row ++ [(k, stp L σ k)]) := by unfold cntW; rw [hmay, hlt]; rfl
          have hs : sumTo (cntW s L f σ row) (k + 1) = sumTo (cntW s L f σ row) k + cntW s L f σ row k := by rw [sumTo]
          have hmono := sumTo_mono (cntW s L f σ row) (show k + 1 ≤ L.length by omega)
          have hI := fun rv' W => HI.out k hp hmay hlt C rv' W hle
          unfold ClsPost at hI
          rw [← hz] at hI
          have HXS : Hid (rowC (ccells s) (row ++ [(k, stp L σ k)]) = rowC (ccells s) row ++ [.int .i64 (k : Int), .int .u8 (pk s (stp L σ k)), .int .u8 (cNum s (stp L σ k)), .int .u8 (cSec s (stp L σ k)), .int .u8 (cCell s (stp L σ k)), .int .u8 (cLock s (stp L σ k)), .int .u8 (cDig s (stp L σ k)), .int .i64 (cPl s (stp L σ k))]) := rowC_snoc (ccells s) row k (stp L σ k)
          rw [hlt] at hYC
          have HNC : Hid _ := hNC
          have HYC : Hid _ := hYC
          obtain ⟨i0, hi, hz0, hz1, hz2⟩ := info_parts info_cmade
          generalize rowC (ccells s) (row ++ [(k, stp L σ k)]) = xs2 at hI HXS
          generalize pk s (stp L σ k) = y0 at *
          generalize cNum s (stp L σ k) = y1 at *
          generalize cSec s (stp L σ k) = y2 at *
          generalize cCell s (stp L σ k) = y3 at *
          generalize cLock s (stp L σ k) = y4 at *
          generalize cDig s (stp L σ k) = y5 at *
          generalize cPl s (stp L σ k) = y6 at *
          have HONE : Hid (∀ u ∈ [Value.int .i64 (k : Int), .int .u8 y0, .int .u8 y1, .int .u8 y2, .int .u8 y3, .int .u8 y4, .int .u8 y5, .int .i64 y6], u.oneCell' = true) := fun u hu => by
            simp at hu
            rcases hu with rfl | rfl | rfl | rfl | rfl | rfl | rfl | rfl <;> rfl
          by_cases hbig : C + cntW s L f σ row k ≤ 300
          · obtain ⟨D, hD⟩ : ∃ D, D = C + cntW s L f σ row k := ⟨_, rfl⟩
            have HIH : Hid (∀ rv' W, w0.grownBy W none → W.ownsRow w0.heap.size 146 8 rv' (row.length + 1) xs2 → Calls Try.prog 56 #[.agg #[.slice ao L.length cap, .map (some mb)], .agg (cst (turnF s L σ k)), rv', .int .i64 (C : Int)] W fun e w' => (w0.grownBy w' none ∧ W.grownBy w' rv'.ownBlock ∧ w'.ownsRow w0.heap.size 146 8 rv' (row.length + 1) xs2) ∧ e = .returned (.int .i64 (D : Int))) :=
              fun rv' W a b => (hI rv' W a b).mono fun e w' hh => ⟨hh.1, by
                rcases hh.2 with ⟨_, h⟩ | ⟨h, _⟩
                · rw [hD]; exact h
                · omega⟩
            have HSUM : Hid (D = c + sumTo (cntW s L f σ row) (k + 1)) := by have hC := HC.out; show D = c + sumTo (cntW s L f σ row) (k + 1); rw [hD, hs]; omega
            have HLE : Hid (D ≤ 300) := by rw [hD]; exact hbig
            clear hz hs hmay hMC hat hlt hNC hYC HI HTT hI hbig hD hmono HM HN HY
            go_wp2_with (first | (refine ld_row 88 (.tmp 5) (w.heap.size + 1) ?_ (cst σ) ?_ Try.underlying88 rfl (info_state _) ?_; rfl; first | exact HX.out.st | exact HA.out.st | exact HA1.out.st) | (go_at_call 61; go_must (refine Calls.mono (HMC.out _ HA.out.pg) ?_; rintro e1 w1 ⟨rfl, hg1⟩; have ha1 := HA.out.later hg1; obtain ⟨n0, n1, nf⟩ := blk2 ha1.mach; have HA1 : Hid _ := ha1; clear hg1 ha1)) | (go_at_call 74; go_must (refine Calls.mono (HNC.out _ HA1.out.pg) ?_; rintro e2 w2 ⟨rfl, hg2⟩; have HA2 : Hid _ := HA1.out.later hg2; clear hg2)) | (go_at_call 75; go_must (refine Calls.mono (HYC.out _ (HA2.out.later (World.grownBy_alloc _ _ _)).own) ?_; rintro e3 w4 ⟨rfl, hg4⟩; have H4 : Hid _ := ClS.start HA2.out hg4; clear hg4)))
            have HB2 : Hid (w.heap.size ≤ w2.heap.size) := HA2.out.gr.size
            have hc0 : ∀ W, ClS w0 w #[.slice ao L.length cap, .map (some mb)] (cst σ) (.slice bo row.length cp) row.length (rowC (ccells s) row) w2.heap.size #[.int .i64 (k : Int), .int .u8 y0, .int .u8 y1, .int .u8 y2, .int .u8 y3, .int .u8 y4, .int .u8 y5, .int .i64 y6] W → W.cell? ⟨w.heap.size, 0, none⟩ = some (.slice ao L.length cap) := fun W h => (blk2 h.c.mach).1
            have hc1 : ∀ W, ClS w0 w #[.slice ao L.length cap, .map (some mb)] (cst σ) (.slice bo row.length cp) row.length (rowC (ccells s) row) w2.heap.size #[.int .i64 (k : Int), .int .u8 y0, .int .u8 y1, .int .u8 y2, .int .u8 y3, .int .u8 y4, .int .u8 y5, .int .i64 y6] W → W.cell? ⟨w.heap.size, 1, none⟩ = some (.map (some mb)) := fun W h => (blk2 h.c.mach).2.1
            have hld : ∀ W, ClS w0 w #[.slice ao L.length cap, .map (some mb)] (cst σ) (.slice bo row.length cp) row.length (rowC (ccells s) row) w2.heap.size #[.int .i64 (k : Int), .int .u8 y0, .int .u8 y1, .int .u8 y2, .int .u8 y3, .int .u8 y4, .int .u8 y5, .int .i64 y6] W → Sem.run Try.prog (loadSt (.pointer (some ⟨w.heap.size + 1, 0, none⟩))) W = .ok (.agg (cst σ)) W := fun W h => h.c.load
            have hn0 : ∀ W, ClS w0 w #[.slice ao L.length cap, .map (some mb)] (cst σ) (.slice bo row.length cp) row.length (rowC (ccells s) row) w2.heap.size #[.int .i64 (k : Int), .int .u8 y0, .int .u8 y1, .int .u8 y2, .int .u8 y3, .int .u8 y4, .int .u8 y5, .int .i64 y6] W → W.cell? ⟨w2.heap.size, 0, none⟩ = some (.int .i64 (k : Int)) := fun W h => (blk8 h.nx).1
            have hn1 : ∀ W, ClS w0 w #[.slice ao L.length cap, .map (some mb)] (cst σ) (.slice bo row.length cp) row.length (rowC (ccells s) row) w2.heap.size #[.int .i64 (k : Int), .int .u8 y0, .int .u8 y1, .int .u8 y2, .int .u8 y3, .int .u8 y4, .int .u8 y5, .int .i64 y6] W → W.cell? ⟨w2.heap.size, 1, none⟩ = some (.int .u8 y0) := fun W h => (blk8 h.nx).2.1
            have hn2 : ∀ W, ClS w0 w #[.slice ao L.length cap, .map (some mb)] (cst σ) (.slice bo row.length cp) row.length (rowC (ccells s) row) w2.heap.size #[.int .i64 (k : Int), .int .u8 y0, .int .u8 y1, .int .u8 y2, .int .u8 y3, .int .u8 y4, .int .u8 y5, .int .i64 y6] W → W.cell? ⟨w2.heap.size, 2, none⟩ = some (.int .u8 y1) := fun W h => (blk8 h.nx).2.2.1
            have hn3 : ∀ W, ClS w0 w #[.slice ao L.length cap, .map (some mb)] (cst σ) (.slice bo row.length cp) row.length (rowC (ccells s) row) w2.heap.size #[.int .i64 (k : Int), .int .u8 y0, .int .u8 y1, .int .u8 y2, .int .u8 y3, .int .u8 y4, .int .u8 y5, .int .i64 y6] W → W.cell? ⟨w2.heap.size, 3, none⟩ = some (.int .u8 y2) := fun W h => (blk8 h.nx).2.2.2.1
            have hn4 : ∀ W, ClS w0 w #[.slice ao L.length cap, .map (some mb)] (cst σ) (.slice bo row.length cp) row.length (rowC (ccells s) row) w2.heap.size #[.int .i64 (k : Int), .int .u8 y0, .int .u8 y1, .int .u8 y2, .int .u8 y3, .int .u8 y4, .int .u8 y5, .int .i64 y6] W → W.cell? ⟨w2.heap.size, 4, none⟩ = some (.int .u8 y3) := fun W h => (blk8 h.nx).2.2.2.2.1
            have hn5 : ∀ W, ClS w0 w #[.slice ao L.length cap, .map (some mb)] (cst σ) (.slice bo row.length cp) row.length (rowC (ccells s) row) w2.heap.size #[.int .i64 (k : Int), .int .u8 y0, .int .u8 y1, .int .u8 y2, .int .u8 y3, .int .u8 y4, .int .u8 y5, .int .i64 y6] W → W.cell? ⟨w2.heap.size, 5, none⟩ = some (.int .u8 y4) := fun W h => (blk8 h.nx).2.2.2.2.2.1
            have hn6 : ∀ W, ClS w0 w #[.slice ao L.length cap, .map (some mb)] (cst σ) (.slice bo row.length cp) row.length (rowC (ccells s) row) w2.heap.size #[.int .i64 (k : Int), .int .u8 y0, .int .u8 y1, .int .u8 y2, .int .u8 y3, .int .u8 y4, .int .u8 y5, .int .i64 y6] W → W.cell? ⟨w2.heap.size, 6, none⟩ = some (.int .u8 y5) := fun W h => (blk8 h.nx).2.2.2.2.2.2.1
            have hn7 : ∀ W, ClS w0 w #[.slice ao L.length cap, .map (some mb)] (cst σ) (.slice bo row.length cp) row.length (rowC (ccells s) row) w2.heap.size #[.int .i64 (k : Int), .int .u8 y0, .int .u8 y1, .int .u8 y2, .int .u8 y3, .int .u8 y4, .int .u8 y5, .int .i64 y6] W → W.cell? ⟨w2.heap.size, 7, none⟩ = some (.int .i64 y6) := fun W h => (blk8 h.nx).2.2.2.2.2.2.2
            refine wp_region_held_drew (S := fun W => ClS w0 w #[.slice ao L.length cap, .map (some mb)] (cst σ) (.slice bo row.length cp) row.length (rowC (ccells s) row) w2.heap.size #[.int .i64 (k : Int), .int .u8 y0, .int .u8 y1, .int .u8 y2, .int .u8 y3, .int .u8 y4, .int .u8 y5, .int .i64 y6] W) (by kernel_rfl) H4.out (fun hHeld => ?_)
            have h4 := hHeld
            refine wpAnyH_take (i := 0) (v := .agg #[.slice ao L.length cap, .map (some mb)]) rfl (by kernel_rfl) (by kernel_rfl) (by kernel_rfl) (fun c a w h => h) (Or.inl ⟨by rfl, ?_⟩) hHeld ?_
            · intro W hSw; go_simp
            simp only [Act.put, List.setIfInBounds_toArray, List.set_cons_zero, List.set_cons_succ]
            refine wpAnyH_take (i := 1) (v := .agg #[.slice ao L.length cap, .map (some mb)]) rfl (by kernel_rfl) (by kernel_rfl) (by kernel_rfl) (fun c a w h => h) (Or.inl ⟨by rfl, ?_⟩) hHeld ?_
            · intro W hSw; go_simp
            simp only [Act.put, List.setIfInBounds_toArray, List.set_cons_zero, List.set_cons_succ]
            refine wpAnyH_take (i := 2) (v := .agg (cst σ)) rfl (by kernel_rfl) (by kernel_rfl) (by kernel_rfl) (fun c a w h => h) (Or.inl ⟨by rfl, ?_⟩) hHeld ?_
            · intro W hSw; go_simp
            simp only [Act.put, List.setIfInBounds_toArray, List.set_cons_zero, List.set_cons_succ]
            refine wpAnyH_take (i := 3) (v := .int .i64 (k : Int)) rfl (by kernel_rfl) (by kernel_rfl) (by kernel_rfl) (fun c a w h => h) (Or.inl ⟨by rfl, ?_⟩) hHeld ?_
            · intro W hSw; go_simp
            simp only [Act.put, List.setIfInBounds_toArray, List.set_cons_zero, List.set_cons_succ]
            refine wpAnyH_take (i := 5) (v := .slice bo row.length cp) rfl (by kernel_rfl) (by kernel_rfl) (by kernel_rfl) (fun c a w h => h) (Or.inl ⟨by rfl, ?_⟩) hHeld ?_
            · intro W hSw; go_simp
            simp only [Act.put, List.setIfInBounds_toArray, List.set_cons_zero, List.set_cons_succ]
            refine wpAnyH_take (i := 6) (v := .agg #[.int .i64 (k : Int), .int .u8 y0, .int .u8 y1, .int .u8 y2, .int .u8 y3, .int .u8 y4, .int .u8 y5, .int .i64 y6]) rfl (by kernel_rfl) (by kernel_rfl) (by kernel_rfl) (fun c a w h => h) (Or.inl ⟨by rfl, ?_⟩) hHeld ?_
            · intro W hSw; go_simp
            simp only [Act.put, List.setIfInBounds_toArray, List.set_cons_zero, List.set_cons_succ]
            refine wpAnyH_take (i := 9) (v := .int .i64 (C : Int)) rfl (by kernel_rfl) (by kernel_rfl) (by kernel_rfl) (fun c a w h => h) (Or.inl ⟨by rfl, ?_⟩) hHeld ?_
            · intro W hSw; go_simp
            simp only [Act.put, List.setIfInBounds_toArray, List.set_cons_zero, List.set_cons_succ]
            refine wpAnyH_ready (rs := [4, 7]) (by kernel_rfl) (by simp) ?_
            refine AllReadyH.cons rfl (fun K hK => ?_) (AllReadyH.cons rfl (fun K hK => ?_) AllReadyH.nil)
            · go_simp
              go_wp2_with (go_at_call 62; go_must (refine Calls.mono (HT.out _ hHeld.c.pg) ?_; rintro e5 w5 ⟨rfl, hg5⟩))
              have h5 := hHeld.later hg5
              refine hK.out _ _ h5 (fun _ => ?_)
              refine wpAnyH_ready (rs := [7]) (by kernel_rfl) (by simp) ?_
              refine AllReadyH.cons rfl (fun K hK => ?_) AllReadyH.nil
              go_simp
              have h6 := h5.later (World.grownBy_alloc w5 (.cells #[.int .i64 (k : Int), .int .u8 y0, .int .u8 y1, .int .u8 y2, .int .u8 y3, .int .u8 y4, .int .u8 y5, .int .i64 y6] 146) none)
              refine hK.out _ _ h6 (fun _ => ?_)
              have HG46 : Hid (w4.drew.grownBy (w5.alloc (.cells #[.int .i64 (k : Int), .int .u8 y0, .int .u8 y1, .int .u8 y2, .int .u8 y3, .int .u8 y4, .int .u8 y5, .int .i64 y6] 146)) none) := grownBy_trans hg5 (World.grownBy_alloc _ _ _)
              have HSZ : Hid (w4.drew.heap.size ≤ (w5.alloc (.cells #[.int .i64 (k : Int), .int .u8 y0, .int .u8 y1, .int .u8 y2, .int .u8 y3, .int .u8 y4, .int .u8 y5, .int .i64 y6] 146)).heap.size) := HG46.out.size
              refine wpAnyH_ready (rs := [8]) (by kernel_rfl) (by simp) ?_
              refine AllReadyH.cons rfl (fun K hK => ?_) AllReadyH.nil
              refine step_append_keeps _ rfl (.tmp 46) (.tmp 48) 141 rfl w0.heap.size 146 i0 _ 8 24 Try.underlying141 hi hz0 hz1 hz2 rfl (by decide) _ row.length _ rfl h6.c.own ⟨w5.heap.size, 0, none⟩ 1 1 _ rfl rfl (World.news_of_block (heap_alloc_new w5 _)) HONE.out (by decide) (by unfold maxLen; omega) (by omega) (Nat.le_trans HB0.out h6.c.gr.size) _ rfl ?_
              intro g7 cap7 w7 hown7 hgrow7 hat7 hkeep7
              have h7 := h6.app HLT.out HB2.out hgrow7 (hkeep7 w7 (grownBy_refl _ _) hown7)
              rw [← HXS.out] at hown7 hkeep7
              have HK7 : Hid _ := hkeep7
              have HO7 : Hid _ := hown7
              have hat8 : (Value.ownBlock (.slice bo row.length cp) = some g7 ∨ w4.drew.heap.size ≤ g7) := by
                rcases hat7 with h | h
                · exact .inl h
                · exact .inr (by rw [h]; exact HSZ.out)
              have HAT : Hid _ := hat8
              have HGR : Hid (w4.drew.grownBy w7 (Value.ownBlock (.slice bo row.length cp))) := grownBy_trans (grownBy_weak HG46.out _) hgrow7
              refine hK.out _ _ h7 (fun _ => ?_)
              clear hkeep7 hown7 hat7 hat8 hgrow7
              refine wpAnyH_ready (rs := [10]) (by kernel_rfl) (by simp) ?_
              refine AllReadyH.cons rfl (fun K hK => ?_) AllReadyH.nil
              go_simp
              go_wp2_with (go_at_call 56; go_must (refine Calls.mono (HIH.out _ _ h7.c.pg HO7.out) ?_; rintro e8 w8 ⟨⟨hg8, hr8, ho8⟩, rfl⟩))
              have h8 := h4.app HLT.out HB2.out (grown_app HGR.out hr8 HAT.out) (HK7.out w8 hr8 ho8)
              refine hK.out _ _ h8 (fun _ => ?_)
              refine wpAnyH_ready (rs := [11]) (by kernel_rfl) (by simp) ?_
              refine AllReadyH.cons rfl (fun K hK => ?_) AllReadyH.nil
              go_simp
              refine hK.out _ _ h8 (fun _ => ?_)
              refine wpAnyH_done (by kernel_rfl) ?_ _
              have H8 : Hid _ := h8
              clear h8 hr8 ho8 hg8
              go_wp2_with fail
              go_roundw
              case rel => exact ⟨k + 1, D, by omega, by first | rfl | go_num, rfl, HSUM.out, HLE.out, H8.out.c⟩
              case measure => simp [intOf]; omega
            · go_simp
              have h5 := hHeld.later (World.grownBy_alloc w4.drew (.cells #[.int .i64 (k : Int), .int .u8 y0, .int .u8 y1, .int .u8 y2, .int .u8 y3, .int .u8 y4, .int .u8 y5, .int .i64 y6] 146) none)
              refine hK.out _ _ h5 (fun _ => ?_)
              refine wpAnyH_ready (rs := [4]) (by kernel_rfl) (by simp) ?_
              refine AllReadyH.cons rfl (fun K hK => ?_) AllReadyH.nil
              go_simp
              go_wp2_with (go_at_call 62; go_must (refine Calls.mono (HT.out _ h5.c.pg) ?_; rintro e5 w6 ⟨rfl, hg6⟩))
              have h6 := h5.later hg6
              refine hK.out _ _ h6 (fun _ => ?_)
              have HG46 : Hid (w4.drew.grownBy w6 none) := grownBy_trans (World.grownBy_alloc _ _ _) hg6
              have HSZ : Hid (w4.drew.heap.size ≤ w6.heap.size) := HG46.out.size
              have hl6 : w6.heap[w4.heap.size]? = some (.cells #[.int .i64 (k : Int), .int .u8 y0, .int .u8 y1, .int .u8 y2, .int .u8 y3, .int .u8 y4, .int .u8 y5, .int .i64 y6] 146 (0, 0)) := (hg6.block _ (lt_of_block (heap_alloc_new w4.drew _)) (by simp)).trans (heap_alloc_new w4.drew _)
              refine wpAnyH_ready (rs := [8]) (by kernel_rfl) (by simp) ?_
              refine AllReadyH.cons rfl (fun K hK => ?_) AllReadyH.nil
              refine step_append_keeps _ rfl (.tmp 46) (.tmp 48) 141 rfl w0.heap.size 146 i0 _ 8 24 Try.underlying141 hi hz0 hz1 hz2 rfl (by decide) _ row.length _ rfl h6.c.own ⟨w4.heap.size, 0, none⟩ 1 1 _ rfl rfl (World.news_of_block hl6) HONE.out (by decide) (by unfold maxLen; omega) (by omega) (Nat.le_trans HB0.out h6.c.gr.size) _ rfl ?_
              intro g7 cap7 w7 hown7 hgrow7 hat7 hkeep7
              have h7 := h6.app HLT.out HB2.out hgrow7 (hkeep7 w7 (grownBy_refl _ _) hown7)
              rw [← HXS.out] at hown7 hkeep7
              have HK7 : Hid _ := hkeep7
              have HO7 : Hid _ := hown7
              have hat8 : (Value.ownBlock (.slice bo row.length cp) = some g7 ∨ w4.drew.heap.size ≤ g7) := by
                rcases hat7 with h | h
                · exact .inl h
                · exact .inr (by rw [h]; exact HSZ.out)
              have HAT : Hid _ := hat8
              have HGR : Hid (w4.drew.grownBy w7 (Value.ownBlock (.slice bo row.length cp))) := grownBy_trans (grownBy_weak HG46.out _) hgrow7
              refine hK.out _ _ h7 (fun _ => ?_)
              clear hkeep7 hown7 hat7 hat8 hgrow7
              refine wpAnyH_ready (rs := [10]) (by kernel_rfl) (by simp) ?_
              refine AllReadyH.cons rfl (fun K hK => ?_) AllReadyH.nil
              go_simp
              go_wp2_with (go_at_call 56; go_must (refine Calls.mono (HIH.out _ _ h7.c.pg HO7.out) ?_; rintro e8 w8 ⟨⟨hg8, hr8, ho8⟩, rfl⟩))
              have h8 := h4.app HLT.out HB2.out (grown_app HGR.out hr8 HAT.out) (HK7.out w8 hr8 ho8)
              refine hK.out _ _ h8 (fun _ => ?_)
              refine wpAnyH_ready (rs := [11]) (by kernel_rfl) (by simp) ?_
              refine AllReadyH.cons rfl (fun K hK => ?_) AllReadyH.nil
              go_simp
              refine hK.out _ _ h8 (fun _ => ?_)
              refine wpAnyH_done (by kernel_rfl) ?_ _
              have H8 : Hid _ := h8
              clear h8 hr8 ho8 hg8
              go_wp2_with fail
              go_roundw
              case rel => exact ⟨k + 1, D, by omega, by first | rfl | go_num, rfl, HSUM.out, HLE.out, H8.out.c⟩
              case measure => simp [intOf]; omega
          · have HBIG : Hid (300 < c + sumTo (cntW s L f σ row) L.length) := by have hC := HC.out; show 300 < c + sumTo (cntW s L f σ row) L.length; omega
            have HIH : Hid (∀ rv' W, w0.grownBy W none → W.ownsRow w0.heap.size 146 8 rv' (row.length + 1) xs2 → Calls Try.prog 56 #[.agg #[.slice ao L.length cap, .map (some mb)], .agg (cst (turnF s L σ k)), rv', .int .i64 (C : Int)] W fun e w' => (w0.grownBy w' none ∧ W.grownBy w' rv'.ownBlock ∧ w'.ownsRow w0.heap.size 146 8 rv' (row.length + 1) xs2) ∧ e = .panicked (refusal 5 0)) :=
              fun rv' W a b => (hI rv' W a b).mono fun e w' hh => ⟨hh.1, by
                rcases hh.2 with ⟨h, _⟩ | ⟨_, h⟩
                · omega
                · exact h⟩
            clear hz hs hmay hMC hat hlt hNC hYC HI HTT hI hbig hmono HM HN HY
            go_wp2_with (first | (refine ld_row 88 (.tmp 5) (w.heap.size + 1) ?_ (cst σ) ?_ Try.underlying88 rfl (info_state _) ?_; rfl; first | exact HX.out.st | exact HA.out.st | exact HA1.out.st) | (go_at_call 61; go_must (refine Calls.mono (HMC.out _ HA.out.pg) ?_; rintro e1 w1 ⟨rfl, hg1⟩; have ha1 := HA.out.later hg1; obtain ⟨n0, n1, nf⟩ := blk2 ha1.mach; have HA1 : Hid _ := ha1; clear hg1 ha1)) | (go_at_call 74; go_must (refine Calls.mono (HNC.out _ HA1.out.pg) ?_; rintro e2 w2 ⟨rfl, hg2⟩; have HA2 : Hid _ := HA1.out.later hg2; clear hg2)) | (go_at_call 75; go_must (refine Calls.mono (HYC.out _ (HA2.out.later (World.grownBy_alloc _ _ _)).own) ?_; rintro e3 w4 ⟨rfl, hg4⟩; have H4 : Hid _ := ClS.start HA2.out hg4; clear hg4)))
            have HB2 : Hid (w.heap.size ≤ w2.heap.size) := HA2.out.gr.size
            have hc0 : ∀ W, ClS w0 w #[.slice ao L.length cap, .map (some mb)] (cst σ) (.slice bo row.length cp) row.length (rowC (ccells s) row) w2.heap.size #[.int .i64 (k : Int), .int .u8 y0, .int .u8 y1, .int .u8 y2, .int .u8 y3, .int .u8 y4, .int .u8 y5, .int .i64 y6] W → W.cell? ⟨w.heap.size, 0, none⟩ = some (.slice ao L.length cap) := fun W h => (blk2 h.c.mach).1
            have hc1 : ∀ W, ClS w0 w #[.slice ao L.length cap, .map (some mb)] (cst σ) (.slice bo row.length cp) row.length (rowC (ccells s) row) w2.heap.size #[.int .i64 (k : Int), .int .u8 y0, .int .u8 y1, .int .u8 y2, .int .u8 y3, .int .u8 y4, .int .u8 y5, .int .i64 y6] W → W.cell? ⟨w.heap.size, 1, none⟩ = some (.map (some mb)) := fun W h => (blk2 h.c.mach).2.1
            have hld : ∀ W, ClS w0 w #[.slice ao L.length cap, .map (some mb)] (cst σ) (.slice bo row.length cp) row.length (rowC (ccells s) row) w2.heap.size #[.int .i64 (k : Int), .int .u8 y0, .int .u8 y1, .int .u8 y2, .int .u8 y3, .int .u8 y4, .int .u8 y5, .int .i64 y6] W → Sem.run Try.prog (loadSt (.pointer (some ⟨w.heap.size + 1, 0, none⟩))) W = .ok (.agg (cst σ)) W := fun W h => h.c.load
            have hn0 : ∀ W, ClS w0 w #[.slice ao L.length cap, .map (some mb)] (cst σ) (.slice bo row.length cp) row.length (rowC (ccells s) row) w2.heap.size #[.int .i64 (k : Int), .int .u8 y0, .int .u8 y1, .int .u8 y2, .int .u8 y3, .int .u8 y4, .int .u8 y5, .int .i64 y6] W → W.cell? ⟨w2.heap.size, 0, none⟩ = some (.int .i64 (k : Int)) := fun W h => (blk8 h.nx).1
            have hn1 : ∀ W, ClS w0 w #[.slice ao L.length cap, .map (some mb)] (cst σ) (.slice bo row.length cp) row.length (rowC (ccells s) row) w2.heap.size #[.int .i64 (k : Int), .int .u8 y0, .int .u8 y1, .int .u8 y2, .int .u8 y3, .int .u8 y4, .int .u8 y5, .int .i64 y6] W → W.cell? ⟨w2.heap.size, 1, none⟩ = some (.int .u8 y0) := fun W h => (blk8 h.nx).2.1
            have hn2 : ∀ W, ClS w0 w #[.slice ao L.length cap, .map (some mb)] (cst σ) (.slice bo row.length cp) row.length (rowC (ccells s) row) w2.heap.size #[.int .i64 (k : Int), .int .u8 y0, .int .u8 y1, .int .u8 y2, .int .u8 y3, .int .u8 y4, .int .u8 y5, .int .i64 y6] W → W.cell? ⟨w2.heap.size, 2, none⟩ = some (.int .u8 y1) := fun W h => (blk8 h.nx).2.2.1
            have hn3 : ∀ W, ClS w0 w #[.slice ao L.length cap, .map (some mb)] (cst σ) (.slice bo row.length cp) row.length (rowC (ccells s) row) w2.heap.size #[.int .i64 (k : Int), .int .u8 y0, .int .u8 y1, .int .u8 y2, .int .u8 y3, .int .u8 y4, .int .u8 y5, .int .i64 y6] W → W.cell? ⟨w2.heap.size, 3, none⟩ = some (.int .u8 y2) := fun W h => (blk8 h.nx).2.2.2.1
            have hn4 : ∀ W, ClS w0 w #[.slice ao L.length cap, .map (some mb)] (cst σ) (.slice bo row.length cp) row.length (rowC (ccells s) row) w2.heap.size #[.int .i64 (k : Int), .int .u8 y0, .int .u8 y1, .int .u8 y2, .int .u8 y3, .int .u8 y4, .int .u8 y5, .int .i64 y6] W → W.cell? ⟨w2.heap.size, 4, none⟩ = some (.int .u8 y3) := fun W h => (blk8 h.nx).2.2.2.2.1
            have hn5 : ∀ W, ClS w0 w #[.slice ao L.length cap, .map (some mb)] (cst σ) (.slice bo row.length cp) row.length (rowC (ccells s) row) w2.heap.size #[.int .i64 (k : Int), .int .u8 y0, .int .u8 y1, .int .u8 y2, .int .u8 y3, .int .u8 y4, .int .u8 y5, .int .i64 y6] W → W.cell? ⟨w2.heap.size, 5, none⟩ = some (.int .u8 y4) := fun W h => (blk8 h.nx).2.2.2.2.2.1
            have hn6 : ∀ W, ClS w0 w #[.slice ao L.length cap, .map (some mb)] (cst σ) (.slice bo row.length cp) row.length (rowC (ccells s) row) w2.heap.size #[.int .i64 (k : Int), .int .u8 y0, .int .u8 y1, .int .u8 y2, .int .u8 y3, .int .u8 y4, .int .u8 y5, .int .i64 y6] W → W.cell? ⟨w2.heap.size, 6, none⟩ = some (.int .u8 y5) := fun W h => (blk8 h.nx).2.2.2.2.2.2.1
            have hn7 : ∀ W, ClS w0 w #[.slice ao L.length cap, .map (some mb)] (cst σ) (.slice bo row.length cp) row.length (rowC (ccells s) row) w2.heap.size #[.int .i64 (k : Int), .int .u8 y0, .int .u8 y1, .int .u8 y2, .int .u8 y3, .int .u8 y4, .int .u8 y5, .int .i64 y6] W → W.cell? ⟨w2.heap.size, 7, none⟩ = some (.int .i64 y6) := fun W h => (blk8 h.nx).2.2.2.2.2.2.2
            refine wp_region_held_drew (S := fun W => ClS w0 w #[.slice ao L.length cap, .map (some mb)] (cst σ) (.slice bo row.length cp) row.length (rowC (ccells s) row) w2.heap.size #[.int .i64 (k : Int), .int .u8 y0, .int .u8 y1, .int .u8 y2, .int .u8 y3, .int .u8 y4, .int .u8 y5, .int .i64 y6] W) (by kernel_rfl) H4.out (fun hHeld => ?_)
            have h4 := hHeld
            refine wpAnyH_take (i := 0) (v := .agg #[.slice ao L.length cap, .map (some mb)]) rfl (by kernel_rfl) (by kernel_rfl) (by kernel_rfl) (fun c a w h => h) (Or.inl ⟨by rfl, ?_⟩) hHeld ?_
            · intro W hSw; go_simp
            simp only [Act.put, List.setIfInBounds_toArray, List.set_cons_zero, List.set_cons_succ]
            refine wpAnyH_take (i := 1) (v := .agg #[.slice ao L.length cap, .map (some mb)]) rfl (by kernel_rfl) (by kernel_rfl) (by kernel_rfl) (fun c a w h => h) (Or.inl ⟨by rfl, ?_⟩) hHeld ?_
            · intro W hSw; go_simp
            simp only [Act.put, List.setIfInBounds_toArray, List.set_cons_zero, List.set_cons_succ]
            refine wpAnyH_take (i := 2) (v := .agg (cst σ)) rfl (by kernel_rfl) (by kernel_rfl) (by kernel_rfl) (fun c a w h => h) (Or.inl ⟨by rfl, ?_⟩) hHeld ?_
            · intro W hSw; go_simp
            simp only [Act.put, List.setIfInBounds_toArray, List.set_cons_zero, List.set_cons_succ]
            refine wpAnyH_take (i := 3) (v := .int .i64 (k : Int)) rfl (by kernel_rfl) (by kernel_rfl) (by kernel_rfl) (fun c a w h => h) (Or.inl ⟨by rfl, ?_⟩) hHeld ?_
            · intro W hSw; go_simp
            simp only [Act.put, List.setIfInBounds_toArray, List.set_cons_zero, List.set_cons_succ]
            refine wpAnyH_take (i := 5) (v := .slice bo row.length cp) rfl (by kernel_rfl) (by kernel_rfl) (by kernel_rfl) (fun c a w h => h) (Or.inl ⟨by rfl, ?_⟩) hHeld ?_
            · intro W hSw; go_simp
            simp only [Act.put, List.setIfInBounds_toArray, List.set_cons_zero, List.set_cons_succ]
            refine wpAnyH_take (i := 6) (v := .agg #[.int .i64 (k : Int), .int .u8 y0, .int .u8 y1, .int .u8 y2, .int .u8 y3, .int .u8 y4, .int .u8 y5, .int .i64 y6]) rfl (by kernel_rfl) (by kernel_rfl) (by kernel_rfl) (fun c a w h => h) (Or.inl ⟨by rfl, ?_⟩) hHeld ?_
            · intro W hSw; go_simp
            simp only [Act.put, List.setIfInBounds_toArray, List.set_cons_zero, List.set_cons_succ]
            refine wpAnyH_take (i := 9) (v := .int .i64 (C : Int)) rfl (by kernel_rfl) (by kernel_rfl) (by kernel_rfl) (fun c a w h => h) (Or.inl ⟨by rfl, ?_⟩) hHeld ?_
            · intro W hSw; go_simp
            simp only [Act.put, List.setIfInBounds_toArray, List.set_cons_zero, List.set_cons_succ]
            refine wpAnyH_ready (rs := [4, 7]) (by kernel_rfl) (by simp) ?_
            refine AllReadyH.cons rfl (fun K hK => ?_) (AllReadyH.cons rfl (fun K hK => ?_) AllReadyH.nil)
            · go_simp
              go_wp2_with (go_at_call 62; go_must (refine Calls.mono (HT.out _ hHeld.c.pg) ?_; rintro e5 w5 ⟨rfl, hg5⟩))
              have h5 := hHeld.later hg5
              refine hK.out _ _ h5 (fun _ => ?_)
              refine wpAnyH_ready (rs := [7]) (by kernel_rfl) (by simp) ?_
              refine AllReadyH.cons rfl (fun K hK => ?_) AllReadyH.nil
              go_simp
              have h6 := h5.later (World.grownBy_alloc w5 (.cells #[.int .i64 (k : Int), .int .u8 y0, .int .u8 y1, .int .u8 y2, .int .u8 y3, .int .u8 y4, .int .u8 y5, .int .i64 y6] 146) none)
              refine hK.out _ _ h6 (fun _ => ?_)
              have HG46 : Hid (w4.drew.grownBy (w5.alloc (.cells #[.int .i64 (k : Int), .int .u8 y0, .int .u8 y1, .int .u8 y2, .int .u8 y3, .int .u8 y4, .int .u8 y5, .int .i64 y6] 146)) none) := grownBy_trans hg5 (World.grownBy_alloc _ _ _)
              have HSZ : Hid (w4.drew.heap.size ≤ (w5.alloc (.cells #[.int .i64 (k : Int), .int .u8 y0, .int .u8 y1, .int .u8 y2, .int .u8 y3, .int .u8 y4, .int .u8 y5, .int .i64 y6] 146)).heap.size) := HG46.out.size
              refine wpAnyH_ready (rs := [8]) (by kernel_rfl) (by simp) ?_
              refine AllReadyH.cons rfl (fun K hK => ?_) AllReadyH.nil
              refine step_append_keeps _ rfl (.tmp 46) (.tmp 48) 141 rfl w0.heap.size 146 i0 _ 8 24 Try.underlying141 hi hz0 hz1 hz2 rfl (by decide) _ row.length _ rfl h6.c.own ⟨w5.heap.size, 0, none⟩ 1 1 _ rfl rfl (World.news_of_block (heap_alloc_new w5 _)) HONE.out (by decide) (by unfold maxLen; omega) (by omega) (Nat.le_trans HB0.out h6.c.gr.size) _ rfl ?_
              intro g7 cap7 w7 hown7 hgrow7 hat7 hkeep7
              have h7 := h6.app HLT.out HB2.out hgrow7 (hkeep7 w7 (grownBy_refl _ _) hown7)
              rw [← HXS.out] at hown7 hkeep7
              have HK7 : Hid _ := hkeep7
              have HO7 : Hid _ := hown7
              have hat8 : (Value.ownBlock (.slice bo row.length cp) = some g7 ∨ w4.drew.heap.size ≤ g7) := by
                rcases hat7 with h | h
                · exact .inl h
                · exact .inr (by rw [h]; exact HSZ.out)
              have HAT : Hid _ := hat8
              have HGR : Hid (w4.drew.grownBy w7 (Value.ownBlock (.slice bo row.length cp))) := grownBy_trans (grownBy_weak HG46.out _) hgrow7
              refine hK.out _ _ h7 (fun _ => ?_)
              clear hkeep7 hown7 hat7 hat8 hgrow7
              refine wpAnyH_ready (rs := [10]) (by kernel_rfl) (by simp) ?_
              refine AllReadyH.cons rfl (fun K hK => ?_) AllReadyH.nil
              go_simp
              go_wp2_with (go_at_call 56; go_must (refine Calls.mono (HIH.out _ _ h7.c.pg HO7.out) ?_; rintro e8 w8 ⟨⟨hg8, hr8, ho8⟩, rfl⟩))
              have h8 := h4.app HLT.out HB2.out (grown_app HGR.out hr8 HAT.out) (HK7.out w8 hr8 ho8)
              exact ⟨rfl, h8.c.post, .inr ⟨HBIG.out, rfl⟩⟩
            · go_simp
              have h5 := hHeld.later (World.grownBy_alloc w4.drew (.cells #[.int .i64 (k : Int), .int .u8 y0, .int .u8 y1, .int .u8 y2, .int .u8 y3, .int .u8 y4, .int .u8 y5, .int .i64 y6] 146) none)
              refine hK.out _ _ h5 (fun _ => ?_)
              refine wpAnyH_ready (rs := [4]) (by kernel_rfl) (by simp) ?_
              refine AllReadyH.cons rfl (fun K hK => ?_) AllReadyH.nil
              go_simp
              go_wp2_with (go_at_call 62; go_must (refine Calls.mono (HT.out _ h5.c.pg) ?_; rintro e5 w6 ⟨rfl, hg6⟩))
              have h6 := h5.later hg6
              refine hK.out _ _ h6 (fun _ => ?_)
              have HG46 : Hid (w4.drew.grownBy w6 none) := grownBy_trans (World.grownBy_alloc _ _ _) hg6
              have HSZ : Hid (w4.drew.heap.size ≤ w6.heap.size) := HG46.out.size
              have hl6 : w6.heap[w4.heap.size]? = some (.cells #[.int .i64 (k : Int), .int .u8 y0, .int .u8 y1, .int .u8 y2, .int .u8 y3, .int .u8 y4, .int .u8 y5, .int .i64 y6] 146 (0, 0)) := (hg6.block _ (lt_of_block (heap_alloc_new w4.drew _)) (by simp)).trans (heap_alloc_new w4.drew _)
              refine wpAnyH_ready (rs := [8]) (by kernel_rfl) (by simp) ?_
              refine AllReadyH.cons rfl (fun K hK => ?_) AllReadyH.nil
              refine step_append_keeps _ rfl (.tmp 46) (.tmp 48) 141 rfl w0.heap.size 146 i0 _ 8 24 Try.underlying141 hi hz0 hz1 hz2 rfl (by decide) _ row.length _ rfl h6.c.own ⟨w4.heap.size, 0, none⟩ 1 1 _ rfl rfl (World.news_of_block hl6) HONE.out (by decide) (by unfold maxLen; omega) (by omega) (Nat.le_trans HB0.out h6.c.gr.size) _ rfl ?_
              intro g7 cap7 w7 hown7 hgrow7 hat7 hkeep7
              have h7 := h6.app HLT.out HB2.out hgrow7 (hkeep7 w7 (grownBy_refl _ _) hown7)
              rw [← HXS.out] at hown7 hkeep7
              have HK7 : Hid _ := hkeep7
              have HO7 : Hid _ := hown7
              have hat8 : (Value.ownBlock (.slice bo row.length cp) = some g7 ∨ w4.drew.heap.size ≤ g7) := by
                rcases hat7 with h | h
                · exact .inl h
                · exact .inr (by rw [h]; exact HSZ.out)
              have HAT : Hid _ := hat8
              have HGR : Hid (w4.drew.grownBy w7 (Value.ownBlock (.slice bo row.length cp))) := grownBy_trans (grownBy_weak HG46.out _) hgrow7
              refine hK.out _ _ h7 (fun _ => ?_)
              clear hkeep7 hown7 hat7 hat8 hgrow7
              refine wpAnyH_ready (rs := [10]) (by kernel_rfl) (by simp) ?_
              refine AllReadyH.cons rfl (fun K hK => ?_) AllReadyH.nil
              go_simp
              go_wp2_with (go_at_call 56; go_must (refine Calls.mono (HIH.out _ _ h7.c.pg HO7.out) ?_; rintro e8 w8 ⟨⟨hg8, hr8, ho8⟩, rfl⟩))
              have h8 := h4.app HLT.out HB2.out (grown_app HGR.out hr8 HAT.out) (HK7.out w8 hr8 ho8)
              exact ⟨rfl, h8.c.post, .inr ⟨HBIG.out, rfl⟩⟩
    · obtain rfl : k = L.length := by omega
      have HA : Hid _ := hat.out
      clear hat
      go_wp2_with fail
      go_ret
      exact ⟨HA.out.post, .inl ⟨by rw [← HC.out]; exact hle, by rw [← HC.out]; rfl⟩⟩
end Go.Proofs.Ytimgindeiekpmaa

set_option linter.unusedSimpArgs false
set_option linter.unusedVariables false
namespace Go.Proofs.Ytimgindeiekpmaa
open Go.RowKit Wv

theorem good_snoc {s : ByteArray} {row : List (Nat × Nat)} {n x : Nat} (h : ∀ k, k < row.length → stepBad s (mAt row k).2 = none) (hx : stepBad s x = none) : ∀ k, k < (row ++ [(n, x)]).length → stepBad s (mAt (row ++ [(n, x)]) k).2 = none := by
  intro k hk
  simp at hk
  by_cases hl : k < row.length
  · have := h k hl
    unfold mAt at this ⊢
    rw [List.getElem?_append_left hl]; exact this
  · obtain rfl : k = row.length := by omega
    unfold mAt
    simpa using hx

/-- The program's classes. -/
theorem classes_any (s : ByteArray) (L : List (List Nat)) (w0 : World) (base0 B0 : Nat) (tv : Value) (mb : Nat) (vs : List Value) (hP : Prog w0 base0 B0 s L tv vs) (hmb : w0.heap[mb]? = some (.map deedEntries 10)) (hL : PL s L) :
    ∀ (f : Nat) (σ : Nat → Int) (row : List (Nat × Nat)) (c : Nat) (rv : Value) (w : World), w0.grownBy w none → w.ownsRow w0.heap.size 146 8 rv row.length (rowC (ccells s) row) → Ok L σ → fuelOf σ ≤ (f : Int) → row.length + f ≤ 24 → c ≤ 300 → (∀ k, k < row.length → stepBad s (mAt row k).2 = none) →
      Calls Try.prog 56 #[.agg #[tv, .map (some mb)], .agg (cst σ), rv, .int .i64 (c : Int)] w (ClsPost w0 w rv row.length (rowC (ccells s) row) c (cnt s L f σ row))
  | 0, σ, row, c, rv, w, h0, ho, hO, hf, hl, hc, hg => by
    have hov := over_fuel (s := s) hL.three hO (by simpa using hf)
    rw [cnt_over hov]
    exact classes_over s L w0 base0 B0 tv mb vs hP σ row.length _ c rv w h0 ho hO hc hov
  | f + 1, σ, row, c, rv, w, h0, ho, hO, hf, hl, hc, hg => by
    cases hov : overB s L σ with
    | true =>
      rw [cnt_over hov]
      exact classes_over s L w0 base0 B0 tv mb vs hP σ row.length _ c rv w h0 ho hO hc hov
    | false =>
      rw [cnt_more hov]
      refine classes_more s L w0 base0 B0 tv mb vs hP hmb hL f σ row c rv w h0 ho hO (by omega) hc hg hov ?_
      intro who hw hm hlt c' rv' W hc' hW how
      have hft := fuel_turn hL hO hw hm
      have hlen : (row ++ [(who, stp L σ who)]).length = row.length + 1 := by simp
      have := classes_any s L w0 base0 B0 tv mb vs hP hmb hL f (turnF s L σ who) (row ++ [(who, stp L σ who)]) c' rv' W hW (by rw [hlen]; exact how) (ok_turn hL hO hw hm) (by rw [hft]; push_cast at hf; omega) (by rw [hlen]; omega) hc'
        (good_snoc hg (hL.good _ (List.getElem_mem hw) _ (stp_mem hL.three hO hw hm)))
      rw [hlen] at this
      exact this
end Go.Proofs.Ytimgindeiekpmaa

