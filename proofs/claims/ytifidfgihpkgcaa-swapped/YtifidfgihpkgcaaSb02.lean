import Derived.Test.YtifidfgihpkgcaaSb01
import Derived.Deep.AppendLies
import Derived.Deep.RegionHeld3
set_option linter.unusedSimpArgs false
set_option linter.unusedVariables false
namespace Go.Proofs.Ytifidfgihpkgcaa
open Go.RowKit Wv

/-- The cells of the turns that were made. -/
def mk (s : ByteArray) (L : List (List Nat)) (row : ByteArray) (σ : Nat → Int) (j : Nat) : List Value := madeC s (whoAt row j) (stp L (stFrom s L row 0 σ j) (whoAt row j))
theorem mk_len (s : ByteArray) (L : List (List Nat)) (row : ByteArray) (σ : Nat → Int) (j : Nat) : (mk s L row σ j).length = 5 := rfl
theorem info_made : (Try.prog.info? 53).map (fun i => (i.zero, i.size, i.bytes)) = some (some (.agg #[.int .i64 0, .int .u8 0, .int .i64 0, .int .i64 0, .int .i64 0]), 5, 40) := by kernel_rfl

/-- Where the walk's loop stands. -/
structure SwAt (w w2 : World) (b : Nat) (S : Array Value) (mv : Value) (pos : Nat) (xs : List Value) (wr : World) : Prop where
  st : wr.heap[b]? = some (.cells S 45 (0, 0))
  pg : w2.grownBy wr none
  gr : w.grownBy wr none
  own : wr.ownsRow (b + 1) 53 5 mv pos xs
theorem SwAt.later {w w2 wr wr' : World} {b : Nat} {S : Array Value} {mv : Value} {pos : Nat} {xs : List Value} (h : SwAt w w2 b S mv pos xs wr) (hg : wr.grownBy wr' none) : SwAt w w2 b S mv pos xs wr' :=
  ⟨(hg.block _ (lt_of_block h.st) (by simp)).trans h.st, grownBy_trans h.pg hg, grownBy_trans h.gr hg, h.own.kept hg (Classical.em _)⟩
theorem SwAt.put {w w2 wr : World} {b : Nat} {S S' : Array Value} {mv : Value} {pos : Nat} {xs : List Value} (h : SwAt w w2 b S mv pos xs wr) (hb : w.heap.size ≤ b) (hb2 : w2.heap.size ≤ b) : SwAt w w2 b S' mv pos xs (wr.setRow b S') := by
  refine ⟨setRow_heap _ _ _ _ _ _ h.st, rgrown_setRow h.pg hb2 _, rgrown_setRow h.gr hb _, ?_⟩
  have hg : wr.grownBy (wr.setRow b S') (some b) := ⟨rfl, rfl, rfl, by simp [World.setRow], fun k _ hk => setRow_other _ _ _ _ (fun e => hk (by rw [e]))⟩
  refine h.own.kept hg ?_
  cases hv : mv.ownBlock with
  | none => exact .inl rfl
  | some g => exact .inr (fun e => by have := (h.own.lt g hv).1; simp at e; omega)
/-- Behind an append. -/
theorem SwAt.app {w w2 wr wr' : World} {b : Nat} {S : Array Value} {mv mv' : Value} {pos pos' : Nat} {xs xs' : List Value} (h : SwAt w w2 b S mv pos xs wr) (hb : w.heap.size ≤ b) (hb2 : w2.heap.size ≤ b) (hg : wr.grownBy wr' mv.ownBlock) (ho : wr'.ownsRow (b + 1) 53 5 mv' pos' xs') : SwAt w w2 b S mv' pos' xs' wr' := by
  have hr : ∀ r, mv.ownBlock = some r → b + 1 ≤ r := fun r hr => (h.own.lt r hr).1
  refine ⟨(hg.block _ (lt_of_block h.st) (fun e => by have := hr b e.symm; omega)).trans h.st, grownBy_new' h.pg hg (fun r e => by have := hr r e; omega), grownBy_new' h.gr hg (fun r e => by have := hr r e; omega), ho⟩

theorem rprog_mk {w : World} {base B : Nat} {s : ByteArray} {L : List (List Nat)} {tv : Value} {vs : List Value} (h : OwnT w base 51 50 4 (rcells s) B tv vs L) (hL : PL s L) : RProg w base B s L tv vs := ⟨h, hL.three, hL.eight, hL.good⟩
/-- What the region of the append reads stands. -/
structure SwS (w4 : World) (b : Nat) (S : Array Value) (W : World) : Prop where
  st : W.heap[b]? = some (.cells S 45 (0, 0))
  pg : w4.grownBy W none
theorem SwS.later {w4 W W' : World} {b : Nat} {S : Array Value} (h : SwS w4 b S W) (hg : W.grownBy W' none) : SwS w4 b S W' :=
  ⟨(hg.block _ (lt_of_block h.st) (by simp)).trans h.st, grownBy_trans h.pg hg⟩
theorem SwS.alloc {w4 W : World} {b : Nat} {S : Array Value} (h : SwS w4 b S W) (o : Obj) : SwS w4 b S (W.alloc o) := h.later (World.grownBy_alloc _ _ _)
theorem SwS.allocd {w4 W : World} {b : Nat} {S : Array Value} (h : SwS w4 b S W.drew) (o : Obj) : SwS w4 b S (W.alloc o).drew := by
  have h' : SwS w4 b S W := ⟨h.st, ⟨h.pg.os, h.pg.tape, h.pg.output, h.pg.size, h.pg.block⟩⟩
  exact (h'.alloc o).later (rgrown_drew (grownBy_refl _ _))

/-- Two texts in one, by a name of its own. -/
def catB (a b : ByteArray) : Sem Value := Op.stringOp .add a b
theorem catB_of (a b : ByteArray) : Op.stringOp .add a b = catB a b := rfl
attribute [local go_sem] catB_of
theorem catB_run (a b : ByteArray) (h : a.size + b.size ≤ 1000) (W : World) : (catB a b).run Try.prog W = .ok (.string (a ++ b)) W := by
  unfold catB
  exact run_string_add_sum W a b (by omega)

theorem wrap_small (x : Int) (h0 : 0 ≤ x) (h1 : x ≤ 1000) : IntKind.i64.wrap x = x := by
  unfold IntKind.wrap
  simp only [IntKind.signed, IntKind.bits]
  simp
  omega
structure GrS (wr W : World) : Prop where
  gr : wr.grownBy W none
theorem GrS.later {wr W W' : World} (h : GrS wr W) (g : W.grownBy W' none) : GrS wr W' := ⟨grownBy_trans h.gr g⟩

set_option maxHeartbeats 2000000 in
set_option maxRecDepth 100000 in
theorem sw_pos (s : ByteArray) (fuel : Int) (row : ByteArray) (at' : Int) (w : World) (t : ByteArray) (L : List (List Nat)) (k : Nat) (hm : s.size ≤ maxLen) (hmr : row.size ≤ 24) (hs : s.size ≤ 150) (hrd : Wv.rd s 2 0 [] = .ok L) (hL : PL s L) (hchk : (chk s).1 = 0) (f0 : 0 ≤ fuel) (f8 : fuel ≤ 8)
    (hg : (givB s fuel).1 = 0) (hv : playV s fuel row = (t, 0, 0)) (hrun : runRow s L row row.size 0 (rstartF 3 fuel) = (t, 0, 0)) (ht : (t.toList == []) = false) (h2 : 2 ≤ row.size)
    (hk0 : 0 ≤ at'.tmod ((row.size : Int) - 1)) (hk1 : at'.tmod ((row.size : Int) - 1) = (k : Int)) (hk2 : k + 1 < row.size) :
    Calls Try.prog 5 #[.string s, .int .i64 fuel, .string row, .int .i64 at'] w (SwPost w) := by
  have hmr' : row.size ≤ maxLen := by unfold maxLen; omega
  have hA := fun W => playC_any s fuel row W hm hmr'
  unfold PlayV at hA
  rw [hv] at hA
  have HA : Hid _ := hA
  have HPV : Hid (∀ row' t', row'.size ≤ maxLen → runRow s L row' row'.size 0 (rstartF 3 fuel) = (t', 0, 0) → ∀ W, Calls Try.prog 9 #[.string s, .int .i64 fuel, .string row'] W fun e w' => e = .returned (.tuple #[.string t', .int .i64 0, .int .i64 0]) ∧ W.grownBy w' none) := fun row' t' hsz hr W => by
    have h := playC_any s fuel row' W hm hsz
    unfold PlayV at h
    rw [rd_ok_of hrd row' fuel hchk (by omega), run_agree hL _ 0 (ok_start L L.length fuel hL.three f0 f8) (agree_start L.length fuel hL.three), hr] at h
    exact h
  have HG : Hid _ := fun W => good_any s fuel W hm
  rw [hg] at HG
  have HRD : Hid (∀ W, Calls Try.prog 12 #[.string s] W (RReadPost s (.ok L) W)) := fun W => by rw [← hrd]; exact rread_any s W hs
  have HST : Hid _ := fun W => rStart_any fuel W f0 f8
  have hok : Ok L (rstartF 3 fuel) := ok_start L 3 fuel hL.three f0 f8
  have b0 : decide ((row.size : Int) < 2) = false := by simp; omega
  have b0' : decide (row.size < 2) = false := by simp; omega
  have hz : ¬ ((row.size : Int) - 1 = 0) := by omega
  have hz' : ((row.size : Int) - 1 == 0) = false := by simpa using hz
  have h3 := hL.three
  unfold SwPost
  generalize rstartF 3 fuel = σ at *
  clear hA hmr' hm hs hrd f0 f8 hg hv hchk
  go_enter Try.func5, Try.ntmps5
  go_wp2_with (first | (go_at_call 9; go_must (refine Calls.mono (HA.out _) ?_; rintro e1 w1 ⟨rfl, hg1⟩)) | (go_at_call 11; go_must (refine Calls.mono (HG.out _) ?_; rintro e2 w2 ⟨rfl, hg2⟩)) | (go_at_call 8; go_must (refine Calls.mono (num_any _ _) ?_; rintro e3 w3 ⟨rfl, rfl⟩)) | (go_at_call 12; go_must (refine Calls.mono (HRD.out _) ?_; rintro e4 w4 ⟨hg4, tv, vs, j, rfl, hown⟩; have HP : Hid _ := hown; obtain ⟨ao, cap, htv⟩ := ownsRow_slice hown.out; clear hown; subst htv)) | (go_at_call 13; go_must (refine Calls.mono (HST.out _) ?_; rintro e5 w5 ⟨rfl, hg5⟩)) | (refine st_row0 45 (.tmp 17) (.tmp 74) w5.heap.size (rst σ) ?_ ?_ _ (heap_alloc_new _ _) (info_rstate _) ?_ (rst_oneCell _) ?_; rfl; rfl; (rw [rst_size]; rfl)))
  have hpr4 := rprog_mk HP.out hL
  have HPR : Hid _ := hpr4
  clear hpr4
  have hb2 : w4.heap.size ≤ w5.heap.size := hg5.size
  have hbw : w.heap.size ≤ w5.heap.size := by have := hg1.size; have := hg2.size; have := hg4.size; omega
  have hst : SwAt w w4 w5.heap.size (rst σ) (.slice none 0 0) 0 [] ((w5.alloc (.cells (rst (fun _ => 0)) 45)).setRow w5.heap.size (rst σ)) :=
    SwAt.put (S := rst (fun _ => 0)) ⟨heap_alloc_new _ _, grownBy_trans hg5 (World.grownBy_alloc _ _ _), grownBy_trans (grownBy_trans (grownBy_trans (grownBy_trans hg1 hg2) hg4) hg5) (World.grownBy_alloc _ _ _), World.ownsRow_nil _ _ _ _⟩ hbw hb2
  have HL : Hid _ := hL
  have HRUN : Hid _ := (run_iff row.size 0 σ t).1 hrun
  clear HP HG HRD HST hg1 hg2 hg4 hg5 hL hz hz' hrun
  go_loopw [18, 19] (fun mv iv wr => ∃ pos : Nat, pos ≤ row.size ∧ iv = .int .i64 (pos : Int) ∧ Hid (SwAt w w4 w5.heap.size (rst (stFrom s L row 0 σ pos)) mv pos ((List.range pos).flatMap (mk s L row σ)) wr)) (fun _ iv _ => row.size - (intOf iv).toNat)
  case atStart => exact ⟨0, Nat.zero_le _, rfl, hst⟩
  case round =>
    clear hst
    obtain ⟨pos, hpos, rfl, hat⟩ := hrel
    by_cases hp : pos < row.size
    · have hgo := HRUN.out.1 pos hp
      rw [Nat.zero_add] at hgo
      obtain ⟨who, hw1, hw2, hw3⟩ := goes_out hgo
      have hOK : Ok L (stFrom s L row 0 σ pos) := st_ok HL.out hok 0 pos (fun j hj => HRUN.out.1 j (by omega))
      have hpk := pk_in hp
      have hpr := pk_range row pos
      rw [hpk] at hpr
      have hc0 : (0 : Int) ≤ ((row[pos]'hp).toNat : Int) := by omega
      have hc1 : ((row[pos]'hp).toNat : Int) ≤ 255 := by omega
      have hr1 : ((row[pos]'hp).toNat : Int) - 48 = (who : Int) := by omega
      have hwa : whoAt row pos = who := by unfold whoAt; omega
      have hsn : stFrom s L row 0 σ (pos + 1) = turnF s L (stFrom s L row 0 σ pos) who := by rw [stFrom, Nat.zero_add, hwa]
      have hmk : mk s L row σ pos = madeC s who (stp L (stFrom s L row 0 σ pos) who) := by unfold mk; rw [hwa]
      have HSN : Hid _ := hsn
      have HMK : Hid _ := hmk
      clear hsn hmk hpk hpr hgo hw1 hwa
      generalize stFrom s L row 0 σ pos = τ at *
      have bb0 : decide ((who : Int) < 0) = false := by simp
      have bb1 : decide ((L.length : Int) ≤ (who : Int)) = false := by simp; omega
      have bb2 : decide (L.length ≤ who) = false := by simp; omega
      have hmc := rMay_any s L τ who _ _ _ _ wr (HPR.out.kept hat.out.pg) hw2 hOK.st (hOK.fate who (by omega))
      rw [hw3] at hmc
      have HMC : Hid _ := hmc
      have HT : Hid (∀ W, w4.grownBy W none → Calls Try.prog 15 #[.slice ao L.length cap, .agg (rst τ), .int .i64 (who : Int)] W fun e w' => e = .returned (.agg (rst (turnF s L τ who))) ∧ W.grownBy w' none) := fun W hW => rTurn_any s L τ who _ _ _ _ W (HPR.out.kept hW) hw2 hOK.st hw3
      clear hmc
      go_wp2_with (first | (refine ldg_row 45 (.tmp 17) ?_ w5.heap.size ?_ (rst τ) ?_ Try.underlying45 rfl (info_rstate _) ?_; go_simp; rfl; exact hat.out.st) | (go_at_call 14; go_must (refine Calls.mono HMC.out ?_; rintro e6 w6 ⟨rfl, hg6⟩; have HA2 : Hid _ := hat.out.later hg6; clear hg6)))
      obtain ⟨hkx, _, _, _⟩ := may_out hOK.st (by omega) hw2 hw3
      have h8 := HL.out.eight _ (List.getElem_mem hw2)
      have h4 := hOK.st.nx (show who < 3 by omega)
      obtain ⟨g, cap1, bo, cp, htv, hgl, hcl, hrr⟩ := HPR.out.row who hw2
      obtain ⟨rfl, rfl⟩ : ao = some ⟨g, 0, none⟩ ∧ cap = cap1 := by simpa using htv
      obtain ⟨g2, rfl⟩ : ∃ g2, bo = some ⟨g2, 0, none⟩ := by
        rcases hrr.2 with ⟨_, h0⟩ | ⟨g2, c2, cur, hvv, _⟩
        · omega
        · simp at hvv; exact ⟨g2, hvv.1⟩
      obtain ⟨d0, d1, d2, d3⟩ := rstep_cells hrr (nx τ who) hkx
      rw [← stp_in hw2 hkx] at d0 d1 d2 d3
      have s0 : ∀ W, SwS w4 w5.heap.size (rst τ) W → W.cell? ⟨g2, nx τ who * 4, none⟩ = some (.int .u8 (pk s (stp L τ who))) := fun W h => h.pg.cell d0 (by simp)
      have s1 : ∀ W, SwS w4 w5.heap.size (rst τ) W → W.cell? ⟨g2, nx τ who * 4 + 1, none⟩ = some (.int .i64 (stepA s (stp L τ who))) := fun W h => h.pg.cell d1 (by simp)
      have s2 : ∀ W, SwS w4 w5.heap.size (rst τ) W → W.cell? ⟨g2, nx τ who * 4 + 2, none⟩ = some (.int .i64 (stepB s (stp L τ who))) := fun W h => h.pg.cell d2 (by simp)
      have s3 : ∀ W, SwS w4 w5.heap.size (rst τ) W → W.cell? ⟨g2, nx τ who * 4 + 3, none⟩ = some (.int .i64 (stepAt s (stp L τ who) : Int)) := fun W h => h.pg.cell d3 (by simp)
      have s4 : ∀ W, SwS w4 w5.heap.size (rst τ) W → W.cell? ⟨g, who, none⟩ = some (.slice (some ⟨g2, 0, none⟩) L[who].length cp) := fun W h => h.pg.cell hcl (by simp)
      have s5 : ∀ W, SwS w4 w5.heap.size (rst τ) W → W.cell? ⟨w5.heap.size, who * 7 + 4, none⟩ = some (.int .i64 (nx τ who : Int)) := fun W h => by
        rw [cell_of_row W _ _ _ _ _ h.st, rst_int _ _ (by omega) (by omega) (by omega) (by omega), h4]
      have hi0 : (0 : Int) ≤ (nx τ who : Int) := by omega
      have hi1 : (nx τ who : Int) < (L[who].length : Int) := by omega
      have hi2 : (who : Int) < 3 := by omega
      have hi3 : (who : Int) < (L.length : Int) := by omega
      obtain ⟨i0, hi, hz0, hz1, hz2⟩ := info_parts info_made
      have HS6 : SwS w4 w5.heap.size (rst τ) w6.drew := ⟨HA2.out.st, rgrown_drew HA2.out.pg⟩
      have hgp : w6.grownBy (w6.alloc (.cells (madeC s who (stp L τ who)).toArray 53)).drew none := rgrown_drew (World.grownBy_alloc _ _ _)
      have HAP : Hid _ := HA2.out.later hgp
      have HNEW : Hid (∀ j u, (madeC s who (stp L τ who))[j]? = some u → (w6.alloc (.cells (madeC s who (stp L τ who)).toArray 53)).drew.cell? ((⟨w6.heap.size, 0, none⟩ : Addr).add j) = some u) := fun j u hu =>
        World.news_of_block (w := (w6.alloc (.cells (madeC s who (stp L τ who)).toArray 53)).drew) (heap_alloc_new _ _) j u (by simpa using hu)
      have HONE : Hid (∀ u ∈ madeC s who (stp L τ who), u.oneCell' = true) := fun u hu => by
        simp [madeC, rcells] at hu
        rcases hu with rfl | rfl | rfl | rfl | rfl <;> rfl
      have HBS : Hid (w5.heap.size + 1 ≤ (w6.alloc (.cells (madeC s who (stp L τ who)).toArray 53)).drew.heap.size) := by
        have := lt_of_block HAP.out.st; exact this
      clear d0 d1 d2 d3 hcl hrr htv hgp
      unfold madeC rcells at HNEW HONE HBS HAP HMK
      generalize L[who].length = len at *
      generalize nx τ who = kx at *
      generalize pk s (stp L τ who) = x0 at *
      generalize stepA s (stp L τ who) = x1 at *
      generalize stepB s (stp L τ who) = x2 at *
      generalize (stepAt s (stp L τ who) : Int) = x3 at *
      go_region_held3 (fun W => SwS w4 w5.heap.size (rst τ) W) (first | assumption | exact SwS.allocd ‹SwS _ _ _ _› _) (first | (refine step_append_lies _ rfl (.tmp 101) (.tmp 115) 47 rfl (w5.heap.size + 1) 53 i0 _ 5 40 Try.underlying47 hi hz0 hz1 hz2 rfl (by decide) _ pos _ rfl HAP.out.own ⟨w6.heap.size, 0, none⟩ 1 1 _ rfl rfl HNEW.out HONE.out (by decide) (by unfold maxLen; omega) (by omega) HBS.out _ rfl ?_; intro g7 cap7 w7 hown7 hgrow7 hat7 hlt7; have HA7 : Hid _ := HAP.out.app hbw hb2 hgrow7 hown7; have HS7 : SwS w4 w5.heap.size (rst τ) w7 := ⟨HA7.out.st, HA7.out.pg⟩))
      go_wp2_with (first | (refine ld_row 45 (.tmp 17) w5.heap.size ?_ (rst τ) ?_ Try.underlying45 rfl (info_rstate _) ?_; rfl; exact HA7.out.st) | (go_at_call 15; go_must (refine Calls.mono (HT.out _ HA7.out.pg) ?_; rintro e8 w8 ⟨rfl, hg8⟩; have HA8 : Hid _ := HA7.out.later hg8; clear hg8)) | (refine st_row0 45 (.tmp 17) (.tmp 120) w5.heap.size (rst (turnF s L τ who)) ?_ ?_ (rst τ) HA8.out.st (info_rstate _) ?_ (rst_oneCell _) ?_; rfl; rfl; (rw [rst_size, rst_size])))
      go_roundw
      case rel =>
        refine ⟨pos + 1, by omega, by go_num, ?_⟩
        have hfl : (List.range (pos + 1)).flatMap (mk s L row σ) = (List.range pos).flatMap (mk s L row σ) ++ mk s L row σ pos := by rw [List.range_succ, List.flatMap_append]; simp
        rw [hfl, HMK.out, HSN.out]
        exact HA8.out.put hbw hb2
      case measure => simp [intOf]; omega
    · have hpe : pos = row.size := by omega
      obtain ⟨gm, capm, rfl⟩ : ∃ gm capm, u18 = .slice (some ⟨gm, 0, none⟩) row.size capm := by
        rcases hat.out.own.2 with ⟨_, h0⟩ | ⟨gm, capm, cur, hvv, _⟩
        · omega
        · exact ⟨gm, capm, by rw [hvv, hpe]⟩
      have hO2 : ∀ W, wr.grownBy W none → ∀ i, i < row.size → ∀ j u, j < 5 → (mk s L row σ i)[j]? = some u → W.cell? ⟨gm, i * 5 + j, none⟩ = some u := fun W hW i hi j u hj hu => by
        have h1 := hat.out.own.cells (g := gm) rfl (i * 5 + j) u (by
          rw [flatMap_get (mk_len s L row σ) (List.range pos) i (by simp; omega) j hj]
          simpa using hu)
        have hadd : (⟨gm, 0, none⟩ : Addr).add (i * 5 + j) = ⟨gm, i * 5 + j, none⟩ := by unfold Addr.add; split <;> simp_all
        rw [hadd] at h1
        exact hW.cell h1 (by simp)
      have HBD : Hid _ := fun W => rBound_any s (whoAt row k) (stp L (stFrom s L row 0 σ k) (whoAt row k)) (whoAt row (k + 1)) (stp L (stFrom s L row 0 σ (k + 1)) (whoAt row (k + 1))) W
      have hsw : boundB s (whoAt row k) (stp L (stFrom s L row 0 σ k) (whoAt row k)) (whoAt row (k + 1)) (stp L (stFrom s L row 0 σ (k + 1)) (whoAt row (k + 1))) = false → runRow s L (swRow row k) (swRow row k).size 0 σ = (t, 0, 0) :=
        fun hb => swap_run HL.out hok (sw_swaps hk2) ((run_iff row.size 0 σ t).2 HRUN.out) hb
      have HSW : Hid _ := hsw
      have q0 : ∀ W, GrS wr W → W.cell? ⟨gm, k * 5, none⟩ = some (.int .i64 (whoAt row k : Int)) := fun W h => hO2 W h.gr k (by omega) 0 _ (by omega) rfl
      have q1 : ∀ W, GrS wr W → W.cell? ⟨gm, k * 5 + 1, none⟩ = some (.int .u8 (pk s (stp L (stFrom s L row 0 σ k) (whoAt row k)))) := fun W h => hO2 W h.gr k (by omega) 1 _ (by omega) rfl
      have q2 : ∀ W, GrS wr W → W.cell? ⟨gm, k * 5 + 2, none⟩ = some (.int .i64 (stepA s (stp L (stFrom s L row 0 σ k) (whoAt row k)))) := fun W h => hO2 W h.gr k (by omega) 2 _ (by omega) rfl
      have q3 : ∀ W, GrS wr W → W.cell? ⟨gm, k * 5 + 3, none⟩ = some (.int .i64 (stepB s (stp L (stFrom s L row 0 σ k) (whoAt row k)))) := fun W h => hO2 W h.gr k (by omega) 3 _ (by omega) rfl
      have q4 : ∀ W, GrS wr W → W.cell? ⟨gm, k * 5 + 4, none⟩ = some (.int .i64 (stepAt s (stp L (stFrom s L row 0 σ k) (whoAt row k)) : Int)) := fun W h => hO2 W h.gr k (by omega) 4 _ (by omega) rfl
      have r0 : ∀ W, GrS wr W → W.cell? ⟨gm, (k + 1) * 5, none⟩ = some (.int .i64 (whoAt row (k + 1) : Int)) := fun W h => hO2 W h.gr (k + 1) (by omega) 0 _ (by omega) rfl
      have r1 : ∀ W, GrS wr W → W.cell? ⟨gm, (k + 1) * 5 + 1, none⟩ = some (.int .u8 (pk s (stp L (stFrom s L row 0 σ (k + 1)) (whoAt row (k + 1))))) := fun W h => hO2 W h.gr (k + 1) (by omega) 1 _ (by omega) rfl
      have r2 : ∀ W, GrS wr W → W.cell? ⟨gm, (k + 1) * 5 + 2, none⟩ = some (.int .i64 (stepA s (stp L (stFrom s L row 0 σ (k + 1)) (whoAt row (k + 1))))) := fun W h => hO2 W h.gr (k + 1) (by omega) 2 _ (by omega) rfl
      have r3 : ∀ W, GrS wr W → W.cell? ⟨gm, (k + 1) * 5 + 3, none⟩ = some (.int .i64 (stepB s (stp L (stFrom s L row 0 σ (k + 1)) (whoAt row (k + 1))))) := fun W h => hO2 W h.gr (k + 1) (by omega) 3 _ (by omega) rfl
      have r4 : ∀ W, GrS wr W → W.cell? ⟨gm, (k + 1) * 5 + 4, none⟩ = some (.int .i64 (stepAt s (stp L (stFrom s L row 0 σ (k + 1)) (whoAt row (k + 1))) : Int)) := fun W h => hO2 W h.gr (k + 1) (by omega) 4 _ (by omega) rfl
      have HGW : Hid _ := hat.out.gr
      have HS0 : GrS wr wr.drew := ⟨rgrown_drew (grownBy_refl _ _)⟩
      have j0 : (0 : Int) ≤ (k : Int) := by omega
      have j1 : (k : Int) < (row.size : Int) := by omega
      have j2 : (k : Int) + 1 < (row.size : Int) := by omega
      have j3 : (0 : Int) ≤ (k : Int) + 1 := by omega
      have v1 : IntKind.i64.wrap ((k : Int) + 1) = (k : Int) + 1 := wrap_small _ (by omega) (by omega)
      have v2 : IntKind.i64.wrap ((k : Int) + 2) = (k : Int) + 2 := wrap_small _ (by omega) (by omega)
      have v3 : ((k : Int) + 1).toNat = k + 1 := by omega
      have v4 : ((k : Int) + 2).toNat = k + 2 := by omega
      unfold madeC rcells at HBD
      clear hO2 hsw hpe HRUN HPR HL hok hat
      generalize stFrom s L row 0 σ k = τ1 at *
      generalize stFrom s L row 0 σ (k + 1) = τ2 at *
      generalize stp L τ1 (whoAt row k) = y1 at *
      generalize stp L τ2 (whoAt row (k + 1)) = y2 at *
      cases hbd : boundB s (whoAt row k) y1 (whoAt row (k + 1)) y2 with
      | true =>
        rw [hbd] at HBD
        clear hbd HSW
        go_wp2_with fail
        go_region_held3 (fun W => GrS wr W) (first | assumption | exact GrS.later ‹GrS _ _› ‹World.grownBy _ _ _›) (first | (go_at_call 16; refine Calls.mono (HBD.out _) ?_; rintro e9 w9 ⟨rfl, hg9⟩))
        go_wp2_with fail
        go_ret
        exact ⟨rfl, grownBy_trans HGW.out (‹GrS _ _›).gr⟩
      | false =>
        rw [hbd] at HBD
        have hru := HSW.out hbd
        have hpp := HPV.out _ _ (by rw [(sw_swaps hk2).size]; unfold maxLen; omega) hru
        unfold swRow at hpp
        have HPP : Hid _ := hpp
        clear hbd HSW hru hpp
        have z0 : (row.extract 0 k).size = k := by simp; omega
        have z1 : (row.extract (k + 1) (k + 2)).size = 1 := by simp; omega
        have z2 : (row.extract k (k + 1)).size = 1 := by simp; omega
        have z3 : (row.extract (k + 2) row.size).size = row.size - (k + 2) := by simp
        have y01 : (row.extract 0 k ++ row.extract (k + 1) (k + 2)).size = k + 1 := by rw [ByteArray.size_append, z0, z1]
        have y012 : (row.extract 0 k ++ row.extract (k + 1) (k + 2) ++ row.extract k (k + 1)).size = k + 2 := by rw [ByteArray.size_append, y01, z2]
        have c1 := catB_run (row.extract 0 k) (row.extract (k + 1) (k + 2)) (by omega)
        have c2 := catB_run (row.extract 0 k ++ row.extract (k + 1) (k + 2)) (row.extract k (k + 1)) (by omega)
        have c3 := catB_run (row.extract 0 k ++ row.extract (k + 1) (k + 2) ++ row.extract k (k + 1)) (row.extract (k + 2) row.size) (by omega)
        clear z0 z1 z2 z3 y01 y012
        have i1 : (k : Int) ≤ (row.size : Int) := by omega
        have i2 : (k : Int) + 2 ≤ (row.size : Int) := by omega
        have i3 : (0 : Int) ≤ (k : Int) + 2 := by omega
        have i4 : (k : Int) + 1 ≤ (row.size : Int) := by omega
        have i5 : (k : Int) + 1 ≤ (k : Int) + 2 := by omega
        have i6 : (k : Int) ≤ (k : Int) + 1 := by omega
        go_wp2_with fail
        go_region_held3 (fun W => GrS wr W) (first | assumption | exact GrS.later ‹GrS _ _› ‹World.grownBy _ _ _›) (first | (go_at_call 16; refine Calls.mono (HBD.out _) ?_; rintro e9 w9 ⟨rfl, hg9⟩))
        go_wp2_with fail
        obtain ⟨w9', hw9⟩ : ∃ w9', w9' = w9 := ⟨_, rfl⟩
        have HS9 : GrS wr w9.drew := ⟨rgrown_drew (‹GrS wr w9›).gr⟩
        go_region_held3 (fun W => GrS wr W) (first | assumption | exact GrS.later ‹GrS _ _› ‹World.grownBy _ _ _›) (first | (go_at_call 9; refine Calls.mono (HPP.out _) ?_; rintro e10 w10 ⟨rfl, hg10⟩))
        go_wp2_with (go_at_call 8; go_must (refine Calls.mono (num_any _ _) ?_; rintro e11 w11 ⟨rfl, rfl⟩))
        go_ret
        exact ⟨rfl, grownBy_trans HGW.out (‹GrS _ _›).gr⟩
end Go.Proofs.Ytifidfgihpkgcaa

