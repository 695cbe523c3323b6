import Derived.Test.YtimgindeiekpmaaRefB
set_option linter.unusedSimpArgs false
set_option linter.unusedVariables false
namespace Go.Proofs.Ytimgindeiekpmaa
open Go.RowKit Wv

theorem info_rstep : (Try.prog.info? 50).map (fun i => (i.zero, i.size, i.bytes)) = some (some (.agg #[.int .u8 0, .int .i64 0, .int .i64 0, .int .i64 0]), 4, 32) := by kernel_rfl
theorem info_rsteps : (Try.prog.info? 51).map (fun i => (i.zero, i.size, i.bytes)) = some (some (.slice none 0 0), 1, 24) := by kernel_rfl

theorem pk_some' {s : ByteArray} {i : Nat} (h : 0 ≤ pk s i) : i < s.size := by
  rcases Nat.lt_or_ge i s.size with h' | h'
  · exact h'
  · rw [pk_out (by omega)] at h; omega
theorem rstep_le {s : ByteArray} {i : Nat} (h : stepBad s i = none) : stepAt s i + 1 ≤ s.size := by
  unfold stepBad at h
  split at h
  · cases h
  · rename_i hne
    have hp := List.length_pos_iff.2 hne
    have := pk_some' (scan_le h ((frm (pk s i)).length - 1) (by omega))
    unfold stepAt
    omega
theorem thr_end {s : ByteArray} {m i : Nat} {l : List Nat} (h : stepBad s i = none) (hp : pk s (stepAt s i + 1) = -1 ∨ pk s (stepAt s i + 1) = 124) : thr s m i l = .ok (l ++ [i], stepAt s i + 1) := by
  cases m <;> simp [thr, h, hp]
theorem thr_err {s : ByteArray} {m i : Nat} {l : List Nat} (h : stepBad s i = none) (h1 : pk s (stepAt s i + 1) ≠ -1) (h2 : pk s (stepAt s i + 1) ≠ 124) (hp : pk s (stepAt s i + 1) ≠ 59 ∨ m = 0) : thr s m i l = .error (stepAt s i + 1) := by
  rcases hp with hp | hp
  · cases m <;> simp [thr, h, h1, h2, hp]
  · subst hp; simp [thr, h, h1, h2]

theorem cells_new2 (w : World) (o : Obj) (xs : List Value) (t : TypeId) (j : Nat) (u : Value) (h : xs[j]? = some u) : ((w.alloc o).alloc (.cells xs.toArray t)).cell? ((⟨w.heap.size + 1, 0, none⟩ : Addr).add j) = some u := by
  have hs : (w.alloc o).heap.size = w.heap.size + 1 := by simp
  rw [← hs]
  exact cells_new (w.alloc o) xs t j u h

def RThrPost (s : ByteArray) (T : Except Nat (List Nat × Nat)) (w : World) (e : Ending) (w' : World) : Prop :=
  w.grownBy w' none ∧ match T with
  | .error p => e = .returned (.tuple #[.slice none 0 0, .int .i64 (p : Int), .bool false])
  | .ok (l, j) => ∃ v, e = .returned (.tuple #[v, .int .i64 (j : Int), .bool true]) ∧ w'.ownsRow w.heap.size 50 4 v l.length (l.flatMap (rcells s))

set_option maxHeartbeats 2000000 in
set_option maxRecDepth 100000 in
theorem rthread_any (s : ByteArray) (i : Nat) (w : World) (hs : s.size ≤ 150) (hi : i ≤ s.size) : Calls Try.prog 45 #[.string s, .int .i64 (i : Int)] w (RThrPost s (thread s i) w) := by
  by_cases hlt : i < s.size
  · have hix := run_index_pk s (i : Int) i rfl hlt
    by_cases hbar : pk s i = 124
    · have ht : thread s i = .ok ([], i) := by unfold thread; rw [if_pos (.inr hbar)]
      rw [ht]
      rw [hbar] at hix
      clear hbar ht
      go_enter Try.func45, Try.ntmps45
      go_wp2
      go_ret3
      exact ⟨grownBy_refl _ _, _, rfl, World.ownsRow_nil _ _ _ _⟩
    · have hp0 : 0 ≤ pk s i := by rw [pk_in hlt]; omega
      have ht : thread s i = thr s 7 i [] := by unfold thread; rw [if_neg (by omega)]
      rw [ht]
      clear ht
      obtain ⟨T, HT⟩ : ∃ T, Hid (thr s 7 i [] = T) := ⟨_, rfl⟩
      rw [HT.out]
      have hb1 : (pk s i == 124) = false := by simpa using hbar
      obtain ⟨p0, HP0⟩ : ∃ p0, Hid (pk s i = p0) := ⟨_, rfl⟩
      rw [HP0.out] at hix hb1
      clear hbar hp0
      obtain ⟨i0, hio, hz0, hz1, hz2⟩ := info_parts info_rstep
      have hdN : decide (s.size ≤ i) = false := by simp; omega
      have hdI : decide ((s.size : Int) ≤ (i : Int)) = false := by simp; omega
      go_enter Try.func45, Try.ntmps45
      go_wp2_with fail
      clear hix
      go_loopw [1, 7] (fun iv lv wr => ∃ (k : Nat) (l : List Nat), k ≤ s.size ∧ iv = .int .i64 (k : Int) ∧ l.length ≤ 7 ∧ w.grownBy wr none ∧ wr.ownsRow w.heap.size 50 4 lv l.length (l.flatMap (rcells s)) ∧ Hid (thr s (7 - l.length) k l = T)) (fun iv _ _ => s.size + 1 - (intOf iv).toNat)
      case atStart => exact ⟨i, [], hi, rfl, by simp, grownBy_refl _ _, World.ownsRow_nil _ _ _ _, HT⟩
      case round =>
        obtain ⟨k, l, hk, rfl, hl7, hgr, hown, hT⟩ := hrel
        have hst := rstep_any s k wr hs hk
        have hsz := hgr.size
        have HGR : Hid _ := hgr
        have HOWN : Hid _ := hown
        clear hgr hown
        cases hsb : stepBad s k with
        | some p =>
          have HS : Hid (Calls Try.prog 66 #[.string s, .int .i64 (k : Int)] wr fun e w' => ∃ x0 x1 x2 x3, e = .returned (.tuple #[.agg #[.int .u8 x0, .int .i64 x1, .int .i64 x2, .int .i64 x3], .int .i64 (p : Int), .bool false]) ∧ wr.grownBy w' none) :=
            hst.mono fun e w' h => by unfold RStepPost at h; rw [hsb] at h; obtain ⟨h1, x0, x1, x2, x3, h2⟩ := h; exact ⟨x0, x1, x2, x3, h2, h1⟩
          have HE : Hid (T = .error p) := by rw [← hT.out, thr_bad hsb]; rfl
          clear hst hsb hT
          go_wp2_with (go_at_call 66; go_must (refine Calls.mono HS.out ?_; rintro e w2 ⟨x0, x1, x2, x3, rfl, hg⟩))
          go_ret3
          rw [HE.out]
          exact ⟨grownBy_trans (grownBy_trans HGR.out hg) (World.grownBy_alloc _ _ _), rfl⟩
        | none =>
          obtain ⟨c, A, B, At, hrc⟩ : ∃ c A B At, rcells s k = [.int .u8 c, .int .i64 A, .int .i64 B, .int .i64 At] := ⟨_, _, _, _, rfl⟩
          have HS : Hid (Calls Try.prog 66 #[.string s, .int .i64 (k : Int)] wr fun e w' => e = .returned (.tuple #[.agg #[.int .u8 c, .int .i64 A, .int .i64 B, .int .i64 At], .int .i64 ((stepAt s k : Int) + 1), .bool true]) ∧ wr.grownBy w' none) :=
            hst.mono fun e w' h => by unfold RStepPost at h; rw [hsb, hrc] at h; exact ⟨h.2, h.1⟩
          have HRC : Hid _ := hrc
          have HSB : Hid _ := hsb
          have hile : stepAt s k + 1 ≤ s.size := rstep_le hsb
          have hige : k ≤ stepAt s k := by unfold stepAt; omega
          clear hst hsb hrc
          go_wp2_with (first | (go_at_call 66; go_must (refine Calls.mono HS.out ?_; rintro e w2 ⟨rfl, hg⟩; have hown2 := World.ownsRow.kept HOWN.out hg (Classical.em _); have hsz2 := hg.size; have HG : Hid _ := hg; clear hg)) | (at_builtin; go_must (refine wpList_append_own _ rfl _ _ 51 rfl w.heap.size 50 i0 _ 4 32 Try.underlying51 hio hz0 hz1 hz2 rfl (by decide) _ _ _ rfl ((hown2.alloc _).alloc _) ⟨w2.heap.size + 1, 0, none⟩ 1 1 [.int .u8 c, .int .i64 A, .int .i64 B, .int .i64 At] rfl rfl ?c1 ?c2 ?c3 ?c4 ?c5 ?_)))
          case c1 => exact cells_new2 w2 _ [.int .u8 c, .int .i64 A, .int .i64 B, .int .i64 At] _
          case c2 =>
            intro u hu
            simp at hu
            rcases hu with rfl | rfl | rfl | rfl <;> rfl
          case c3 => unfold maxLen; omega
          case c4 => omega
          case c5 => simp; omega
          intro v' w3 hown' hgrow _
          obtain ⟨g, cap', hv, hgb⟩ := ownsRow_shape hown'
          have hgw3 : w.grownBy w3 none := grownBy_new' (grownBy_trans (grownBy_trans (grownBy_trans HGR.out HG.out) (World.grownBy_alloc _ _ _)) (World.grownBy_alloc _ _ _)) hgrow (fun r e => (hown2.lt r e).1)
          have hown3 : w3.ownsRow w.heap.size 50 4 v' (l ++ [k]).length ((l ++ [k]).flatMap (rcells s)) := by
            rw [List.flatMap_append]
            simpa [HRC.out] using hown'
          clear hown' hgrow hown2 HG HS HGR HOWN HRC
          subst hv
          have HGW : Hid _ := hgw3
          have HO3 : Hid _ := hown3
          clear hgw3 hown3
          by_cases hjl : stepAt s k + 1 < s.size
          · have hix := run_index_pk s ((stepAt s k : Int) + 1) (stepAt s k + 1) (by omega) hjl
            have hp0 : 0 ≤ pk s (stepAt s k + 1) := by rw [pk_in hjl]; omega
            by_cases hq : pk s (stepAt s k + 1) = 124
            · have HE : Hid (T = .ok (l ++ [k], stepAt s k + 1)) := by rw [← hT.out, thr_end HSB.out (.inr hq)]; rfl
              rw [hq] at hix
              clear hq hp0 hT HSB
              go_wp2_with fail
              go_ret3
              rw [HE.out]
              exact ⟨HGW.out, _, by rw [show ((stepAt s k + 1 : Nat) : Int) = (stepAt s k : Int) + 1 from by omega]; rfl, HO3.out⟩
            · by_cases hq2 : pk s (stepAt s k + 1) = 59
              · by_cases hl : l.length < 7
                · have HE : Hid (thr s (7 - (l ++ [k]).length) (stepAt s k + 2) (l ++ [k]) = T) := by
                    have h7 : 7 - l.length = (6 - l.length) + 1 := by omega
                    have := hT.out
                    rw [h7, thr_go HSB.out hq2] at this
                    rw [show 7 - (l ++ [k]).length = 6 - l.length from by simp]
                    exact this
                  rw [hq2] at hix
                  have hl8 : ((l.length : Int) + 1 == 8) = false := by simp; omega
                  clear hq hq2 hp0 hT HSB
                  go_wp2_with fail
                  go_roundw
                  case rel => exact ⟨stepAt s k + 2, l ++ [k], by omega, by go_num, by simp; omega, HGW.out, HO3.out, HE⟩
                  case measure => simp [intOf]; omega
                · have HE : Hid (T = .error (stepAt s k + 1)) := by rw [← hT.out, thr_err HSB.out (by omega) hq (.inr (by omega))]; rfl
                  rw [hq2] at hix
                  have hl8 : ((l.length : Int) + 1 == 8) = true := by simp; omega
                  clear hq hq2 hp0 hT HSB
                  go_wp2_with fail
                  go_ret3
                  rw [HE.out]
                  exact ⟨HGW.out, rfl⟩
              · have HE : Hid (T = .error (stepAt s k + 1)) := by rw [← hT.out, thr_err HSB.out (by omega) hq (.inl hq2)]; rfl
                have e1 : (pk s (stepAt s k + 1) == 124) = false := by simpa using hq
                have e2 : (pk s (stepAt s k + 1) != 59) = true := by simpa using hq2
                generalize pk s (stepAt s k + 1) = p at *
                clear hq hq2 hp0 hT HSB
                go_wp2_with fail
                go_ret3
                rw [HE.out]
                exact ⟨HGW.out, rfl⟩
          · have HE : Hid (T = .ok (l ++ [k], stepAt s k + 1)) := by rw [← hT.out, thr_end HSB.out (.inl (pk_out hjl))]; rfl
            clear hT HSB
            go_wp2_with fail
            go_ret3
            rw [HE.out]
            exact ⟨HGW.out, _, by rw [show ((stepAt s k + 1 : Nat) : Int) = (stepAt s k : Int) + 1 from by omega]; rfl, HO3.out⟩
  · have ht : thread s i = .ok ([], i) := by unfold thread; rw [if_pos (.inl (pk_out hlt))]
    rw [ht]
    clear ht
    go_enter Try.func45, Try.ntmps45
    go_wp2
    go_ret3
    exact ⟨grownBy_refl _ _, _, rfl, World.ownsRow_nil _ _ _ _⟩

end Go.Proofs.Ytimgindeiekpmaa
