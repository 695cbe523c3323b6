import Derived.Test.YtimgindeiekpmaaRefC
set_option linter.unusedSimpArgs false
set_option linter.unusedVariables false
namespace Go.Proofs.Ytimgindeiekpmaa
open Go.RowKit Wv

theorem thr_le {s : ByteArray} : ∀ {m i j : Nat} {l l' : List Nat}, thr s m i l = .ok (l', j) → i ≤ j ∧ j ≤ s.size
  | m, i, j, l, l', h => by
    cases hb : stepBad s i with
    | some p => cases m <;> simp [thr, hb] at h
    | none =>
      have h1 := rstep_le hb
      have h2 : i ≤ stepAt s i := by unfold stepAt; omega
      cases m with
      | zero =>
        simp only [thr, hb] at h
        split at h
        · simp at h; omega
        · cases h
      | succ m =>
        simp only [thr, hb] at h
        split at h
        · simp at h; omega
        · split at h
          · have := thr_le (m := m) h
            omega
          · cases h
theorem thread_le {s : ByteArray} {i j : Nat} {l : List Nat} (h : thread s i = .ok (l, j)) (hi : i ≤ s.size) : i ≤ j ∧ j ≤ s.size := by
  unfold thread at h
  split at h
  · simp at h; omega
  · exact thr_le h
theorem rd_err {s : ByteArray} {n i p : Nat} {L : List (List Nat)} (h : thread s i = .error p) : rd s n i L = .error p := by rw [rd_aft, h]; rfl
theorem rd_end {s : ByteArray} {n i j : Nat} {l : List Nat} {L : List (List Nat)} (h : thread s i = .ok (l, j)) (hj : ¬ j < s.size) : rd s n i L = .ok (L ++ [l]) := by
  rw [rd_aft, h]; simp [aft, pk_out hj]
theorem rd_go {s : ByteArray} {n i j : Nat} {l : List Nat} {L : List (List Nat)} (h : thread s i = .ok (l, j)) (hj : j < s.size) : rd s (n + 1) i L = rd s n (j + 1) (L ++ [l]) := by
  have : pk s j ≠ -1 := by rw [pk_in hj]; omega
  rw [rd_aft, h]; simp [aft, this]
theorem rd_full {s : ByteArray} {i j : Nat} {l : List Nat} {L : List (List Nat)} (h : thread s i = .ok (l, j)) (hj : j < s.size) : rd s 0 i L = .error j := by
  have : pk s j ≠ -1 := by rw [pk_in hj]; omega
  rw [rd_aft, h]; simp [aft, this]

def RReadPost (s : ByteArray) (R : Except Nat (List (List Nat))) (w : World) (e : Ending) (w' : World) : Prop :=
  w.grownBy w' none ∧ match R with
  | .error p => e = .returned (.tuple #[.slice none 0 0, .int .i64 (p : Int), .bool false])
  | .ok L => ∃ tv vs j, e = .returned (.tuple #[tv, .int .i64 j, .bool true]) ∧ OwnT w' w.heap.size 51 50 4 (rcells s) w'.heap.size tv vs L

set_option maxHeartbeats 2000000 in
set_option maxRecDepth 100000 in
theorem rread_any (s : ByteArray) (w : World) (hs : s.size ≤ 150) : Calls Try.prog 20 #[.string s] w (RReadPost s (rd s 2 0 []) w) := by
  obtain ⟨R, HR⟩ : ∃ R, Hid (rd s 2 0 [] = R) := ⟨_, rfl⟩
  rw [HR.out]
  obtain ⟨i0, hio, hz0, hz1, hz2⟩ := info_parts info_rsteps
  go_enter Try.func20, Try.ntmps20
  go_wp2_with fail
  go_loopw [5, 6] (fun tv iv wr => ∃ (k : Nat) (L : List (List Nat)) (vs : List Value), k ≤ s.size ∧ iv = .int .i64 (k : Int) ∧ L.length ≤ 2 ∧ w.grownBy wr none ∧ OwnT wr w.heap.size 51 50 4 (rcells s) wr.heap.size tv vs L ∧ Hid (rd s (2 - L.length) k L = R)) (fun _ iv _ => s.size + 1 - (intOf iv).toNat)
  case atStart => exact ⟨0, [], [], Nat.zero_le _, rfl, by simp, grownBy_refl _ _, OwnT.nil _ _ _ _ _ _ _, HR⟩
  case round =>
    obtain ⟨k, L, vs, hk, rfl, hL2, hgr, hown, hR⟩ := hrel
    have hst := rthread_any s k wr hs hk
    have hsz := hgr.size
    have HGR : Hid _ := hgr
    have HOWN : Hid _ := hown
    clear hgr hown
    cases ht : thread s k with
    | error p =>
      have HS : Hid (Calls Try.prog 45 #[.string s, .int .i64 (k : Int)] wr fun e w' => e = .returned (.tuple #[.slice none 0 0, .int .i64 (p : Int), .bool false]) ∧ wr.grownBy w' none) :=
        hst.mono fun e w' h => by rw [ht] at h; exact ⟨h.2, h.1⟩
      have HE : Hid (R = .error p) := by rw [← hR.out, rd_err ht]; rfl
      clear hst ht hR
      go_wp2_with (go_at_call 45; go_must (refine Calls.mono HS.out ?_; rintro e w2 ⟨rfl, hg⟩))
      go_ret3
      rw [HE.out]
      exact ⟨grownBy_trans HGR.out hg, rfl⟩
    | ok x =>
      obtain ⟨l, j⟩ := x
      have HS : Hid (Calls Try.prog 45 #[.string s, .int .i64 (k : Int)] wr fun e w' => ∃ ao cap, e = .returned (.tuple #[.slice ao l.length cap, .int .i64 (j : Int), .bool true]) ∧ w'.ownsRow wr.heap.size 50 4 (.slice ao l.length cap) l.length (l.flatMap (rcells s)) ∧ wr.grownBy w' none) :=
        hst.mono fun e w' h => by
          rw [ht] at h
          obtain ⟨h1, v, h2, h3⟩ := h
          obtain ⟨ao, cap, rfl⟩ := ownsRow_slice h3
          exact ⟨ao, cap, h2, h3, h1⟩
      have hjl := thread_le ht hk
      have HTH : Hid _ := ht
      clear hst ht
      go_wp2_with (first | (go_at_call 45; go_must (refine Calls.mono HS.out ?_; rintro e w2 ⟨ao, cap, rfl, hrow, hg⟩; have hown2 := HOWN.out.kept hg (Classical.em _) (by simp); have hout2 := hown2.out; have hsz2 := hg.size; have HG : Hid _ := hg; have HROW : Hid _ := hrow; have HO2 : Hid _ := hown2; clear hg hrow hown2)) | (at_builtin; go_must (refine wpList_append_own _ rfl _ _ 35 rfl w.heap.size 51 i0 _ 1 24 Try.underlying35 hio hz0 hz1 hz2 rfl (by decide) _ _ _ rfl (hout2.alloc _) ⟨w2.heap.size, 0, none⟩ 1 1 [.slice ao l.length cap] rfl rfl ?c1 ?c2 ?c3 ?c4 ?c5 ?_)))
      case c1 => exact cells_new w2 [.slice ao l.length cap] _
      case c2 => intro u hu; simp at hu; subst hu; rfl
      case c3 => unfold maxLen; omega
      case c4 => omega
      case c5 => simp; omega
      intro v' w3 hown' hgrow _
      obtain ⟨g, cap', hv, hgb⟩ := ownsRow_shape hown'
      have hgw3 : w.grownBy w3 none := grownBy_new' (grownBy_trans (grownBy_trans HGR.out HG.out) (World.grownBy_alloc _ _ _)) hgrow (fun r e => (hout2.lt r e).1)
      have hown3 : OwnT w3 w.heap.size 51 50 4 (rcells s) w3.heap.size v' (vs ++ [.slice ao l.length cap]) (L ++ [l]) := by
        have h1 : OwnT (w2.alloc (.cells #[.slice ao l.length cap] 51)) w.heap.size 51 50 4 (rcells s) wr.heap.size _ vs L := HO2.out.kept (World.grownBy_alloc _ _ none) (Classical.em _) (by simp)
        have h2 : Inner (w2.alloc (.cells #[.slice ao l.length cap] 51)) w.heap.size 50 4 (rcells s) w2.heap.size (.slice ao l.length cap) l :=
          ⟨ownsRow_base (World.ownsRow.alloc HROW.out _) hsz, fun g hg => (World.ownsRow.lt HROW.out g hg).2⟩
        exact (h1.push h2 hsz2 (by decide) hgrow hown').mono (by have := hgrow.size; simp at this; omega)
      clear hown' hgrow hout2 HG HS HGR HOWN HROW HO2
      subst hv
      have HGW : Hid _ := hgw3
      have HO3 : Hid _ := hown3
      clear hgw3 hown3
      by_cases hj : j < s.size
      · by_cases hL : L.length < 2
        · have HE : Hid (rd s (2 - (L ++ [l]).length) (j + 1) (L ++ [l]) = R) := by
            have := hR.out
            rw [show 2 - L.length = (1 - L.length) + 1 from by omega, rd_go HTH.out hj] at this
            rw [show 2 - (L ++ [l]).length = 1 - L.length from by simp]
            exact this
          have hl3 : ((L.length : Int) + 1 == 3) = false := by simp; omega
          clear hR HTH
          go_wp2_with fail
          go_roundw
          case rel => exact ⟨j + 1, L ++ [l], _, by omega, by go_num, by simp; omega, HGW.out, HO3.out, HE⟩
          case measure => simp [intOf]; omega
        · have HE : Hid (R = .error j) := by rw [← hR.out, show 2 - L.length = 0 from by omega, rd_full HTH.out hj]; rfl
          have hl3 : ((L.length : Int) + 1 == 3) = true := by simp; omega
          clear hR HTH
          go_wp2_with fail
          go_ret3
          rw [HE.out]
          exact ⟨HGW.out, rfl⟩
      · have HE : Hid (R = .ok (L ++ [l])) := by rw [← hR.out, rd_end HTH.out hj]; rfl
        clear hR HTH
        go_wp2_with fail
        go_ret3
        rw [HE.out]
        exact ⟨HGW.out, _, _, _, rfl, HO3.out⟩

end Go.Proofs.Ytimgindeiekpmaa
