import Derived.Test.YtimgindeiekpmaaRefD
set_option linter.unusedSimpArgs false
set_option linter.unusedVariables false
namespace Go.Proofs.Ytimgindeiekpmaa
open Go.RowKit Wv

theorem rcells_len (s : ByteArray) (i : Nat) : (rcells s i).length = 4 := rfl
theorem rstep_cells {wr : World} {base g n cap : Nat} {s : ByteArray} {l : List Nat} (hown : wr.ownsRow base 50 4 (.slice (some ⟨g, 0, none⟩) n cap) l.length (l.flatMap (rcells s))) (k : Nat) (hk : k < l.length) :
    wr.cell? ⟨g, k * 4, none⟩ = some (.int .u8 (pk s l[k])) ∧ wr.cell? ⟨g, k * 4 + 1, none⟩ = some (.int .i64 (stepA s l[k])) ∧ wr.cell? ⟨g, k * 4 + 2, none⟩ = some (.int .i64 (stepB s l[k])) ∧
    wr.cell? ⟨g, k * 4 + 3, none⟩ = some (.int .i64 (stepAt s l[k] : Int)) := by
  have key : ∀ j u, j < 4 → (rcells s l[k])[j]? = some u → wr.cell? ⟨g, k * 4 + j, none⟩ = some u := by
    intro j u hj hu
    have h1 := hown.cells (g := g) rfl (k * 4 + j) u (by rw [flatMap_get (rcells_len s) l k hk j hj]; exact hu)
    have hadd : (⟨g, 0, none⟩ : Addr).add (k * 4 + j) = ⟨g, k * 4 + j, none⟩ := by unfold Addr.add; split <;> simp_all
    rw [hadd] at h1
    exact h1
  exact ⟨key 0 _ (by omega) rfl, key 1 _ (by omega) rfl, key 2 _ (by omega) rfl, key 3 _ (by omega) rfl⟩

/-- Row k of a row of rows. -/
theorem OwnT.at {w : World} {base ts te sz : Nat} {cel : Nat → List Value} {B : Nat} {ao : Option Addr} {cap : Nat} {vs : List Value} {L : List (List Nat)}
    (h : OwnT w base ts te sz cel B (.slice ao L.length cap) vs L) (k : Nat) (hk : k < L.length) :
    ∃ g bo cp, ao = some ⟨g, 0, none⟩ ∧ w.cell? ⟨g, k, none⟩ = some (.slice bo L[k].length cp) ∧ w.ownsRow base te sz (.slice bo L[k].length cp) L[k].length (L[k].flatMap cel) := by
  obtain ⟨v, hv, hi⟩ := h.inn k L[k] (List.getElem?_eq_getElem hk)
  obtain ⟨bo, cp, rfl⟩ := ownsRow_slice hi.own
  rcases h.out.2 with ⟨_, h0⟩ | ⟨g, c2, cur, hvv, _⟩
  · omega
  · simp at hvv
    refine ⟨g, bo, cp, hvv.1, ?_, hi.own⟩
    have h1 := h.out.cells (g := g) (by rw [hvv.1]; rfl) k _ hv
    have hadd : (⟨g, 0, none⟩ : Addr).add k = ⟨g, k, none⟩ := by unfold Addr.add; split <;> simp_all
    rw [hadd] at h1
    exact h1
theorem jumps_hit' {s : ByteArray} {k p : Nat} {L : List (List Nat)} (hk : k < L.length) (h : jump1 s L[k].length L[k] = some p) : jumps s (L.drop k) = some p := by
  rw [List.drop_eq_getElem_cons hk, jumps, h]
theorem jumps_miss' {s : ByteArray} {k : Nat} {L : List (List Nat)} (hk : k < L.length) (h : jump1 s L[k].length L[k] = none) : jumps s (L.drop k) = jumps s (L.drop (k + 1)) := by
  rw [List.drop_eq_getElem_cons hk, jumps, h]
theorem jump_hit' {s : ByteArray} {len k : Nat} {l : List Nat} (hk : k < l.length) (h : jumpBad s len l[k] = true) : jump1 s len (l.drop k) = some (stepAt s l[k]) := by
  rw [List.drop_eq_getElem_cons hk, jump1, if_pos h]
theorem jump_miss' {s : ByteArray} {len k : Nat} {l : List Nat} (hk : k < l.length) (h : jumpBad s len l[k] = false) : jump1 s len (l.drop k) = jump1 s len (l.drop (k + 1)) := by
  rw [List.drop_eq_getElem_cons hk, jump1, h]; rfl
theorem rchk_long {s : ByteArray} (h : 150 < s.size) : chk s = (1, 0) := by simp [chk, h]
theorem rchk_text {s : ByteArray} {p : Nat} (h : ¬ 150 < s.size) (hr : rd s 2 0 [] = .error p) : chk s = (2, p) := by simp [chk, h, hr]
theorem rchk_jump {s : ByteArray} {p : Nat} {L : List (List Nat)} (h : ¬ 150 < s.size) (hr : rd s 2 0 [] = .ok L) (hj : jumps s L = some p) : chk s = (3, p) := by simp [chk, h, hr, hj]
theorem rchk_ok {s : ByteArray} {L : List (List Nat)} (h : ¬ 150 < s.size) (hr : rd s 2 0 [] = .ok L) (hj : jumps s L = none) : chk s = (0, 0) := by simp [chk, h, hr, hj]

def RChkPost (s : ByteArray) (w : World) (e : Ending) (w' : World) : Prop := e = .returned (.tuple #[.int .i64 (chk s).1, .int .i64 ((chk s).2 : Int)]) ∧ w.grownBy w' none

set_option maxHeartbeats 400000 in
theorem rcheck_long (s : ByteArray) (w : World) (h : 150 < s.size) (hm : s.size ≤ maxLen) : Calls Try.prog 15 #[.string s] w (RChkPost s w) := by
  unfold maxLen at hm
  have HC : Hid _ := rchk_long h
  go_enter Try.func15, Try.ntmps15
  go_wp2
  go_ret2
  unfold RChkPost
  rw [HC.out]
  exact ⟨rfl, grownBy_refl _ _⟩

set_option maxHeartbeats 400000 in
theorem rcheck_text (s : ByteArray) (p : Nat) (w : World) (h : ¬ 150 < s.size) (hr : rd s 2 0 [] = .error p) : Calls Try.prog 15 #[.string s] w (RChkPost s w) := by
  have HC : Hid _ := rchk_text h hr
  have HRD : Hid (Calls Try.prog 20 #[.string s] w fun e w' => e = .returned (.tuple #[.slice none 0 0, .int .i64 (p : Int), .bool false]) ∧ w.grownBy w' none) :=
    (rread_any s w (by omega)).mono fun e w' h => by rw [hr] at h; exact ⟨h.2, h.1⟩
  clear hr
  go_enter Try.func15, Try.ntmps15
  go_wp2_with (go_at_call 20; go_must (refine Calls.mono HRD.out ?_; rintro e w2 ⟨rfl, hg⟩))
  go_ret2
  unfold RChkPost
  rw [HC.out]
  exact ⟨rfl, hg⟩

set_option maxHeartbeats 4000000 in
set_option maxRecDepth 100000 in
theorem rcheck_rest (s : ByteArray) (L : List (List Nat)) (w : World) (h : ¬ 150 < s.size) (hr : rd s 2 0 [] = .ok L) : Calls Try.prog 15 #[.string s] w (RChkPost s w) := by
  have HRD : Hid (Calls Try.prog 20 #[.string s] w fun e w' => ∃ ao cap vs j, e = .returned (.tuple #[.slice ao L.length cap, .int .i64 j, .bool true]) ∧ OwnT w' w.heap.size 51 50 4 (rcells s) w'.heap.size (.slice ao L.length cap) vs L ∧ w.grownBy w' none) :=
    (rread_any s w (by omega)).mono fun e w' h => by
      rw [hr] at h
      obtain ⟨h1, tv, vs, j, h2, h3⟩ := h
      obtain ⟨ao, cap, rfl⟩ := ownsRow_slice h3.out
      exact ⟨ao, cap, vs, j, h2, h3, h1⟩
  have hg := rd_good hr (by simp)
  have hL3 : L.length ≤ 3 := by simpa using hg.2
  have HG8 : Hid _ := hg.1
  have HR : Hid _ := hr
  have HH : Hid _ := h
  have hN : decide ((150 : Int) < (s.size : Int)) = false := by simp; omega
  clear hr hg
  go_enter Try.func15, Try.ntmps15
  go_wp2_with (go_at_call 20; go_must (refine Calls.mono HRD.out ?_; rintro e w2 ⟨ao, cap, vs, j, rfl, hown, hg⟩; have HO : Hid _ := hown; have HG : Hid _ := hg; clear hown hg))
  clear HRD h
  go_loopw [7] (fun iv wr => ∃ i : Nat, i ≤ L.length ∧ iv = .int .i64 (i : Int) ∧ w2.grownBy wr none ∧ Hid (jumps s (L.drop i) = jumps s L)) (fun iv _ => L.length - (intOf iv).toNat)
  case atStart => exact ⟨0, Nat.zero_le _, rfl, grownBy_refl _ _, rfl⟩
  case round =>
    obtain ⟨i, hi, rfl, hgr, hj⟩ := hrel
    by_cases hlt : i < L.length
    · obtain ⟨g, bo, cp, hao, hcell, hrow⟩ := HO.out.at i hlt
      subst hao
      have h8 := (HG8.out L[i] (List.getElem_mem hlt)).2
      have HROW : Hid _ := hrow
      have HCELL : Hid _ := hcell
      have HGR : Hid _ := hgr
      clear hrow hcell hgr
      go_wp2_with fail
      go_loopw [8] (fun kv wq => ∃ k : Nat, k ≤ L[i].length ∧ kv = .int .i64 (k : Int) ∧ w2.grownBy wq none ∧ Hid (jump1 s L[i].length (L[i].drop k) = jump1 s L[i].length L[i])) (fun kv _ => L[i].length - (intOf kv).toNat)
      case atStart => exact ⟨0, Nat.zero_le _, rfl, HGR.out, rfl⟩
      case round =>
        obtain ⟨k, hk, rfl, hgq, hjk⟩ := hrel
        have hc1 : wr.cell? ⟨g, i, none⟩ = some (.slice bo L[i].length cp) := hgq.cell HCELL.out (by simp)
        by_cases hkl : k < L[i].length
        · obtain ⟨g2, hbo⟩ : ∃ g2, bo = some ⟨g2, 0, none⟩ := by
            rcases (HROW.out).2 with ⟨_, h0⟩ | ⟨g2, c2, cur, hvv, _⟩
            · omega
            · simp at hvv; exact ⟨g2, hvv.1⟩
          subst hbo
          have hrow2 := World.ownsRow.kept HROW.out hgq (Classical.em _)
          obtain ⟨d0, d1, d2, d3⟩ := rstep_cells hrow2 k hkl
          have hglt : g < wr.heap.size := World.block_lt_of_cell? wr ⟨g, i, none⟩ hc1
          have HGQ : Hid _ := hgq
          have HC : Hid (jumpBad s L[i].length L[i][k] = true → chk s = (3, stepAt s L[i][k])) := fun hb => rchk_jump HH.out HR.out (by rw [← hj.out]; exact jumps_hit' hlt (by rw [← hjk.out]; exact jump_hit' hkl hb))
          have HM : Hid (jumpBad s L[i].length L[i][k] = false → jump1 s L[i].length (L[i].drop (k + 1)) = jump1 s L[i].length L[i]) := fun hb => by rw [← hjk.out]; exact (jump_miss' hkl hb).symm
          have HE : Hid (jumpBad s L[i].length L[i][k] = ((pk s L[i][k] == 106 && decide ((L[i].length : Int) < stepA s L[i][k])) || (pk s L[i][k] == 122 && decide ((L[i].length : Int) < stepB s L[i][k])))) := rfl
          clear hgq hrow2
          generalize jumpBad s L[i].length L[i][k] = jb at *
          generalize pk s L[i][k] = p at *
          generalize stepA s L[i][k] = A at *
          generalize stepB s L[i][k] = B at *
          generalize stepAt s L[i][k] = sa at *
          by_cases h1 : p = 106
          · subst h1
            by_cases hd : (L[i].length : Int) < A
            · have hb : jb = true := by rw [HE.out]; simp [hd]
              have hdd : decide ((L[i].length : Int) < A) = true := by simpa using hd
              clear HE
              go_wp2_with fail
              go_quiet (fail)
              go_wp2_with fail
              go_quiet (fail)
              go_wp2_with fail
              go_ret2
              unfold RChkPost
              rw [HC.out hb]
              exact ⟨rfl, grownBy_trans HG.out (grownBy_trans (grownBy_trans HGQ.out (World.grownBy_alloc _ _ _)) (by first | exact grownBy_drewN _ _ _ | exact grownBy_trans (grownBy_drewN _ _ _) (grownBy_drewN _ _ _)))⟩
            · have hb : jb = false := by rw [HE.out]; simp; omega
              have hdd : decide ((L[i].length : Int) < A) = false := by simpa using hd
              clear HE
              go_wp2_with fail
              go_quiet (fail)
              go_wp2_with fail
              go_roundw
              case rel => exact ⟨k + 1, by omega, by go_num, grownBy_trans (grownBy_trans HGQ.out (World.grownBy_alloc _ _ _)) (grownBy_drewN _ _ _), HM.out hb⟩
              case measure => simp [intOf]; omega
          by_cases h2 : p = 122
          · subst h2
            by_cases hd : (L[i].length : Int) < B
            · have hb : jb = true := by rw [HE.out]; simp [hd]
              have hdd : decide ((L[i].length : Int) < B) = true := by simpa using hd
              clear HE h1
              go_wp2_with fail
              go_quiet (fail)
              go_wp2_with fail
              go_quiet (fail)
              go_wp2_with fail
              go_ret2
              unfold RChkPost
              rw [HC.out hb]
              exact ⟨rfl, grownBy_trans HG.out (grownBy_trans (grownBy_trans HGQ.out (World.grownBy_alloc _ _ _)) (by first | exact grownBy_drewN _ _ _ | exact grownBy_trans (grownBy_drewN _ _ _) (grownBy_drewN _ _ _)))⟩
            · have hb : jb = false := by rw [HE.out]; simp; omega
              have hdd : decide ((L[i].length : Int) < B) = false := by simpa using hd
              clear HE h1
              go_wp2_with fail
              go_quiet (fail)
              go_wp2_with fail
              go_roundw
              case rel => exact ⟨k + 1, by omega, by go_num, grownBy_trans (grownBy_trans HGQ.out (World.grownBy_alloc _ _ _)) (grownBy_drewN _ _ _), HM.out hb⟩
              case measure => simp [intOf]; omega
          have e1 : (p == 106) = false := by simpa using h1
          have e2 : (p == 122) = false := by simpa using h2
          have hb : jb = false := by rw [HE.out, e1, e2]; rfl
          clear HE h1 h2
          go_wp2_with fail
          go_quiet (fail)
          go_wp2_with fail
          go_roundw
          case rel => exact ⟨k + 1, by omega, by go_num, grownBy_trans (grownBy_trans HGQ.out (World.grownBy_alloc _ _ _)) (grownBy_drewN _ _ _), HM.out hb⟩
          case measure => simp [intOf]; omega
        · have HN : Hid (jumps s (L.drop (i + 1)) = jumps s L) := by
            rw [← hj.out]
            refine (jumps_miss' hlt ?_).symm
            rw [← hjk.out, List.drop_of_length_le (by omega)]
            rfl
          have HGQ : Hid _ := hgq
          clear hgq hj hjk
          go_wp2_with fail
          go_roundw
          case rel => exact ⟨i + 1, by omega, by go_num, HGQ.out, HN⟩
          case measure => simp [intOf]; omega
    · have HC : Hid (chk s = (0, 0)) := rchk_ok HH.out HR.out (by rw [← hj.out, List.drop_of_length_le (by omega)]; rfl)
      have HGR : Hid _ := hgr
      clear hgr hj
      go_wp2_with fail
      go_ret2
      unfold RChkPost
      rw [HC.out]
      exact ⟨rfl, grownBy_trans HG.out HGR.out⟩

theorem rcheck_any (s : ByteArray) (w : World) (hm : s.size ≤ maxLen) : Calls Try.prog 15 #[.string s] w (RChkPost s w) := by
  by_cases h : 150 < s.size
  · exact rcheck_long s w h hm
  · cases hr : rd s 2 0 [] with
    | error p => exact rcheck_text s p w h hr
    | ok L => exact rcheck_rest s L w h hr

end Go.Proofs.Ytimgindeiekpmaa
