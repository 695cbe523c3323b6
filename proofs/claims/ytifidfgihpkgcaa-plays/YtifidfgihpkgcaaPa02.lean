import Derived.Test.YtifidfgihpkgcaaPa01
import Derived.BigQuiet
import Derived.BigRegion
import Derived.Deep.RegionWith
import Derived.Deep.RegionHeld3
import Derived.Laws.IdiomStrings
import Derived.Deep.MidRow
set_option linter.unusedSimpArgs false
set_option linter.unusedVariables false
namespace Go.Proofs.Ytifidfgihpkgcaa
open Go.RowKit Wv

theorem rcells_len (s : ByteArray) (i : Nat) : (rcells s i).length = 4 := rfl
theorem rstep_cells {wr : World} {base g n cap : Nat} {s : ByteArray} {l : List Nat} (hown : wr.ownsRow base 50 4 (.slice (some ⟨g, 0, none⟩) n cap) l.length (l.flatMap (rcells s))) (k : Nat) (hk : k < l.length) :
    wr.cell? ⟨g, k * 4, none⟩ = some (.int .u8 (pk s l[k])) ∧ wr.cell? ⟨g, k * 4 + 1, none⟩ = some (.int .i64 (stepA s l[k])) ∧ wr.cell? ⟨g, k * 4 + 2, none⟩ = some (.int .i64 (stepB s l[k])) ∧
    wr.cell? ⟨g, k * 4 + 3, none⟩ = some (.int .i64 (stepAt s l[k] : Int)) := by
  have key : ∀ j u, j < 4 → (rcells s l[k])[j]? = some u → wr.cell? ⟨g, k * 4 + j, none⟩ = some u := by
    intro j u hj hu
    have h1 := hown.cells (g := g) rfl (k * 4 + j) u (by rw [flatMap_get (rcells_len s) l k hk j hj]; exact hu)
    have hadd : (⟨g, 0, none⟩ : Addr).add (k * 4 + j) = ⟨g, k * 4 + j, none⟩ := by unfold Addr.add; split <;> simp_all
    rw [hadd] at h1
    exact h1
  exact ⟨key 0 _ (by omega) rfl, key 1 _ (by omega) rfl, key 2 _ (by omega) rfl, key 3 _ (by omega) rfl⟩

/-- Row k of a row of rows. -/
theorem OwnT.at {w : World} {base ts te sz : Nat} {cel : Nat → List Value} {B : Nat} {ao : Option Addr} {cap : Nat} {vs : List Value} {L : List (List Nat)}
    (h : OwnT w base ts te sz cel B (.slice ao L.length cap) vs L) (k : Nat) (hk : k < L.length) :
    ∃ g bo cp, ao = some ⟨g, 0, none⟩ ∧ w.cell? ⟨g, k, none⟩ = some (.slice bo L[k].length cp) ∧ w.ownsRow base te sz (.slice bo L[k].length cp) L[k].length (L[k].flatMap cel) := by
  obtain ⟨v, hv, hi⟩ := h.inn k L[k] (List.getElem?_eq_getElem hk)
  obtain ⟨bo, cp, rfl⟩ := ownsRow_slice hi.own
  rcases h.out.2 with ⟨_, h0⟩ | ⟨g, c2, cur, hvv, _⟩
  · omega
  · simp at hvv
    refine ⟨g, bo, cp, hvv.1, ?_, hi.own⟩
    have h1 := h.out.cells (g := g) (by rw [hvv.1]; rfl) k _ hv
    have hadd : (⟨g, 0, none⟩ : Addr).add k = ⟨g, k, none⟩ := by unfold Addr.add; split <;> simp_all
    rw [hadd] at h1
    exact h1
theorem jumps_hit' {s : ByteArray} {k p : Nat} {L : List (List Nat)} (hk : k < L.length) (h : jump1 s L[k].length L[k] = some p) : jumps s (L.drop k) = some p := by
  rw [List.drop_eq_getElem_cons hk, jumps, h]
theorem jumps_miss' {s : ByteArray} {k : Nat} {L : List (List Nat)} (hk : k < L.length) (h : jump1 s L[k].length L[k] = none) : jumps s (L.drop k) = jumps s (L.drop (k + 1)) := by
  rw [List.drop_eq_getElem_cons hk, jumps, h]
theorem jump_hit' {s : ByteArray} {len k : Nat} {l : List Nat} (hk : k < l.length) (h : jumpBad s len l[k] = true) : jump1 s len (l.drop k) = some (stepAt s l[k]) := by
  rw [List.drop_eq_getElem_cons hk, jump1, if_pos h]
theorem jump_miss' {s : ByteArray} {len k : Nat} {l : List Nat} (hk : k < l.length) (h : jumpBad s len l[k] = false) : jump1 s len (l.drop k) = jump1 s len (l.drop (k + 1)) := by
  rw [List.drop_eq_getElem_cons hk, jump1, h]; rfl
theorem rchk_long {s : ByteArray} (h : 150 < s.size) : chk s = (1, 0) := by simp [chk, h]
theorem rchk_text {s : ByteArray} {p : Nat} (h : ¬ 150 < s.size) (hr : rd s 2 0 [] = .error p) : chk s = (2, p) := by simp [chk, h, hr]
theorem rchk_jump {s : ByteArray} {p : Nat} {L : List (List Nat)} (h : ¬ 150 < s.size) (hr : rd s 2 0 [] = .ok L) (hj : jumps s L = some p) : chk s = (3, p) := by simp [chk, h, hr, hj]
theorem rchk_ok {s : ByteArray} {L : List (List Nat)} (h : ¬ 150 < s.size) (hr : rd s 2 0 [] = .ok L) (hj : jumps s L = none) : chk s = (0, 0) := by simp [chk, h, hr, hj]

def RChkPost (s : ByteArray) (w : World) (e : Ending) (w' : World) : Prop := e = .returned (.tuple #[.int .i64 (chk s).1, .int .i64 ((chk s).2 : Int)]) ∧ w.grownBy w' none

set_option maxHeartbeats 400000 in
theorem rcheck_long (s : ByteArray) (w : World) (h : 150 < s.size) (hm : s.size ≤ maxLen) : Calls Try.prog 7 #[.string s] w (RChkPost s w) := by
  unfold maxLen at hm
  have HC : Hid _ := rchk_long h
  go_enter Try.func7, Try.ntmps7
  go_wp2
  go_ret2
  unfold RChkPost
  rw [HC.out]
  exact ⟨rfl, grownBy_refl _ _⟩

set_option maxHeartbeats 400000 in
theorem rcheck_text (s : ByteArray) (p : Nat) (w : World) (h : ¬ 150 < s.size) (hr : rd s 2 0 [] = .error p) : Calls Try.prog 7 #[.string s] w (RChkPost s w) := by
  have HC : Hid _ := rchk_text h hr
  have HRD : Hid (Calls Try.prog 12 #[.string s] w fun e w' => e = .returned (.tuple #[.slice none 0 0, .int .i64 (p : Int), .bool false]) ∧ w.grownBy w' none) :=
    (rread_any s w (by omega)).mono fun e w' h => by rw [hr] at h; exact ⟨h.2, h.1⟩
  clear hr
  go_enter Try.func7, Try.ntmps7
  go_wp2_with (go_at_call 12; go_must (refine Calls.mono HRD.out ?_; rintro e w2 ⟨rfl, hg⟩))
  go_ret2
  unfold RChkPost
  rw [HC.out]
  exact ⟨rfl, hg⟩

set_option maxHeartbeats 4000000 in
set_option maxRecDepth 100000 in
theorem rcheck_rest (s : ByteArray) (L : List (List Nat)) (w : World) (h : ¬ 150 < s.size) (hr : rd s 2 0 [] = .ok L) : Calls Try.prog 7 #[.string s] w (RChkPost s w) := by
  have HRD : Hid (Calls Try.prog 12 #[.string s] w fun e w' => ∃ ao cap vs j, e = .returned (.tuple #[.slice ao L.length cap, .int .i64 j, .bool true]) ∧ OwnT w' w.heap.size 51 50 4 (rcells s) w'.heap.size (.slice ao L.length cap) vs L ∧ w.grownBy w' none) :=
    (rread_any s w (by omega)).mono fun e w' h => by
      rw [hr] at h
      obtain ⟨h1, tv, vs, j, h2, h3⟩ := h
      obtain ⟨ao, cap, rfl⟩ := ownsRow_slice h3.out
      exact ⟨ao, cap, vs, j, h2, h3, h1⟩
  have hg := rd_good hr (by simp)
  have hL3 : L.length ≤ 3 := by simpa using hg.2
  have HG8 : Hid _ := hg.1
  have HR : Hid _ := hr
  have HH : Hid _ := h
  have hN : decide ((150 : Int) < (s.size : Int)) = false := by simp; omega
  clear hr hg
  go_enter Try.func7, Try.ntmps7
  go_wp2_with (go_at_call 12; go_must (refine Calls.mono HRD.out ?_; rintro e w2 ⟨ao, cap, vs, j, rfl, hown, hg⟩; have HO : Hid _ := hown; have HG : Hid _ := hg; clear hown hg))
  clear HRD h
  go_loopw [7] (fun iv wr => ∃ i : Nat, i ≤ L.length ∧ iv = .int .i64 (i : Int) ∧ w2.grownBy wr none ∧ Hid (jumps s (L.drop i) = jumps s L)) (fun iv _ => L.length - (intOf iv).toNat)
  case atStart => exact ⟨0, Nat.zero_le _, rfl, grownBy_refl _ _, rfl⟩
  case round =>
    obtain ⟨i, hi, rfl, hgr, hj⟩ := hrel
    by_cases hlt : i < L.length
    · obtain ⟨g, bo, cp, hao, hcell, hrow⟩ := HO.out.at i hlt
      subst hao
      have h8 := (HG8.out L[i] (List.getElem_mem hlt)).2
      have HROW : Hid _ := hrow
      have HCELL : Hid _ := hcell
      have HGR : Hid _ := hgr
      clear hrow hcell hgr
      go_wp2_with fail
      go_loopw [8] (fun kv wq => ∃ k : Nat, k ≤ L[i].length ∧ kv = .int .i64 (k : Int) ∧ w2.grownBy wq none ∧ Hid (jump1 s L[i].length (L[i].drop k) = jump1 s L[i].length L[i])) (fun kv _ => L[i].length - (intOf kv).toNat)
      case atStart => exact ⟨0, Nat.zero_le _, rfl, HGR.out, rfl⟩
      case round =>
        obtain ⟨k, hk, rfl, hgq, hjk⟩ := hrel
        have hc1 : wr.cell? ⟨g, i, none⟩ = some (.slice bo L[i].length cp) := hgq.cell HCELL.out (by simp)
        by_cases hkl : k < L[i].length
        · obtain ⟨g2, hbo⟩ : ∃ g2, bo = some ⟨g2, 0, none⟩ := by
            rcases (HROW.out).2 with ⟨_, h0⟩ | ⟨g2, c2, cur, hvv, _⟩
            · omega
            · simp at hvv; exact ⟨g2, hvv.1⟩
          subst hbo
          have hrow2 := World.ownsRow.kept HROW.out hgq (Classical.em _)
          obtain ⟨d0, d1, d2, d3⟩ := rstep_cells hrow2 k hkl
          have hglt : g < wr.heap.size := World.block_lt_of_cell? wr ⟨g, i, none⟩ hc1
          have HGQ : Hid _ := hgq
          have HC : Hid (jumpBad s L[i].length L[i][k] = true → chk s = (3, stepAt s L[i][k])) := fun hb => rchk_jump HH.out HR.out (by rw [← hj.out]; exact jumps_hit' hlt (by rw [← hjk.out]; exact jump_hit' hkl hb))
          have HM : Hid (jumpBad s L[i].length L[i][k] = false → jump1 s L[i].length (L[i].drop (k + 1)) = jump1 s L[i].length L[i]) := fun hb => by rw [← hjk.out]; exact (jump_miss' hkl hb).symm
          have HE : Hid (jumpBad s L[i].length L[i][k] = ((pk s L[i][k] == 106 && decide ((L[i].length : Int) < stepA s L[i][k])) || (pk s L[i][k] == 122 && decide ((L[i].length : Int) < stepB s L[i][k])))) := rfl
          clear hgq hrow2
          generalize jumpBad s L[i].length L[i][k] = jb at *
          generalize pk s L[i][k] = p at *
          generalize stepA s L[i][k] = A at *
          generalize stepB s L[i][k] = B at *
          generalize stepAt s L[i][k] = sa at *
          by_cases h1 : p = 106
          · subst h1
            by_cases hd : (L[i].length : Int) < A
            · have hb : jb = true := by rw [HE.out]; simp [hd]
              have hdd : decide ((L[i].length : Int) < A) = true := by simpa using hd
              clear HE
              go_wp2_with fail
              go_quiet (fail)
              go_wp2_with fail
              go_quiet (fail)
              go_wp2_with fail
              go_ret2
              unfold RChkPost
              rw [HC.out hb]
              exact ⟨rfl, grownBy_trans HG.out (grownBy_trans (grownBy_trans HGQ.out (World.grownBy_alloc _ _ _)) (by first | exact grownBy_drewN _ _ _ | exact grownBy_trans (grownBy_drewN _ _ _) (grownBy_drewN _ _ _)))⟩
            · have hb : jb = false := by rw [HE.out]; simp; omega
              have hdd : decide ((L[i].length : Int) < A) = false := by simpa using hd
              clear HE
              go_wp2_with fail
              go_quiet (fail)
              go_wp2_with fail
              go_roundw
              case rel => exact ⟨k + 1, by omega, by go_num, grownBy_trans (grownBy_trans HGQ.out (World.grownBy_alloc _ _ _)) (grownBy_drewN _ _ _), HM.out hb⟩
              case measure => simp [intOf]; omega
          by_cases h2 : p = 122
          · subst h2
            by_cases hd : (L[i].length : Int) < B
            · have hb : jb = true := by rw [HE.out]; simp [hd]
              have hdd : decide ((L[i].length : Int) < B) = true := by simpa using hd
              clear HE h1
              go_wp2_with fail
              go_quiet (fail)
              go_wp2_with fail
              go_quiet (fail)
              go_wp2_with fail
              go_ret2
              unfold RChkPost
              rw [HC.out hb]
              exact ⟨rfl, grownBy_trans HG.out (grownBy_trans (grownBy_trans HGQ.out (World.grownBy_alloc _ _ _)) (by first | exact grownBy_drewN _ _ _ | exact grownBy_trans (grownBy_drewN _ _ _) (grownBy_drewN _ _ _)))⟩
            · have hb : jb = false := by rw [HE.out]; simp; omega
              have hdd : decide ((L[i].length : Int) < B) = false := by simpa using hd
              clear HE h1
              go_wp2_with fail
              go_quiet (fail)
              go_wp2_with fail
              go_roundw
              case rel => exact ⟨k + 1, by omega, by go_num, grownBy_trans (grownBy_trans HGQ.out (World.grownBy_alloc _ _ _)) (grownBy_drewN _ _ _), HM.out hb⟩
              case measure => simp [intOf]; omega
          have e1 : (p == 106) = false := by simpa using h1
          have e2 : (p == 122) = false := by simpa using h2
          have hb : jb = false := by rw [HE.out, e1, e2]; rfl
          clear HE h1 h2
          go_wp2_with fail
          go_quiet (fail)
          go_wp2_with fail
          go_roundw
          case rel => exact ⟨k + 1, by omega, by go_num, grownBy_trans (grownBy_trans HGQ.out (World.grownBy_alloc _ _ _)) (grownBy_drewN _ _ _), HM.out hb⟩
          case measure => simp [intOf]; omega
        · have HN : Hid (jumps s (L.drop (i + 1)) = jumps s L) := by
            rw [← hj.out]
            refine (jumps_miss' hlt ?_).symm
            rw [← hjk.out, List.drop_of_length_le (by omega)]
            rfl
          have HGQ : Hid _ := hgq
          clear hgq hj hjk
          go_wp2_with fail
          go_roundw
          case rel => exact ⟨i + 1, by omega, by go_num, HGQ.out, HN⟩
          case measure => simp [intOf]; omega
    · have HC : Hid (chk s = (0, 0)) := rchk_ok HH.out HR.out (by rw [← hj.out, List.drop_of_length_le (by omega)]; rfl)
      have HGR : Hid _ := hgr
      clear hgr hj
      go_wp2_with fail
      go_ret2
      unfold RChkPost
      rw [HC.out]
      exact ⟨rfl, grownBy_trans HG.out HGR.out⟩

theorem rcheck_any (s : ByteArray) (w : World) (hm : s.size ≤ maxLen) : Calls Try.prog 7 #[.string s] w (RChkPost s w) := by
  by_cases h : 150 < s.size
  · exact rcheck_long s w h hm
  · cases hr : rd s 2 0 [] with
    | error p => exact rcheck_text s p w h hr
    | ok L => exact rcheck_rest s L w h hr

end Go.Proofs.Ytifidfgihpkgcaa

set_option linter.unusedSimpArgs false
namespace Go.Proofs.Ytifidfgihpkgcaa.Wv

/-- A state, as 26 numbers: of thread t from 7t on: four numbers, the next step, the fuel, how it stands (0, 1 failed, 2 wrong); from 21 on the cells; from 24 on who has which lock. -/
def upd (σ : Nat → Int) (i : Nat) (v : Int) : Nat → Int := fun j => if j = i then v else σ j
theorem upd_same (σ : Nat → Int) (i : Nat) (v : Int) : upd σ i v i = v := by simp [upd]
theorem upd_other (σ : Nat → Int) {i j : Nat} (v : Int) (h : j ≠ i) : upd σ i v j = σ j := by simp [upd, h]

def rowOf (n : Nat) (f : Nat → Value) : Array Value := ((List.range n).map f).toArray
theorem rowOf_size (n : Nat) (f : Nat → Value) : (rowOf n f).size = n := by simp [rowOf]
theorem rowOf_get (n : Nat) (f : Nat → Value) (i : Nat) (h : i < n) : (rowOf n f)[i]? = some (f i) := by simp [rowOf, h]
theorem rowOf_set (n : Nat) (f : Nat → Value) (i : Nat) (v : Value) : (rowOf n f).setIfInBounds i v = rowOf n (fun j => if j = i then v else f j) := by
  apply Array.ext_getElem?
  intro j
  rw [Array.getElem?_setIfInBounds]
  by_cases hj : i = j
  · subst hj
    by_cases hi : i < n
    · rw [if_pos rfl, if_pos (by rw [rowOf_size]; exact hi), rowOf_get _ _ _ hi, if_pos rfl]
    · rw [if_pos rfl, if_neg (by rw [rowOf_size]; exact hi), Array.getElem?_eq_none (by rw [rowOf_size]; omega)]
  · rw [if_neg hj]
    by_cases hi : j < n
    · rw [rowOf_get _ _ _ hi, rowOf_get _ _ _ hi, if_neg (fun e => hj e.symm)]
    · rw [Array.getElem?_eq_none (by rw [rowOf_size]; omega), Array.getElem?_eq_none (by rw [rowOf_size]; omega)]
theorem rowOf_all (n : Nat) (f : Nat → Value) (p : Value → Bool) (h : ∀ i, p (f i) = true) : (rowOf n f).all p = true := by
  simp [rowOf, h]

def cst (σ : Nat → Int) : Array Value := rowOf 26 fun i => .int .u8 (σ i)
theorem cst_size (σ : Nat → Int) : (cst σ).size = 26 := rowOf_size _ _
theorem cst_get (σ : Nat → Int) (i : Nat) (h : i < 26) : (cst σ)[i]? = some (.int .u8 (σ i)) := rowOf_get _ _ i h
theorem cst_set (σ : Nat → Int) (i : Nat) (v : Int) : (cst σ).setIfInBounds i (.int .u8 v) = cst (upd σ i v) := by
  unfold cst
  rw [rowOf_set]
  congr 1
  funext j
  unfold upd
  split <;> rfl

/-- The document's state: the same numbers; how a thread stands is told by its letter. -/
def how (n : Int) : Int := if n = 1 then 70 else if n = 2 then 87 else 0
def rval (σ : Nat → Int) (i : Nat) : Value := if i = 6 ∨ i = 13 ∨ i = 20 then .int .u8 (how (σ i)) else .int .i64 (σ i)
def rst (σ : Nat → Int) : Array Value := rowOf 26 (rval σ)
theorem rst_size (σ : Nat → Int) : (rst σ).size = 26 := rowOf_size _ _
theorem rst_get (σ : Nat → Int) (i : Nat) (h : i < 26) : (rst σ)[i]? = some (rval σ i) := rowOf_get _ _ i h

def Inv (σ : Nat → Int) : Prop := ∀ i, i < 26 → 0 ≤ σ i ∧ σ i ≤ 9

end Go.Proofs.Ytifidfgihpkgcaa.Wv

set_option linter.unusedSimpArgs false
namespace Go.Proofs.Ytifidfgihpkgcaa.Wv

/-- The threads' steps; a thread's next one. -/
def thOf (L : List (List Nat)) (who : Nat) : List Nat := L[who]?.getD []
def nx (σ : Nat → Int) (who : Nat) : Nat := (σ (who * 7 + 4)).toNat
def stp (L : List (List Nat)) (σ : Nat → Int) (who : Nat) : Nat := (thOf L who)[nx σ who]?.getD 0
def waitsB (s : ByteArray) (L : List (List Nat)) (σ : Nat → Int) (who : Nat) : Bool := pk s (stp L σ who) == 108 && σ (24 + (stepA s (stp L σ who)).toNat) != 0
/-- May thread who go on? -/
def mayB (s : ByteArray) (L : List (List Nat)) (σ : Nat → Int) (who : Nat) : Bool :=
  σ (who * 7 + 6) == 0 && !(σ (who * 7 + 4) == ((thOf L who).length : Int)) && decide (0 < σ (who * 7 + 5)) && !waitsB s L σ who

/-- Ahead of what the step does: the fuel is taken, the next step is the one behind. -/
def pre (σ : Nat → Int) (who : Nat) : Nat → Int := upd (upd σ (who * 7 + 5) (σ (who * 7 + 5) - 1)) (who * 7 + 4) (σ (who * 7 + 4) + 1)
def stopF (σ : Nat → Int) (who : Nat) (f : Int) : Nat → Int := upd (upd σ (who * 7 + 6) f) (who * 7 + 4) (σ (who * 7 + 4) - 1)
def eff (s : ByteArray) (x : Nat) (σ : Nat → Int) (who : Nat) : Nat → Int :=
  let A := (stepA s x).toNat
  let B := (stepB s x).toNat
  let c := pk s x
  if c = 61 then upd σ (who * 7 + A) B
  else if c = 43 then upd σ (who * 7 + A) ((σ (who * 7 + A) + σ (who * 7 + B)) % 10)
  else if c = 45 then upd σ (who * 7 + A) ((σ (who * 7 + A) + 10 - σ (who * 7 + B)) % 10)
  else if c = 114 then upd σ (who * 7 + A) (σ (21 + B))
  else if c = 119 then upd σ (21 + A) (σ (who * 7 + B))
  else if c = 108 then upd σ (24 + A) ((who : Int) + 1)
  else if c = 117 then (if σ (24 + A) ≠ (who : Int) + 1 then stopF σ who 1 else upd σ (24 + A) 0)
  else if c = 122 then (if σ (who * 7 + A) = 0 then upd σ (who * 7 + 4) B else σ)
  else if c = 106 then upd σ (who * 7 + 4) A
  else if c = 33 then (if σ (who * 7 + A) = 0 then stopF σ who 2 else σ)
  else σ
def turnF (s : ByteArray) (L : List (List Nat)) (σ : Nat → Int) (who : Nat) : Nat → Int := eff s (stp L σ who) (pre σ who) who

theorem thOf_in {L : List (List Nat)} {who : Nat} (h : who < L.length) : thOf L who = L[who] := by simp [thOf, h]

/-- Each number is a digit; a thread's next step is at most the one behind its last. -/
structure StOk (L : List (List Nat)) (σ : Nat → Int) : Prop where
  inv : Inv σ
  nxt : ∀ who, who < L.length → σ (who * 7 + 4) ≤ ((thOf L who).length : Int)

theorem StOk.nx {L : List (List Nat)} {σ : Nat → Int} (h : StOk L σ) {who : Nat} (hw : who < 3) : σ (who * 7 + 4) = (nx σ who : Int) := by
  have := (h.inv (who * 7 + 4) (by omega)).1
  unfold Wv.nx; omega
theorem stp_in {L : List (List Nat)} {σ : Nat → Int} {who : Nat} (hw : who < L.length) (hk : Wv.nx σ who < (L[who]).length) : stp L σ who = L[who][Wv.nx σ who] := by
  unfold stp; rw [thOf_in hw]; simp [hk]

end Go.Proofs.Ytifidfgihpkgcaa.Wv

set_option linter.unusedSimpArgs false
set_option linter.unusedVariables false
namespace Go.Proofs.Ytifidfgihpkgcaa
open Go.RowKit

theorem rheap2 (w : World) (A B : Obj) : ((w.alloc A).alloc B).heap[w.heap.size]? = some A ∧ ((w.alloc A).alloc B).heap[w.heap.size + 1]? = some B := by
  have h1 : (w.alloc A).heap.size = w.heap.size + 1 := by simp
  refine ⟨?_, ?_⟩
  · rw [heap_alloc_old _ _ (by omega)]; exact heap_alloc_new _ _
  · rw [← h1]; exact heap_alloc_new _ _
theorem rheap3 (w : World) (A B C : Obj) : (((w.alloc A).alloc B).alloc C).heap[w.heap.size]? = some A ∧ (((w.alloc A).alloc B).alloc C).heap[w.heap.size + 1]? = some B ∧ (((w.alloc A).alloc B).alloc C).heap[w.heap.size + 2]? = some C := by
  have h1 : (w.alloc A).heap.size = w.heap.size + 1 := by simp
  have h2 : ((w.alloc A).alloc B).heap.size = w.heap.size + 2 := by simp
  refine ⟨?_, ?_, ?_⟩
  · rw [heap_alloc_old _ _ (by omega), heap_alloc_old _ _ (by omega)]; exact heap_alloc_new _ _
  · rw [heap_alloc_old _ _ (by omega), ← h1]; exact heap_alloc_new _ _
  · rw [← h2]; exact heap_alloc_new _ _
theorem rgrown2 (w : World) (A B : Obj) : w.grownBy ((w.alloc A).alloc B) none := grownBy_trans (World.grownBy_alloc w A none) (World.grownBy_alloc _ B none)
theorem rgrown_setRow {w w1 : World} {r : Option Nat} (h : w.grownBy w1 r) {g : Nat} (hg : w.heap.size ≤ g) (cs : Array Value) : w.grownBy (w1.setRow g cs) r := by
  refine ⟨h.os, h.tape, h.output, by rw [size_setRow]; exact h.size, fun k hk hr => ?_⟩
  rw [setRow_other _ _ _ _ (by omega)]
  exact h.block k hk hr
theorem rgrown_drew {w w1 : World} {r : Option Nat} (h : w.grownBy w1 r) : w.grownBy w1.drew r := ⟨h.os, h.tape, h.output, h.size, h.block⟩
theorem rcell_old {w : World} {a : Addr} {v : Value} (h : w.cell? a = some v) (A : Obj) : (w.alloc A).cell? a = some v :=
  (World.grownBy_alloc w A none).cell h (by simp)
theorem rcell_old2 {w : World} {a : Addr} {v : Value} (h : w.cell? a = some v) (A B : Obj) : ((w.alloc A).alloc B).cell? a = some v := rcell_old (rcell_old h A) B
theorem rcell_old3 {w : World} {a : Addr} {v : Value} (h : w.cell? a = some v) (A B C : Obj) : (((w.alloc A).alloc B).alloc C).cell? a = some v := rcell_old (rcell_old (rcell_old h A) B) C
end Go.Proofs.Ytifidfgihpkgcaa

set_option linter.unusedSimpArgs false
set_option linter.unusedVariables false
namespace Go.Proofs.Ytifidfgihpkgcaa
open Go.RowKit Wv

theorem rst_oneCell (σ : Nat → Int) : (rst σ).all (·.oneCell') = true := rowOf_all _ _ _ (fun i => by unfold rval; split <;> rfl)
theorem info_rstate (σ : Nat → Int) : (Try.prog.info? 45).map (·.size) = some (rst σ).size := by
  rw [rst_size]; kernel_rfl
theorem rst_int (σ : Nat → Int) (i : Nat) (h : i < 26) (h1 : i ≠ 6) (h2 : i ≠ 13) (h3 : i ≠ 20) : (rst σ)[i]? = some (.int .i64 (σ i)) := by
  rw [rst_get σ i h]; unfold rval; rw [if_neg (by omega)]
theorem rst_how (σ : Nat → Int) (who : Nat) (h : who < 3) : (rst σ)[who * 7 + 6]? = some (.int .u8 (how (σ (who * 7 + 6)))) := by
  rw [rst_get σ _ (by omega)]; unfold rval; rw [if_pos (by omega)]
theorem rst_set (σ : Nat → Int) (i : Nat) (v : Int) (h1 : i ≠ 6) (h2 : i ≠ 13) (h3 : i ≠ 20) : (rst σ).setIfInBounds i (.int .i64 v) = rst (upd σ i v) := by
  unfold rst
  rw [rowOf_set]
  congr 1
  funext j
  unfold rval upd
  by_cases hj : j = i
  · subst hj; rw [if_pos rfl, if_pos rfl, if_neg (by omega)]
  · rw [if_neg hj, if_neg hj]
theorem rst_seth (σ : Nat → Int) (who : Nat) (v : Int) (h : who < 3) : (rst σ).setIfInBounds (who * 7 + 6) (.int .u8 (how v)) = rst (upd σ (who * 7 + 6) v) := by
  unfold rst
  rw [rowOf_set]
  congr 1
  funext j
  unfold rval upd
  by_cases hj : j = who * 7 + 6
  · subst hj; rw [if_pos rfl, if_pos rfl, if_pos (by omega)]
  · rw [if_neg hj, if_neg hj]
theorem rst_zero : rst (fun _ => 0) = #[.int .i64 0, .int .i64 0, .int .i64 0, .int .i64 0, .int .i64 0, .int .i64 0, .int .u8 0, .int .i64 0, .int .i64 0, .int .i64 0, .int .i64 0, .int .i64 0, .int .i64 0, .int .u8 0, .int .i64 0, .int .i64 0, .int .i64 0, .int .i64 0, .int .i64 0, .int .i64 0, .int .u8 0, .int .i64 0, .int .i64 0, .int .i64 0, .int .i64 0, .int .i64 0] := rfl

/-- The beginning: the first n threads have fuel. -/
def rstartF (n : Nat) (fuel : Int) : Nat → Int := fun i => if i = 5 ∧ 0 < n ∨ i = 12 ∧ 1 < n ∨ i = 19 ∧ 2 < n then fuel else 0
theorem rstart_zero (fuel : Int) : rstartF 0 fuel = fun _ => 0 := by funext i; simp [rstartF]
theorem rstart_succ (k : Nat) (fuel : Int) (hk : k < 3) : upd (rstartF k fuel) (k * 7 + 5) fuel = rstartF (k + 1) fuel := by
  funext i
  unfold upd rstartF
  match k, hk with
  | 0, _ => by_cases h : i = 5 <;> simp [h]
  | 1, _ =>
    by_cases h : i = 12
    · simp [h]
    · by_cases h5 : i = 5 <;> simp [h, h5]
  | 2, _ =>
    by_cases h : i = 19
    · simp [h]
    · by_cases h5 : i = 5
      · simp [h, h5]
      · by_cases h12 : i = 12 <;> simp [h, h5, h12]

set_option maxHeartbeats 1000000 in
set_option maxRecDepth 100000 in
theorem rStart_any (fuel : Int) (w : World) (f0 : 0 ≤ fuel) (f8 : fuel ≤ 8) :
    Calls Try.prog 13 #[.int .i64 fuel] w fun e w' => e = .returned (.agg (rst (rstartF 3 fuel))) ∧ w.grownBy w' none := by
  go_enter Try.func13, Try.ntmps13
  go_wp2_with (refine wpList_store_row rfl 45 (.tmp 3) (.tmp 5) rfl (w.heap.size + 1) (rst (fun _ => 0)) ?_ ?_ 45 _ (rheap2 _ _ _).2 (info_rstate _) ?_ (rst_oneCell _) ?_; rfl; (exact congrArg Value.agg rst_zero.symm); (rw [rst_size]; rfl))
  go_loopw [4] (fun iv wr => ∃ k : Nat, k ≤ 3 ∧ iv = .int .i64 (k : Int) ∧ Hid (wr.heap[w.heap.size]? = some (.cells (rst (fun _ => 0)) 45 (0, 0)) ∧ wr.heap[w.heap.size + 1]? = some (.cells (rst (rstartF k fuel)) 45 (0, 0)) ∧ w.grownBy wr none)) (fun iv _ => 3 - (intOf iv).toNat)
  case atStart =>
    refine ⟨0, by omega, rfl, ?_, ?_, ?_⟩
    · rw [setRow_other _ _ _ _ (by omega), rst_zero]; exact (rheap2 _ _ _).1
    · rw [rstart_zero]; exact setRow_heap _ _ _ _ _ _ (rheap2 _ _ _).2
    · exact rgrown_setRow (rgrown2 _ _ _) (by omega) _
  case round =>
    obtain ⟨k, hk, rfl, hat⟩ := hrel
    by_cases hlt : k < 3
    · have c1 := cell_of_row wr (w.heap.size + 1) (k * 7 + 5) _ _ _ hat.out.2.1
      rw [rst_int _ _ (by omega) (by omega) (by omega) (by omega)] at c1
      have fz := fun o => frozen_of_row wr (w.heap.size + 1) o _ _ hat.out.2.1
      generalize rstartF k fuel (k * 7 + 5) = old at *
      go_wp2_with fail
      go_roundw
      case rel =>
        refine ⟨k + 1, by omega, by go_num, ?_⟩
        refine ⟨?_, ?_, ?_⟩
        · rw [heap_setCell_other _ _ _ _ (by simp)]; exact hat.out.1
        · rw [← rstart_succ k fuel (by omega), ← rst_set _ _ _ (by omega) (by omega) (by omega)]; exact Go.heap_setCell_same _ _ _ _ _ _ hat.out.2.1
        · exact grownBy_new' hat.out.2.2 (grownBy_setCell _ _ _ _) (fun r e => by simp at e; omega)
      case measure => simp [intOf]; omega
    · have hkn : k = 3 := by omega
      have hst := hat.out.2.1
      rw [hkn] at hst
      have HS : Hid _ := hst
      clear hst hkn
      go_wp2_with (first | (refine wpList_load_row rfl 45 (.tmp 3) rfl (w.heap.size + 1) ?_ 45 (rst (rstartF 3 fuel)) (0, 0) _ ?_ Try.underlying45 rfl (info_rstate _) ?_; rfl; exact HS.out) | (refine wpList_store_row rfl 45 (.tmp 2) (.tmp 15) rfl w.heap.size (rst (rstartF 3 fuel)) ?_ ?_ 45 _ hat.out.1 (info_rstate _) ?_ (rst_oneCell _) ?_; rfl; rfl; (rw [rst_size, rst_size])))
      refine bodyPost_ret (v := .agg (rst (rstartF 3 fuel))) (results_cell_row Try.results13 _ _ w.heap.size 45 _ (0, 0) _ rfl (setRow_heap _ _ _ _ 45 (0, 0) hat.out.1) Try.underlying45 rfl (info_rstate _)) rfl ⟨rfl, ?_⟩
      exact rgrown_setRow hat.out.2.2 (Nat.le_refl _) _

end Go.Proofs.Ytifidfgihpkgcaa

set_option linter.unusedSimpArgs false
set_option linter.unusedVariables false
namespace Go.Proofs.Ytifidfgihpkgcaa
open Go.RowKit Wv

structure RProg (w : World) (base B : Nat) (s : ByteArray) (L : List (List Nat)) (tv : Value) (vs : List Value) : Prop where
  own : OwnT w base 51 50 4 (rcells s) B tv vs L
  three : L.length ≤ 3
  eight : ∀ l ∈ L, l.length ≤ 8
  good : ∀ l ∈ L, ∀ x ∈ l, stepBad s x = none
theorem RProg.kept {w w' : World} {base B : Nat} {s : ByteArray} {L : List (List Nat)} {tv : Value} {vs : List Value} (h : RProg w base B s L tv vs) (hg : w.grownBy w' none) : RProg w' base B s L tv vs :=
  ⟨h.own.kept hg (Classical.em _) (by simp), h.three, h.eight, h.good⟩
theorem RProg.row {w : World} {base : Nat} {s : ByteArray} {B : Nat} {tv : Value} {vs : List Value} {L : List (List Nat)}
    (h : RProg w base B s L tv vs) (who : Nat) (hw : who < L.length) :
    ∃ g cap bo cp, tv = .slice (some ⟨g, 0, none⟩) L.length cap ∧ g < w.heap.size ∧ w.cell? ⟨g, who, none⟩ = some (.slice bo L[who].length cp) ∧ w.ownsRow base 50 4 (.slice bo L[who].length cp) L[who].length (L[who].flatMap (rcells s)) := by
  obtain ⟨ao, cap, rfl⟩ := ownsRow_slice h.own.out
  obtain ⟨g, bo, cp, rfl, hc, hr⟩ := h.own.at who hw
  exact ⟨g, cap, bo, cp, rfl, World.block_lt_of_cell? w ⟨g, who, none⟩ hc, hc, hr⟩

theorem rgood_lock {s : ByteArray} {x : Nat} (h : stepBad s x = none) (hc : pk s x = 108 ∨ pk s x = 117) : ∃ k : Nat, stepA s x = (k : Int) ∧ k < 2 := by
  have hf : frm (pk s x) = [107] := by rcases hc with hc | hc <;> rw [hc] <;> rfl
  have hb := stepBad_one hf
  rw [hb] at h
  have hkin : kin 107 (pk s (x + 1)) = true := by
    by_cases hk : kin ((107 : UInt8).toNat : Int) (pk s (x + 1)) = true
    · exact hk
    · rw [if_neg hk] at h; cases h
  have hA : stepA s x = pk s (x + 1) - 109 := by unfold stepA f0; rw [hf]; rfl
  have hkin' : decide (109 ≤ pk s (x + 1) ∧ pk s (x + 1) ≤ 110) = true := hkin
  simp at hkin'
  exact ⟨(stepA s x).toNat, by omega, by omega⟩

set_option maxHeartbeats 1000000 in
set_option maxRecDepth 100000 in
theorem rwaits_any (s : ByteArray) (L : List (List Nat)) (σ : Nat → Int) (who base B : Nat) (tv : Value) (vs : List Value) (w : World) (hP : RProg w base B s L tv vs) (hw : who < L.length) (hn : σ (who * 7 + 4) = (nx σ who : Int)) (hk : nx σ who < L[who].length) :
    Calls Try.prog 27 #[tv, .agg (rst σ), .int .i64 (who : Int)] w fun e w' => e = .returned (.bool (waitsB s L σ who)) ∧ w.grownBy w' none := by
  have h3 := hP.three
  have h8 := hP.eight _ (List.getElem_mem hw)
  have hgood := hP.good _ (List.getElem_mem hw) _ (List.getElem_mem hk)
  obtain ⟨g, cap, bo, cp, rfl, hg, hc, hr⟩ := hP.row who hw
  obtain ⟨g2, rfl⟩ : ∃ g2, bo = some ⟨g2, 0, none⟩ := by
    rcases hr.2 with ⟨_, h0⟩ | ⟨g2, c2, cur, hvv, _⟩
    · omega
    · simp at hvv; exact ⟨g2, hvv.1⟩
  obtain ⟨d0, d1, d2, d3⟩ := rstep_cells hr (nx σ who) hk
  have g0 := rst_int σ (who * 7 + 4) (by omega) (by omega) (by omega) (by omega)
  rw [hn] at g0
  have hW : waitsB s L σ who = (pk s L[who][nx σ who] == 108 && σ (24 + (stepA s L[who][nx σ who]).toNat) != 0) := by unfold waitsB; rw [stp_in hw hk]
  rw [hW]
  have hlk := rgood_lock hgood
  clear hP hr hn hW hgood
  generalize L[who][nx σ who] = x at *
  generalize L[who].length = len at *
  generalize nx σ who = k at *
  have hc1 := rcell_old hc
  have hc2 := rcell_old2 hc
  have e0 := rcell_old d0
  have e1 := rcell_old d1
  have e2 := rcell_old d2
  have e3 := rcell_old d3
  have f0 := rcell_old2 d0
  have f1 := rcell_old2 d1
  have f2 := rcell_old2 d2
  have f3 := rcell_old2 d3
  clear hc d0 d1 d2 d3
  by_cases hc : pk s x = 108
  · obtain ⟨a, h2, h3'⟩ := hlk (.inl hc)
    rw [hc] at e0 f0 ⊢
    rw [h2] at e1 f1 ⊢
    rw [show ((a : Int)).toNat = a from by omega]
    have g1 := rst_int σ (24 + a) (by omega) (by omega) (by omega) (by omega)
    clear hlk h2 hc
    generalize σ (24 + a) = v at *
    generalize stepB s x = b at *
    generalize stepAt s x = at' at *
    go_enter Try.func27, Try.ntmps27
    go_wp2_with fail
    go_region
    all_goals
      go_wp2_with fail
      go_ret
      exact ⟨by simp, rgrown_drew (rgrown2 _ _ _)⟩
  · have hb : (pk s x == 108) = false := by simpa using hc
    rw [hb]
    have HB : Hid _ := hc
    clear hlk hc
    generalize pk s x = p at *
    generalize stepA s x = a at *
    generalize stepB s x = b at *
    generalize stepAt s x = at' at *
    go_enter Try.func27, Try.ntmps27
    go_wp2_with fail
    go_region
    all_goals
      go_wp2_with fail
      go_ret
      exact ⟨rfl, rgrown_drew (rgrown2 _ _ _)⟩

theorem rst_lit (σ : Nat → Int) : rst σ = #[.int .i64 (σ 0), .int .i64 (σ 1), .int .i64 (σ 2), .int .i64 (σ 3), .int .i64 (σ 4), .int .i64 (σ 5), .int .u8 (how (σ 6)), .int .i64 (σ 7), .int .i64 (σ 8), .int .i64 (σ 9), .int .i64 (σ 10), .int .i64 (σ 11), .int .i64 (σ 12), .int .u8 (how (σ 13)), .int .i64 (σ 14), .int .i64 (σ 15), .int .i64 (σ 16), .int .i64 (σ 17), .int .i64 (σ 18), .int .i64 (σ 19), .int .u8 (how (σ 20)), .int .i64 (σ 21), .int .i64 (σ 22), .int .i64 (σ 23), .int .i64 (σ 24), .int .i64 (σ 25)] := rfl
theorem how_zero {n : Int} (h0 : 0 ≤ n) (h2 : n ≤ 2) : (how n == 0) = (n == 0) := by
  unfold how
  by_cases h1 : n = 1
  · subst h1; rfl
  · by_cases h2' : n = 2
    · subst h2'; rfl
    · rw [if_neg h1, if_neg h2']; simp; omega

end Go.Proofs.Ytifidfgihpkgcaa

set_option linter.unusedSimpArgs false
set_option linter.unusedVariables false
namespace Go.Proofs.Ytifidfgihpkgcaa
open Go.RowKit Wv

/-- The read of a whole state, by a name of its own: the walk does not open it. -/
def loadRow (v : Value) : Sem Value := Instr.loadAt 45 v
theorem loadRow_of (v : Value) : Instr.loadAt 45 v = loadRow v := rfl
attribute [local go_sem ↓] loadRow_of

/-- The state's box stands, another one behind it stands, and nothing that was there when they were laid has changed. -/
structure Boxed (w0 : World) (b : Nat) (R : Array Value) (O : Obj) (W : World) : Prop where
  box : W.heap[b]? = some (.cells R 45)
  next : W.heap[b + 1]? = some O
  size : R.size = 26
  grown : w0.grownBy W none

theorem Boxed.load {w0 W : World} {b : Nat} {R : Array Value} {O : Obj} (h : Boxed w0 b R O W) :
    Sem.run Try.prog (Instr.loadAt 45 (.pointer (some ⟨b, 0, none⟩))) W = .ok (.agg R) W := by
  simp only [Instr.loadAt, Instr.sureAddr, Sem.run_bind, Sem.run_pure, Result.andThen_ok, run_loadVar_row _ _ 45 _ _ (0, 0) _ h.box Try.underlying45 rfl (by rw [h.size]; exact info_rstate (fun _ => 0))]

theorem Boxed.later {w0 W W' : World} {b : Nat} {R : Array Value} {O : Obj} (h : Boxed w0 b R O W) (g : W.grownBy W' none) : Boxed w0 b R O W' :=
  ⟨by rw [g.block b (Array.getElem?_eq_some_iff.1 h.box).1 (by simp)]; exact h.box, by rw [g.block _ (Array.getElem?_eq_some_iff.1 h.next).1 (by simp)]; exact h.next, h.size, grownBy_trans h.grown g⟩

theorem Boxed.cell0 {w0 W : World} {b : Nat} {R : Array Value} {O : Obj} (h : Boxed w0 b R O W) (i : Nat) : W.cell? ⟨b, i, none⟩ = R[i]? :=
  cell_of_row W b i R _ _ h.box

theorem Boxed.cell {w0 W : World} {b : Nat} {R C : Array Value} {t : TypeId} {fr : Nat × Nat} (h : Boxed w0 b R (.cells C t fr) W) (i : Nat) : W.cell? ⟨b + 1, i, none⟩ = C[i]? :=
  cell_of_row W (b + 1) i C t fr h.next

set_option maxHeartbeats 1000000 in
set_option maxRecDepth 100000 in
theorem rMay_any (s : ByteArray) (L : List (List Nat)) (σ : Nat → Int) (who base B : Nat) (tv : Value) (vs : List Value) (w : World) (hP : RProg w base B s L tv vs) (hw : who < L.length) (hG : StOk L σ) (hfa : σ (who * 7 + 6) ≤ 2) :
    Calls Try.prog 14 #[tv, .agg (rst σ), .int .i64 (who : Int)] w fun e w' => e = .returned (.bool (mayB s L σ who)) ∧ w.grownBy w' none := by
  have h3 := hP.three
  have hw3 : who < 3 := by omega
  have hn := hG.nx hw3
  have hnx := hG.nxt who hw
  rw [thOf_in hw, hn] at hnx
  have hhow := how_zero (hG.inv (who * 7 + 6) (by omega)).1 hfa
  have hMB : mayB s L σ who = (how (σ (who * 7 + 6)) == 0 && !((nx σ who : Int) == (L[who].length : Int)) && decide (0 < σ (who * 7 + 5)) && !waitsB s L σ who) := by
    unfold mayB; rw [thOf_in hw, hn, hhow]
  rw [hMB]
  have HW : Hid (nx σ who < L[who].length → ∀ W, w.grownBy W none → Calls Try.prog 27 #[tv, .agg (rst σ), .int .i64 (who : Int)] W fun e w' => e = .returned (.bool (waitsB s L σ who)) ∧ W.grownBy w' none) :=
    fun hk W hW => rwaits_any s L σ who base B tv vs W (hP.kept hW) hw hn hk
  have g0 := rst_int σ (who * 7) (by omega) (by omega) (by omega) (by omega)
  have g1 := rst_int σ (who * 7 + 1) (by omega) (by omega) (by omega) (by omega)
  have g2 := rst_int σ (who * 7 + 2) (by omega) (by omega) (by omega) (by omega)
  have g3 := rst_int σ (who * 7 + 3) (by omega) (by omega) (by omega) (by omega)
  have g4 := rst_int σ (who * 7 + 4) (by omega) (by omega) (by omega) (by omega)
  have g5 := rst_int σ (who * 7 + 5) (by omega) (by omega) (by omega) (by omega)
  have g6 := rst_how σ who hw3
  rw [hn] at g4
  obtain ⟨g, cap, bo, cp, rfl, hg, hc, hr⟩ := hP.row who hw
  have hc1 := rcell_old hc
  have hc2 := rcell_old2 hc
  have hc0 := hc
  clear hP hr hn hMB hhow hfa hG hc
  generalize L[who].length = len at *
  generalize nx σ who = k at *
  generalize waitsB s L σ who = wb at *
  generalize σ (who * 7) = v0 at *
  generalize σ (who * 7 + 1) = v1 at *
  generalize σ (who * 7 + 2) = v2 at *
  generalize σ (who * 7 + 3) = v3 at *
  generalize σ (who * 7 + 5) = v5 at *
  generalize how (σ (who * 7 + 6)) = v6 at *
  by_cases hf : v6 = 0
  · subst hf
    by_cases hend : k = len
    · have hb : ((k : Int) == (len : Int)) = true := by simp; omega
      have hdl : decide ((k : Int) < (len : Int)) = false := by simp; omega
      have hdn : decide (k < len) = false := by simp; omega
      rw [hb]
      clear hend HW
      go_enter Try.func14, Try.ntmps14
      go_wp2_with fail
      go_quiet (fail)
      go_wp2_with fail
      go_ret
      exact ⟨rfl, grownBy_trans (rgrown2 _ _ _) (grownBy_drewN _ _ _)⟩
    · have hb : ((k : Int) == (len : Int)) = false := by simp; omega
      have hdl : decide ((k : Int) < (len : Int)) = true := by simp; omega
      have hdn : decide (k < len) = true := by simp; omega
      have hlt : k < len := by omega
      rw [hb]
      by_cases hfz : 0 < v5
      · have hd : decide (0 < v5) = true := by simpa using hfz
        rw [hd]
        have HW2 : Hid _ := HW.out hlt
        clear HW hend
        go_enter Try.func14, Try.ntmps14
        go_wp2_with fail
        obtain ⟨O, hO⟩ : ∃ O : Obj, O = .cells #[.int .i64 v0, .int .i64 v1, .int .i64 v2, .int .i64 v3, .int .i64 (k : Int), .int .i64 v5, .int .u8 0] 40 := ⟨_, rfl⟩
        have hst : Boxed w w.heap.size (rst σ) O (((w.alloc (.cells (rst σ) 45)).alloc (.cells #[.int .i64 v0, .int .i64 v1, .int .i64 v2, .int .i64 v3, .int .i64 (k : Int), .int .i64 v5, .int .u8 0] 40)).drew) := by subst hO; exact ⟨(rheap2 _ _ _).1, (rheap2 _ _ _).2, rst_size _, rgrown_drew (rgrown2 _ _ _)⟩
        have h6 : ∀ W, Boxed w w.heap.size (rst σ) O W → W.cell? ⟨w.heap.size + 1, 6, none⟩ = some (.int .u8 0) := by subst hO; exact fun W h => h.cell 6
        have h5 : ∀ W, Boxed w w.heap.size (rst σ) O W → W.cell? ⟨w.heap.size + 1, 5, none⟩ = some (.int .i64 v5) := by subst hO; exact fun W h => h.cell 5
        have h4 : ∀ W, Boxed w w.heap.size (rst σ) O W → W.cell? ⟨w.heap.size + 1, 4, none⟩ = some (.int .i64 (k : Int)) := by subst hO; exact fun W h => h.cell 4
        have hgc : ∀ W, Boxed w w.heap.size (rst σ) O W → W.cell? ⟨g, who, none⟩ = some (.slice bo len cp) := fun W h => h.grown.cell hc0 (by simp)
        clear hO hc1 hc2 hc0 g0 g1 g2 g3 g4 g5 g6
        have hload : ∀ W, Boxed w w.heap.size (rst σ) O W → Sem.run Try.prog (loadRow (.pointer (some ⟨w.heap.size, 0, none⟩))) W = .ok (.agg (rst σ)) W := fun W h => h.load
        go_region_held3 (fun W => Boxed w w.heap.size (rst σ) O W) (first | assumption | exact Boxed.later ‹Boxed _ _ _ _ _› ‹World.grownBy _ _ _›) (first | (go_at_call 27; refine Calls.mono (HW2.out _ (‹Boxed _ _ _ _ _›).grown) ?_; rintro e w5 ⟨rfl, hg5⟩))
        all_goals
          go_wp2_with fail
          go_ret
          exact ⟨by cases wb <;> rfl, (‹Boxed _ _ _ _ _›).grown⟩
      · have hd : decide (0 < v5) = false := by simpa using hfz
        rw [hd]
        clear HW hend
        go_enter Try.func14, Try.ntmps14
        go_wp2_with fail
        go_quiet (fail)
        go_wp2_with fail
        go_ret
        exact ⟨by simp, grownBy_trans (rgrown2 _ _ _) (grownBy_drewN _ _ _)⟩
  · have hb : (v6 == 0) = false := by simpa using hf
    rw [hb]
    clear HW hf
    go_enter Try.func14, Try.ntmps14
    go_wp2_with fail
    go_quiet (fail)
    go_wp2_with fail
    go_ret
    exact ⟨rfl, grownBy_trans (rgrown2 _ _ _) (grownBy_drewN _ _ _)⟩

end Go.Proofs.Ytifidfgihpkgcaa

set_option linter.unusedSimpArgs false
set_option linter.unusedVariables false
namespace Go.Proofs.Ytifidfgihpkgcaa
open Go.RowKit Wv

/-- A text of one byte. -/
def Wv.str1 (v : Int) : ByteArray := ⟨#[UInt8.ofNat v.toNat]⟩
theorem conv1 (W : World) (p c : Nat) (v : Int) (h0 : 0 ≤ v) (h1 : v ≤ 255) (hc : W.cell? ⟨p, 0, none⟩ = some (.int .u8 v)) :
    (convert 95 9 (.slice (some ⟨p, 0, none⟩) 1 c)).run Try.prog W = .ok (.string (str1 v)) W := by
  refine run_convert_bytes_back (P := Try.prog) W 95 9 5 ⟨p, 0, none⟩ c [UInt8.ofNat v.toNat] Try.underlying95 Try.underlying5 Try.underlying9 ?_
  intro j hj
  have : j = 0 := by simp at hj; omega
  subst this
  have hv : ((UInt8.ofNat v.toNat).toNat : Int) = v := by simp [UInt8.toNat_ofNat']; omega
  simp only [List.getElem_cons_zero, hv]
  rw [← hc]; rfl

set_option maxHeartbeats 400000 in
set_option maxRecDepth 100000 in
theorem digit_any (n : Int) (w : World) (h0 : 0 ≤ n) (h9 : n ≤ 9) :
    Calls Try.prog 37 #[.int .i64 n] w fun e w' => e = .returned (.string (str1 (48 + n))) ∧ w.grownBy w' none := by
  have hcv := fun W p c => conv1 W p c (48 + n) (by omega) (by omega)
  go_enter Try.func37, Try.ntmps37
  go_wp2_with fail
  go_ret
  exact ⟨rfl, World.grownBy_alloc _ _ _⟩
end Go.Proofs.Ytifidfgihpkgcaa

set_option linter.unusedSimpArgs false
namespace Go.Proofs.Ytifidfgihpkgcaa.Wv

theorem two_bounds {s : ByteArray} {x : Nat} {p q : UInt8} (h : stepBad s x = none) (hf : frm (pk s x) = [p, q]) :
    (0 ≤ stepA s x ∧ stepA s x ≤ khi p.toNat - klo p.toNat) ∧ (0 ≤ stepB s x ∧ stepB s x ≤ khi q.toNat - klo q.toNat) := by
  rw [stepBad_two hf] at h
  split at h
  · rename_i h1
    split at h
    · rename_i h2
      simp [kin] at h1 h2
      have hA : stepA s x = pk s (x + 1) - klo p.toNat := by unfold stepA f0; rw [hf]; rfl
      have hB : stepB s x = pk s (x + 2) - klo q.toNat := by unfold stepB f1; rw [hf]; simp
      omega
    · cases h
  · cases h
theorem one_bounds {s : ByteArray} {x : Nat} {p : UInt8} (h : stepBad s x = none) (hf : frm (pk s x) = [p]) : 0 ≤ stepA s x ∧ stepA s x ≤ khi p.toNat - klo p.toNat := by
  rw [stepBad_one hf] at h
  split at h
  · rename_i h1
    simp [kin] at h1
    have hA : stepA s x = pk s (x + 1) - klo p.toNat := by unfold stepA f0; rw [hf]; rfl
    omega
  · cases h

theorem fields_61 {s : ByteArray} {x : Nat} (h : stepBad s x = none) (hc : pk s x = 61) : ∃ a b : Nat, a < 4 ∧ b < 10 ∧ stepA s x = (a : Int) ∧ stepB s x = (b : Int) ∧ ccells s x = [.int .u8 61, .int .u8 (a : Int), .int .u8 0, .int .u8 0, .int .u8 0, .int .u8 (b : Int), .int .i64 (stepAt s x : Int)] := by
  have hf : frm (pk s x) = [110, 100] := by rw [hc]; rfl
  have hb := two_bounds h hf
  have e1 : khi (((110 : UInt8).toNat : Nat) : Int) - klo (((110 : UInt8).toNat : Nat) : Int) = 3 := rfl
  have e2 : khi (((100 : UInt8).toNat : Nat) : Int) - klo (((100 : UInt8).toNat : Nat) : Int) = 9 := rfl
  simp only [e1, e2] at hb
  have hA : stepA s x = ((stepA s x).toNat : Int) := by omega
  have hB : stepB s x = ((stepB s x).toNat : Int) := by omega
  refine ⟨(stepA s x).toNat, (stepB s x).toNat, by omega, by omega, hA, hB, ?_⟩
  rw [← hA, ← hB]
  simp [ccells, cNum, cSec, cCell, cLock, cDig, cPl, hc]
theorem fields_122 {s : ByteArray} {x : Nat} (h : stepBad s x = none) (hc : pk s x = 122) : ∃ a b : Nat, a < 4 ∧ b < 10 ∧ stepA s x = (a : Int) ∧ stepB s x = (b : Int) ∧ ccells s x = [.int .u8 122, .int .u8 (a : Int), .int .u8 0, .int .u8 0, .int .u8 0, .int .u8 (b : Int), .int .i64 (stepAt s x : Int)] := by
  have hf : frm (pk s x) = [110, 100] := by rw [hc]; rfl
  have hb := two_bounds h hf
  have e1 : khi (((110 : UInt8).toNat : Nat) : Int) - klo (((110 : UInt8).toNat : Nat) : Int) = 3 := rfl
  have e2 : khi (((100 : UInt8).toNat : Nat) : Int) - klo (((100 : UInt8).toNat : Nat) : Int) = 9 := rfl
  simp only [e1, e2] at hb
  have hA : stepA s x = ((stepA s x).toNat : Int) := by omega
  have hB : stepB s x = ((stepB s x).toNat : Int) := by omega
  refine ⟨(stepA s x).toNat, (stepB s x).toNat, by omega, by omega, hA, hB, ?_⟩
  rw [← hA, ← hB]
  simp [ccells, cNum, cSec, cCell, cLock, cDig, cPl, hc]
theorem fields_43 {s : ByteArray} {x : Nat} (h : stepBad s x = none) (hc : pk s x = 43) : ∃ a b : Nat, a < 4 ∧ b < 4 ∧ stepA s x = (a : Int) ∧ stepB s x = (b : Int) ∧ ccells s x = [.int .u8 43, .int .u8 (a : Int), .int .u8 (b : Int), .int .u8 0, .int .u8 0, .int .u8 0, .int .i64 0] := by
  have hf : frm (pk s x) = [110, 110] := by rw [hc]; rfl
  have hb := two_bounds h hf
  have e1 : khi (((110 : UInt8).toNat : Nat) : Int) - klo (((110 : UInt8).toNat : Nat) : Int) = 3 := rfl
  have e2 : khi (((110 : UInt8).toNat : Nat) : Int) - klo (((110 : UInt8).toNat : Nat) : Int) = 3 := rfl
  simp only [e1, e2] at hb
  have hA : stepA s x = ((stepA s x).toNat : Int) := by omega
  have hB : stepB s x = ((stepB s x).toNat : Int) := by omega
  refine ⟨(stepA s x).toNat, (stepB s x).toNat, by omega, by omega, hA, hB, ?_⟩
  rw [← hA, ← hB]
  simp [ccells, cNum, cSec, cCell, cLock, cDig, cPl, hc]
theorem fields_45 {s : ByteArray} {x : Nat} (h : stepBad s x = none) (hc : pk s x = 45) : ∃ a b : Nat, a < 4 ∧ b < 4 ∧ stepA s x = (a : Int) ∧ stepB s x = (b : Int) ∧ ccells s x = [.int .u8 45, .int .u8 (a : Int), .int .u8 (b : Int), .int .u8 0, .int .u8 0, .int .u8 0, .int .i64 0] := by
  have hf : frm (pk s x) = [110, 110] := by rw [hc]; rfl
  have hb := two_bounds h hf
  have e1 : khi (((110 : UInt8).toNat : Nat) : Int) - klo (((110 : UInt8).toNat : Nat) : Int) = 3 := rfl
  have e2 : khi (((110 : UInt8).toNat : Nat) : Int) - klo (((110 : UInt8).toNat : Nat) : Int) = 3 := rfl
  simp only [e1, e2] at hb
  have hA : stepA s x = ((stepA s x).toNat : Int) := by omega
  have hB : stepB s x = ((stepB s x).toNat : Int) := by omega
  refine ⟨(stepA s x).toNat, (stepB s x).toNat, by omega, by omega, hA, hB, ?_⟩
  rw [← hA, ← hB]
  simp [ccells, cNum, cSec, cCell, cLock, cDig, cPl, hc]
theorem fields_114 {s : ByteArray} {x : Nat} (h : stepBad s x = none) (hc : pk s x = 114) : ∃ a b : Nat, a < 4 ∧ b < 3 ∧ stepA s x = (a : Int) ∧ stepB s x = (b : Int) ∧ ccells s x = [.int .u8 114, .int .u8 (a : Int), .int .u8 0, .int .u8 (b : Int), .int .u8 0, .int .u8 0, .int .i64 0] := by
  have hf : frm (pk s x) = [110, 99] := by rw [hc]; rfl
  have hb := two_bounds h hf
  have e1 : khi (((110 : UInt8).toNat : Nat) : Int) - klo (((110 : UInt8).toNat : Nat) : Int) = 3 := rfl
  have e2 : khi (((99 : UInt8).toNat : Nat) : Int) - klo (((99 : UInt8).toNat : Nat) : Int) = 2 := rfl
  simp only [e1, e2] at hb
  have hA : stepA s x = ((stepA s x).toNat : Int) := by omega
  have hB : stepB s x = ((stepB s x).toNat : Int) := by omega
  refine ⟨(stepA s x).toNat, (stepB s x).toNat, by omega, by omega, hA, hB, ?_⟩
  rw [← hA, ← hB]
  simp [ccells, cNum, cSec, cCell, cLock, cDig, cPl, hc]
theorem fields_119 {s : ByteArray} {x : Nat} (h : stepBad s x = none) (hc : pk s x = 119) : ∃ a b : Nat, a < 3 ∧ b < 4 ∧ stepA s x = (a : Int) ∧ stepB s x = (b : Int) ∧ ccells s x = [.int .u8 119, .int .u8 (b : Int), .int .u8 0, .int .u8 (a : Int), .int .u8 0, .int .u8 0, .int .i64 0] := by
  have hf : frm (pk s x) = [99, 110] := by rw [hc]; rfl
  have hb := two_bounds h hf
  have e1 : khi (((99 : UInt8).toNat : Nat) : Int) - klo (((99 : UInt8).toNat : Nat) : Int) = 2 := rfl
  have e2 : khi (((110 : UInt8).toNat : Nat) : Int) - klo (((110 : UInt8).toNat : Nat) : Int) = 3 := rfl
  simp only [e1, e2] at hb
  have hA : stepA s x = ((stepA s x).toNat : Int) := by omega
  have hB : stepB s x = ((stepB s x).toNat : Int) := by omega
  refine ⟨(stepA s x).toNat, (stepB s x).toNat, by omega, by omega, hA, hB, ?_⟩
  rw [← hA, ← hB]
  simp [ccells, cNum, cSec, cCell, cLock, cDig, cPl, hc]
theorem fields_108 {s : ByteArray} {x : Nat} (h : stepBad s x = none) (hc : pk s x = 108) : ∃ a : Nat, a < 2 ∧ stepA s x = (a : Int) ∧ ccells s x = [.int .u8 108, .int .u8 0, .int .u8 0, .int .u8 0, .int .u8 (a : Int), .int .u8 0, .int .i64 0] := by
  have hf : frm (pk s x) = [107] := by rw [hc]; rfl
  have hb := one_bounds h hf
  have e1 : khi (((107 : UInt8).toNat : Nat) : Int) - klo (((107 : UInt8).toNat : Nat) : Int) = 1 := rfl
  rw [e1] at hb
  have hA : stepA s x = ((stepA s x).toNat : Int) := by omega
  refine ⟨(stepA s x).toNat, by omega, hA, ?_⟩
  rw [← hA]
  simp [ccells, cNum, cSec, cCell, cLock, cDig, cPl, hc]
theorem fields_117 {s : ByteArray} {x : Nat} (h : stepBad s x = none) (hc : pk s x = 117) : ∃ a : Nat, a < 2 ∧ stepA s x = (a : Int) ∧ ccells s x = [.int .u8 117, .int .u8 0, .int .u8 0, .int .u8 0, .int .u8 (a : Int), .int .u8 0, .int .i64 0] := by
  have hf : frm (pk s x) = [107] := by rw [hc]; rfl
  have hb := one_bounds h hf
  have e1 : khi (((107 : UInt8).toNat : Nat) : Int) - klo (((107 : UInt8).toNat : Nat) : Int) = 1 := rfl
  rw [e1] at hb
  have hA : stepA s x = ((stepA s x).toNat : Int) := by omega
  refine ⟨(stepA s x).toNat, by omega, hA, ?_⟩
  rw [← hA]
  simp [ccells, cNum, cSec, cCell, cLock, cDig, cPl, hc]
theorem fields_106 {s : ByteArray} {x : Nat} (h : stepBad s x = none) (hc : pk s x = 106) : ∃ a : Nat, a < 10 ∧ stepA s x = (a : Int) ∧ ccells s x = [.int .u8 106, .int .u8 0, .int .u8 0, .int .u8 0, .int .u8 0, .int .u8 (a : Int), .int .i64 (stepAt s x : Int)] := by
  have hf : frm (pk s x) = [100] := by rw [hc]; rfl
  have hb := one_bounds h hf
  have e1 : khi (((100 : UInt8).toNat : Nat) : Int) - klo (((100 : UInt8).toNat : Nat) : Int) = 9 := rfl
  rw [e1] at hb
  have hA : stepA s x = ((stepA s x).toNat : Int) := by omega
  refine ⟨(stepA s x).toNat, by omega, hA, ?_⟩
  rw [← hA]
  simp [ccells, cNum, cSec, cCell, cLock, cDig, cPl, hc]
theorem fields_33 {s : ByteArray} {x : Nat} (h : stepBad s x = none) (hc : pk s x = 33) : ∃ a : Nat, a < 4 ∧ stepA s x = (a : Int) ∧ ccells s x = [.int .u8 33, .int .u8 (a : Int), .int .u8 0, .int .u8 0, .int .u8 0, .int .u8 0, .int .i64 0] := by
  have hf : frm (pk s x) = [110] := by rw [hc]; rfl
  have hb := one_bounds h hf
  have e1 : khi (((110 : UInt8).toNat : Nat) : Int) - klo (((110 : UInt8).toNat : Nat) : Int) = 3 := rfl
  rw [e1] at hb
  have hA : stepA s x = ((stepA s x).toNat : Int) := by omega
  refine ⟨(stepA s x).toNat, by omega, hA, ?_⟩
  rw [← hA]
  simp [ccells, cNum, cSec, cCell, cLock, cDig, cPl, hc]

/-- The sign of a step that was read is one of ten. -/
theorem sign_of {s : ByteArray} {x : Nat} (h : stepBad s x = none) : pk s x = 61 ∨ pk s x = 122 ∨ pk s x = 43 ∨ pk s x = 45 ∨ pk s x = 114 ∨ pk s x = 119 ∨ pk s x = 108 ∨ pk s x = 117 ∨ pk s x = 106 ∨ pk s x = 33 := by
  have hne : frm (pk s x) ≠ [] := fun e => by unfold stepBad at h; rw [if_pos e] at h; cases h
  unfold frm at hne
  split at hne
  · rename_i h; omega
  split at hne
  · rename_i h; omega
  split at hne
  · rename_i h; omega
  split at hne
  · rename_i h; omega
  split at hne
  · rename_i h; omega
  split at hne
  · rename_i h; omega
  split at hne
  · rename_i h; omega
  exact absurd rfl hne

end Go.Proofs.Ytifidfgihpkgcaa.Wv

set_option linter.unusedSimpArgs false
set_option linter.unusedVariables false
namespace Go.Proofs.Ytifidfgihpkgcaa
open Go.RowKit Wv

/-- Some cells laid into a row, from o on. -/
def putRow (R : Array Value) : Nat → List Value → Array Value
  | _, [] => R
  | o, v :: r => putRow (R.setIfInBounds o v) (o + 1) r
theorem heap_setCells {b : Nat} {t : TypeId} : ∀ (cs : List Value) (o : Nat) (W : World) (R : Array Value), W.heap[b]? = some (.cells R t (0, 0)) → (W.setCells b o cs).heap[b]? = some (.cells (putRow R o cs) t (0, 0))
  | [], _, _, _, h => h
  | v :: r, o, W, R, h => heap_setCells r (o + 1) _ _ (Go.heap_setCell_same _ _ _ _ _ v h)
theorem heap_setCells_ne {b k : Nat} (hk : k ≠ b) : ∀ (cs : List Value) (o : Nat) (W : World), (W.setCells b o cs).heap[k]? = W.heap[k]?
  | [], _, _ => rfl
  | v :: r, o, W => by rw [World.setCells, heap_setCells_ne hk r (o + 1), heap_setCell_other _ _ _ _ hk]
theorem grown_setCells {w : World} {b : Nat} (hb : w.heap.size ≤ b) : ∀ (cs : List Value) (o : Nat) (W : World), w.grownBy W none → w.grownBy (W.setCells b o cs) none
  | [], _, _, h => h
  | v :: r, o, W, h => grown_setCells hb r (o + 1) _ (grownBy_new' h (grownBy_setCell _ _ _ _) (fun r e => by simp at e; omega))
theorem there_of_row {W : World} {b : Nat} {R : Array Value} {t : TypeId} (h : W.heap[b]? = some (.cells R t (0, 0))) (o n : Nat) (hn : o + n ≤ R.size) : W.there b o n := fun j hj =>
  ⟨by rw [cell_of_row W b (o + j) R t _ h]; simp; omega, frozen_of_row W b (o + j) R t h⟩

/-- The numbers of one thread, all seven. -/
def updT (σ : Nat → Int) (who : Nat) (a0 a1 a2 a3 a4 a5 a6 : Int) : Nat → Int :=
  upd (upd (upd (upd (upd (upd (upd σ (who * 7) a0) (who * 7 + 1) a1) (who * 7 + 2) a2) (who * 7 + 3) a3) (who * 7 + 4) a4) (who * 7 + 5) a5) (who * 7 + 6) a6
theorem putRow_rst (σ : Nat → Int) (who : Nat) (h : who < 3) (a0 a1 a2 a3 a4 a5 a6 h6 : Int) (hh : h6 = how a6) :
    putRow (rst σ) (who * 7) [.int .i64 a0, .int .i64 a1, .int .i64 a2, .int .i64 a3, .int .i64 a4, .int .i64 a5, .int .u8 h6] = rst (updT σ who a0 a1 a2 a3 a4 a5 a6) := by
  subst hh
  simp only [putRow]
  rw [rst_set _ _ _ (by omega) (by omega) (by omega), rst_set _ _ _ (by omega) (by omega) (by omega), rst_set _ _ _ (by omega) (by omega) (by omega), rst_set _ _ _ (by omega) (by omega) (by omega), rst_set _ _ _ (by omega) (by omega) (by omega), rst_set _ _ _ (by omega) (by omega) (by omega), rst_seth _ _ _ h]
  rfl
theorem updT_at (σ : Nat → Int) (who : Nat) (a0 a1 a2 a3 a4 a5 a6 : Int) (i : Nat) : updT σ who a0 a1 a2 a3 a4 a5 a6 i = if i = who * 7 + 6 then a6 else if i = who * 7 + 5 then a5 else if i = who * 7 + 4 then a4 else if i = who * 7 + 3 then a3 else if i = who * 7 + 2 then a2 else if i = who * 7 + 1 then a1 else if i = who * 7 then a0 else σ i := rfl
theorem rheap4 (w : World) (A B C D : Obj) : ((((w.alloc A).alloc B).alloc C).alloc D).heap[w.heap.size]? = some A ∧ ((((w.alloc A).alloc B).alloc C).alloc D).heap[w.heap.size + 1]? = some B ∧ w.grownBy ((((w.alloc A).alloc B).alloc C).alloc D) none := by
  have h1 : (w.alloc A).heap.size = w.heap.size + 1 := by simp
  have h2 : ((w.alloc A).alloc B).heap.size = w.heap.size + 2 := by simp
  have h3 : (((w.alloc A).alloc B).alloc C).heap.size = w.heap.size + 3 := by simp
  refine ⟨?_, ?_, grownBy_trans (rgrown2 w A B) (rgrown2 _ C D)⟩
  · rw [heap_alloc_old _ _ (by omega), heap_alloc_old _ _ (by omega)]; exact (rheap2 _ _ _).1
  · rw [heap_alloc_old _ _ (by omega), heap_alloc_old _ _ (by omega)]; exact (rheap2 _ _ _).2
theorem there4 (w : World) (R : Array Value) (B C D : Obj) (o n : Nat) (h : o + n ≤ R.size) : ((((w.alloc (.cells R 45)).alloc B).alloc C).alloc D).drew.there w.heap.size o n :=
  there_of_row (W := ((((w.alloc (.cells R 45)).alloc B).alloc C).alloc D).drew) (rheap4 w _ B C D).1 o n h
theorem after4 (w : World) (R Z : Array Value) (C D : Obj) (o : Nat) (cs : List Value) :
    (((((w.alloc (.cells R 45)).alloc (.cells Z 45)).alloc C).alloc D).drew.setCells w.heap.size o cs).heap[w.heap.size]? = some (.cells (putRow R o cs) 45 (0, 0)) ∧
    (((((w.alloc (.cells R 45)).alloc (.cells Z 45)).alloc C).alloc D).drew.setCells w.heap.size o cs).heap[w.heap.size + 1]? = some (.cells Z 45 (0, 0)) ∧
    w.grownBy (((((w.alloc (.cells R 45)).alloc (.cells Z 45)).alloc C).alloc D).drew.setCells w.heap.size o cs) none := by
  have h := rheap4 w (.cells R 45) (.cells Z 45) C D
  refine ⟨heap_setCells cs o _ _ h.1, ?_, grown_setCells (Nat.le_refl _) cs o _ (rgrown_drew h.2.2)⟩
  rw [heap_setCells_ne (by omega)]
  exact h.2.1
theorem there4d (w : World) (R : Array Value) (B C D : Obj) (o n : Nat) (h : o + n ≤ R.size) : ((((w.alloc (.cells R 45)).alloc B).alloc C).alloc D).drew.drew.there w.heap.size o n :=
  there_of_row (W := ((((w.alloc (.cells R 45)).alloc B).alloc C).alloc D).drew.drew) (rheap4 w _ B C D).1 o n h
theorem after4d (w : World) (R Z : Array Value) (C D : Obj) (o : Nat) (cs : List Value) :
    (((((w.alloc (.cells R 45)).alloc (.cells Z 45)).alloc C).alloc D).drew.drew.setCells w.heap.size o cs).heap[w.heap.size]? = some (.cells (putRow R o cs) 45 (0, 0)) ∧
    (((((w.alloc (.cells R 45)).alloc (.cells Z 45)).alloc C).alloc D).drew.drew.setCells w.heap.size o cs).heap[w.heap.size + 1]? = some (.cells Z 45 (0, 0)) ∧
    w.grownBy (((((w.alloc (.cells R 45)).alloc (.cells Z 45)).alloc C).alloc D).drew.drew.setCells w.heap.size o cs) none := by
  have h := rheap4 w (.cells R 45) (.cells Z 45) C D
  refine ⟨heap_setCells cs o _ _ h.1, ?_, grown_setCells (Nat.le_refl _) cs o _ (rgrown_drew (rgrown_drew h.2.2))⟩
  rw [heap_setCells_ne (by omega)]
  exact h.2.1
section
variable {P : Program}
/-- The three laws on whole rows, at an operation that is written out: another operation is passed by at once. -/
theorem st_mid {ops : Array Oper} {rest : List Oper} {a : Act} {w : World} {Q : Exit → Act → World → Prop} (ty : TypeId) (x y : Operand) {tt : TypeId} {p : String} {af : Array Edge}
    (b o : Nat) (cells : Array Value) (hx : a.eval x = .pointer (some ⟨b, o, none⟩)) (hy : a.eval y = .agg cells)
    (ht : w.there b o cells.size) (hi : (P.info? ty).map (·.size) = some cells.size) (h1 : cells.all (·.oneCell') = true)
    (h : wpList P ops Q rest (a.put none undef) (w.setCells b o cells.toList)) : wpList P ops Q ({ dst := none, op := .store ty x y, type := tt, pos := p, after := af, guard := none } :: rest) a w :=
  wpList_store_mid rfl ty x y rfl b o cells hx hy ht hi h1 h
theorem ld_row {ops : Array Oper} {rest : List Oper} {a : Act} {w : World} {Q : Exit → Act → World → Prop} (ty : TypeId) (x : Operand) {d : Nat} {tt : TypeId} {p : String} {af : Array Edge}
    (g : Nat) (hx : a.eval x = .pointer (some ⟨g, 0, none⟩)) (cs : Array Value) (hg : w.heap[g]? = some (.cells cs ty (0, 0))) {td : TypeDesc}
    (hu : P.underlying ty = some td) (hd : (match td with | .struct _ | .array _ _ => true | _ => false) = true) (hi : (P.info? ty).map (·.size) = some cs.size)
    (h : wpList P ops Q rest (a.put (some d) (.agg cs)) w) : wpList P ops Q ({ dst := some d, op := .load ty x, type := tt, pos := p, after := af, guard := none } :: rest) a w :=
  wpList_load_row rfl ty x rfl g hx ty cs (0, 0) td hg hu hd hi h
theorem st_row {ops : Array Oper} {rest : List Oper} {a : Act} {w : World} {Q : Exit → Act → World → Prop} (ty : TypeId) (x y : Operand) {tt : TypeId} {p : String} {af : Array Edge}
    (g : Nat) (cs : Array Value) (hx : a.eval x = .pointer (some ⟨g, 0, none⟩)) (hy : a.eval y = .agg cs) (old : Array Value) (hg : w.heap[g]? = some (.cells old ty (0, 0)))
    (hi : (P.info? ty).map (·.size) = some cs.size) (hs : old.size = cs.size) (h1 : cs.all (·.oneCell') = true)
    (h : wpList P ops Q rest (a.put none undef) (w.setRow g cs)) : wpList P ops Q ({ dst := none, op := .store ty x y, type := tt, pos := p, after := af, guard := none } :: rest) a w :=
  wpList_store_row rfl ty x y rfl g cs hx hy ty old hg hi hs h1 h
end
theorem one7 (a0 a1 a2 a3 a4 a5 a6 : Int) : (#[.int .i64 a0, .int .i64 a1, .int .i64 a2, .int .i64 a3, .int .i64 a4, .int .i64 a5, .int .u8 a6] : Array Value).all (·.oneCell') = true := by simp [Value.oneCell']
theorem info_rthread : (Try.prog.info? 40).map (·.size) = some 7 := by kernel_rfl

/-- What a turn's walk leans on: the step's cells, the thread's numbers, where the program lies. -/
structure RTurnAt (w : World) (s : ByteArray) (L : List (List Nat)) (σ : Nat → Int) (who g cap g2 len cp k : Nat) (c A B At : Int) : Prop where
  w3 : who < 3
  wl : who < L.length
  l3 : L.length ≤ 3
  kl : k < len
  l8 : len ≤ 8
  gs : g < w.heap.size
  gs2 : g2 < w.heap.size
  row : w.cell? ⟨g, who, none⟩ = some (.slice (some ⟨g2, 0, none⟩) len cp)
  d0 : w.cell? ⟨g2, k * 4, none⟩ = some (.int .u8 c)
  d1 : w.cell? ⟨g2, k * 4 + 1, none⟩ = some (.int .i64 A)
  d2 : w.cell? ⟨g2, k * 4 + 2, none⟩ = some (.int .i64 B)
  d3 : w.cell? ⟨g2, k * 4 + 3, none⟩ = some (.int .i64 At)
theorem RTurnAt.facts {w : World} {s : ByteArray} {L : List (List Nat)} {σ : Nat → Int} {who g cap g2 len cp k : Nat} {c A B At : Int} (H : RTurnAt w s L σ who g cap g2 len cp k c A B At)
    {v0 v1 v2 v3 v5 : Int} (h0 : σ (who * 7) = v0) (h1 : σ (who * 7 + 1) = v1) (h2 : σ (who * 7 + 2) = v2) (h3 : σ (who * 7 + 3) = v3) (h4 : σ (who * 7 + 4) = (k : Int)) (h5 : σ (who * 7 + 5) = v5) (h6 : σ (who * 7 + 6) = 0) :
    who < L.length ∧ who < 3 ∧ L.length ≤ 3 ∧ k < len ∧ len ≤ 8 ∧ g < w.heap.size ∧ g2 < w.heap.size ∧
    (∀ A B, ((w.alloc A).alloc B).cell? ⟨g, who, none⟩ = some (.slice (some ⟨g2, 0, none⟩) len cp)) ∧ (∀ A B C, (((w.alloc A).alloc B).alloc C).cell? ⟨g, who, none⟩ = some (.slice (some ⟨g2, 0, none⟩) len cp)) ∧
    (∀ X Y, ((w.alloc X).alloc Y).cell? ⟨g2, k * 4, none⟩ = some (.int .u8 c)) ∧ (∀ X Y, ((w.alloc X).alloc Y).cell? ⟨g2, k * 4 + 1, none⟩ = some (.int .i64 A)) ∧ (∀ X Y, ((w.alloc X).alloc Y).cell? ⟨g2, k * 4 + 2, none⟩ = some (.int .i64 B)) ∧ (∀ X Y, ((w.alloc X).alloc Y).cell? ⟨g2, k * 4 + 3, none⟩ = some (.int .i64 At)) ∧
    (∀ X Y Z, (((w.alloc X).alloc Y).alloc Z).cell? ⟨g2, k * 4, none⟩ = some (.int .u8 c)) ∧ (∀ X Y Z, (((w.alloc X).alloc Y).alloc Z).cell? ⟨g2, k * 4 + 1, none⟩ = some (.int .i64 A)) ∧ (∀ X Y Z, (((w.alloc X).alloc Y).alloc Z).cell? ⟨g2, k * 4 + 2, none⟩ = some (.int .i64 B)) ∧ (∀ X Y Z, (((w.alloc X).alloc Y).alloc Z).cell? ⟨g2, k * 4 + 3, none⟩ = some (.int .i64 At)) ∧
    (rst σ)[who * 7]? = some (.int .i64 v0) ∧ (rst σ)[who * 7 + 1]? = some (.int .i64 v1) ∧ (rst σ)[who * 7 + 2]? = some (.int .i64 v2) ∧ (rst σ)[who * 7 + 3]? = some (.int .i64 v3) ∧ (rst σ)[who * 7 + 4]? = some (.int .i64 (k : Int)) ∧ (rst σ)[who * 7 + 5]? = some (.int .i64 v5) ∧ (rst σ)[who * 7 + 6]? = some (.int .u8 0) := by
  have hw3 := H.w3
  have g0 := rst_int σ (who * 7) (by omega) (by omega) (by omega) (by omega)
  have g1 := rst_int σ (who * 7 + 1) (by omega) (by omega) (by omega) (by omega)
  have g2' := rst_int σ (who * 7 + 2) (by omega) (by omega) (by omega) (by omega)
  have g3 := rst_int σ (who * 7 + 3) (by omega) (by omega) (by omega) (by omega)
  have g4 := rst_int σ (who * 7 + 4) (by omega) (by omega) (by omega) (by omega)
  have g5 := rst_int σ (who * 7 + 5) (by omega) (by omega) (by omega) (by omega)
  have g6 := rst_how σ who hw3
  rw [h0] at g0
  rw [h1] at g1
  rw [h2] at g2'
  rw [h3] at g3
  rw [h4] at g4
  rw [h5] at g5
  rw [h6, show how 0 = 0 from rfl] at g6
  exact ⟨H.wl, H.w3, H.l3, H.kl, H.l8, H.gs, H.gs2, rcell_old2 H.row, rcell_old3 H.row, rcell_old2 H.d0, rcell_old2 H.d1, rcell_old2 H.d2, rcell_old2 H.d3, rcell_old3 H.d0, rcell_old3 H.d1, rcell_old3 H.d2, rcell_old3 H.d3, g0, g1, g2', g3, g4, g5, g6⟩
end Go.Proofs.Ytifidfgihpkgcaa

set_option linter.unusedSimpArgs false
set_option linter.unusedVariables false
namespace Go.Proofs.Ytifidfgihpkgcaa
open Go.RowKit Wv

set_option maxHeartbeats 1000000 in
set_option maxRecDepth 100000 in
theorem rturn61_0 (w : World) (s : ByteArray) (L : List (List Nat)) (σ : Nat → Int) (who g cap g2 len cp k : Nat) (B At : Int) (H : RTurnAt w s L σ who g cap g2 len cp k 61 (0) (B) At)
    (v0 v1 v2 v3 v5 : Int) (h0 : σ (who * 7) = v0) (h1 : σ (who * 7 + 1) = v1) (h2 : σ (who * 7 + 2) = v2) (h3 : σ (who * 7 + 3) = v3) (h4 : σ (who * 7 + 4) = (k : Int)) (h5 : σ (who * 7 + 5) = v5) (h6 : σ (who * 7 + 6) = 0) (hf : 0 < v5) (hf9 : v5 ≤ 9) :
    Calls Try.prog 15 #[.slice (some ⟨g, 0, none⟩) L.length cap, .agg (rst σ), .int .i64 (who : Int)] w fun e w' => e = .returned (.agg (rst (updT σ who (B) (v1) (v2) (v3) ((k : Int) + 1) (v5 - 1) 0))) ∧ w.grownBy w' none := by
  obtain ⟨hw, hw3, hl3, hkl, hl8, hg, hg2, c2, c3, e0, e1, e2, e3, f0, f1, f2, f3, g0, g1, g2', g3, g4, g5, g6⟩ := H.facts h0 h1 h2 h3 h4 h5 h6
  have hput := putRow_rst σ who hw3 (B) (v1) (v2) (v3) ((k : Int) + 1) (v5 - 1) 0 0 rfl
  have HP : Hid _ := hput
  have HO : Hid _ := rst_oneCell (updT σ who (B) (v1) (v2) (v3) ((k : Int) + 1) (v5 - 1) 0)
  clear H h0 h1 h2 h3 h4 h5 h6 hput
  generalize updT σ who (B) (v1) (v2) (v3) ((k : Int) + 1) (v5 - 1) 0 = τ at *
  go_enter Try.func15, Try.ntmps15
  go_wp2_with fail
  go_region
  iterate 140 go_step
  refine st_mid 40 (.tmp 156) (.tmp 154) w.heap.size (who * 7) #[.int .i64 (B), .int .i64 (v1), .int .i64 (v2), .int .i64 (v3), .int .i64 ((k : Int) + 1), .int .i64 (v5 - 1), .int .u8 0] ?_ ?_ ?_ ?_ ?_ ?_
  · rfl
  · rfl
  · exact there4 _ (rst σ) _ _ _ _ _ (by simp [rst_size]; omega)
  · exact info_rthread
  · exact one7 _ _ _ _ _ _ _
  iterate 5 go_step
  refine ld_row 45 (.tmp 4) w.heap.size ?_ (rst τ) ?_ Try.underlying45 rfl ?_ ?_
  · rfl
  · rw [← HP.out]; exact (after4 _ (rst σ) _ _ _ _ _).1
  · exact info_rstate τ
  refine st_row 45 (.tmp 6) (.tmp 157) (w.heap.size + 1) (rst τ) ?_ ?_ (rst (fun _ => 0)) ?_ ?_ ?_ ?_ ?_
  · rfl
  · rfl
  · exact (after4 _ (rst σ) _ _ _ _ _).2.1
  · exact info_rstate τ
  · rw [rst_size, rst_size]
  · exact HO.out
  go_wp2_with fail
  refine bodyPost_ret (v := .agg (rst τ)) (results_cell_row Try.results15 _ _ (w.heap.size + 1) 45 _ (0, 0) _ rfl (setRow_heap _ _ _ _ 45 (0, 0) (after4 _ (rst σ) _ _ _ _ _).2.1) Try.underlying45 rfl (info_rstate τ)) rfl ⟨rfl, ?_⟩
  exact rgrown_setRow (after4 _ (rst σ) _ _ _ _ _).2.2 (by omega) _

set_option maxHeartbeats 1000000 in
set_option maxRecDepth 100000 in
theorem rturn61_1 (w : World) (s : ByteArray) (L : List (List Nat)) (σ : Nat → Int) (who g cap g2 len cp k : Nat) (B At : Int) (H : RTurnAt w s L σ who g cap g2 len cp k 61 (1) (B) At)
    (v0 v1 v2 v3 v5 : Int) (h0 : σ (who * 7) = v0) (h1 : σ (who * 7 + 1) = v1) (h2 : σ (who * 7 + 2) = v2) (h3 : σ (who * 7 + 3) = v3) (h4 : σ (who * 7 + 4) = (k : Int)) (h5 : σ (who * 7 + 5) = v5) (h6 : σ (who * 7 + 6) = 0) (hf : 0 < v5) (hf9 : v5 ≤ 9) :
    Calls Try.prog 15 #[.slice (some ⟨g, 0, none⟩) L.length cap, .agg (rst σ), .int .i64 (who : Int)] w fun e w' => e = .returned (.agg (rst (updT σ who (v0) (B) (v2) (v3) ((k : Int) + 1) (v5 - 1) 0))) ∧ w.grownBy w' none := by
  obtain ⟨hw, hw3, hl3, hkl, hl8, hg, hg2, c2, c3, e0, e1, e2, e3, f0, f1, f2, f3, g0, g1, g2', g3, g4, g5, g6⟩ := H.facts h0 h1 h2 h3 h4 h5 h6
  have hput := putRow_rst σ who hw3 (v0) (B) (v2) (v3) ((k : Int) + 1) (v5 - 1) 0 0 rfl
  have HP : Hid _ := hput
  have HO : Hid _ := rst_oneCell (updT σ who (v0) (B) (v2) (v3) ((k : Int) + 1) (v5 - 1) 0)
  clear H h0 h1 h2 h3 h4 h5 h6 hput
  generalize updT σ who (v0) (B) (v2) (v3) ((k : Int) + 1) (v5 - 1) 0 = τ at *
  go_enter Try.func15, Try.ntmps15
  go_wp2_with fail
  go_region
  iterate 140 go_step
  refine st_mid 40 (.tmp 156) (.tmp 154) w.heap.size (who * 7) #[.int .i64 (v0), .int .i64 (B), .int .i64 (v2), .int .i64 (v3), .int .i64 ((k : Int) + 1), .int .i64 (v5 - 1), .int .u8 0] ?_ ?_ ?_ ?_ ?_ ?_
  · rfl
  · rfl
  · exact there4 _ (rst σ) _ _ _ _ _ (by simp [rst_size]; omega)
  · exact info_rthread
  · exact one7 _ _ _ _ _ _ _
  iterate 5 go_step
  refine ld_row 45 (.tmp 4) w.heap.size ?_ (rst τ) ?_ Try.underlying45 rfl ?_ ?_
  · rfl
  · rw [← HP.out]; exact (after4 _ (rst σ) _ _ _ _ _).1
  · exact info_rstate τ
  refine st_row 45 (.tmp 6) (.tmp 157) (w.heap.size + 1) (rst τ) ?_ ?_ (rst (fun _ => 0)) ?_ ?_ ?_ ?_ ?_
  · rfl
  · rfl
  · exact (after4 _ (rst σ) _ _ _ _ _).2.1
  · exact info_rstate τ
  · rw [rst_size, rst_size]
  · exact HO.out
  go_wp2_with fail
  refine bodyPost_ret (v := .agg (rst τ)) (results_cell_row Try.results15 _ _ (w.heap.size + 1) 45 _ (0, 0) _ rfl (setRow_heap _ _ _ _ 45 (0, 0) (after4 _ (rst σ) _ _ _ _ _).2.1) Try.underlying45 rfl (info_rstate τ)) rfl ⟨rfl, ?_⟩
  exact rgrown_setRow (after4 _ (rst σ) _ _ _ _ _).2.2 (by omega) _

set_option maxHeartbeats 1000000 in
set_option maxRecDepth 100000 in
theorem rturn61_2 (w : World) (s : ByteArray) (L : List (List Nat)) (σ : Nat → Int) (who g cap g2 len cp k : Nat) (B At : Int) (H : RTurnAt w s L σ who g cap g2 len cp k 61 (2) (B) At)
    (v0 v1 v2 v3 v5 : Int) (h0 : σ (who * 7) = v0) (h1 : σ (who * 7 + 1) = v1) (h2 : σ (who * 7 + 2) = v2) (h3 : σ (who * 7 + 3) = v3) (h4 : σ (who * 7 + 4) = (k : Int)) (h5 : σ (who * 7 + 5) = v5) (h6 : σ (who * 7 + 6) = 0) (hf : 0 < v5) (hf9 : v5 ≤ 9) :
    Calls Try.prog 15 #[.slice (some ⟨g, 0, none⟩) L.length cap, .agg (rst σ), .int .i64 (who : Int)] w fun e w' => e = .returned (.agg (rst (updT σ who (v0) (v1) (B) (v3) ((k : Int) + 1) (v5 - 1) 0))) ∧ w.grownBy w' none := by
  obtain ⟨hw, hw3, hl3, hkl, hl8, hg, hg2, c2, c3, e0, e1, e2, e3, f0, f1, f2, f3, g0, g1, g2', g3, g4, g5, g6⟩ := H.facts h0 h1 h2 h3 h4 h5 h6
  have hput := putRow_rst σ who hw3 (v0) (v1) (B) (v3) ((k : Int) + 1) (v5 - 1) 0 0 rfl
  have HP : Hid _ := hput
  have HO : Hid _ := rst_oneCell (updT σ who (v0) (v1) (B) (v3) ((k : Int) + 1) (v5 - 1) 0)
  clear H h0 h1 h2 h3 h4 h5 h6 hput
  generalize updT σ who (v0) (v1) (B) (v3) ((k : Int) + 1) (v5 - 1) 0 = τ at *
  go_enter Try.func15, Try.ntmps15
  go_wp2_with fail
  go_region
  iterate 140 go_step
  refine st_mid 40 (.tmp 156) (.tmp 154) w.heap.size (who * 7) #[.int .i64 (v0), .int .i64 (v1), .int .i64 (B), .int .i64 (v3), .int .i64 ((k : Int) + 1), .int .i64 (v5 - 1), .int .u8 0] ?_ ?_ ?_ ?_ ?_ ?_
  · rfl
  · rfl
  · exact there4 _ (rst σ) _ _ _ _ _ (by simp [rst_size]; omega)
  · exact info_rthread
  · exact one7 _ _ _ _ _ _ _
  iterate 5 go_step
  refine ld_row 45 (.tmp 4) w.heap.size ?_ (rst τ) ?_ Try.underlying45 rfl ?_ ?_
  · rfl
  · rw [← HP.out]; exact (after4 _ (rst σ) _ _ _ _ _).1
  · exact info_rstate τ
  refine st_row 45 (.tmp 6) (.tmp 157) (w.heap.size + 1) (rst τ) ?_ ?_ (rst (fun _ => 0)) ?_ ?_ ?_ ?_ ?_
  · rfl
  · rfl
  · exact (after4 _ (rst σ) _ _ _ _ _).2.1
  · exact info_rstate τ
  · rw [rst_size, rst_size]
  · exact HO.out
  go_wp2_with fail
  refine bodyPost_ret (v := .agg (rst τ)) (results_cell_row Try.results15 _ _ (w.heap.size + 1) 45 _ (0, 0) _ rfl (setRow_heap _ _ _ _ 45 (0, 0) (after4 _ (rst σ) _ _ _ _ _).2.1) Try.underlying45 rfl (info_rstate τ)) rfl ⟨rfl, ?_⟩
  exact rgrown_setRow (after4 _ (rst σ) _ _ _ _ _).2.2 (by omega) _

set_option maxHeartbeats 1000000 in
set_option maxRecDepth 100000 in
theorem rturn61_3 (w : World) (s : ByteArray) (L : List (List Nat)) (σ : Nat → Int) (who g cap g2 len cp k : Nat) (B At : Int) (H : RTurnAt w s L σ who g cap g2 len cp k 61 (3) (B) At)
    (v0 v1 v2 v3 v5 : Int) (h0 : σ (who * 7) = v0) (h1 : σ (who * 7 + 1) = v1) (h2 : σ (who * 7 + 2) = v2) (h3 : σ (who * 7 + 3) = v3) (h4 : σ (who * 7 + 4) = (k : Int)) (h5 : σ (who * 7 + 5) = v5) (h6 : σ (who * 7 + 6) = 0) (hf : 0 < v5) (hf9 : v5 ≤ 9) :
    Calls Try.prog 15 #[.slice (some ⟨g, 0, none⟩) L.length cap, .agg (rst σ), .int .i64 (who : Int)] w fun e w' => e = .returned (.agg (rst (updT σ who (v0) (v1) (v2) (B) ((k : Int) + 1) (v5 - 1) 0))) ∧ w.grownBy w' none := by
  obtain ⟨hw, hw3, hl3, hkl, hl8, hg, hg2, c2, c3, e0, e1, e2, e3, f0, f1, f2, f3, g0, g1, g2', g3, g4, g5, g6⟩ := H.facts h0 h1 h2 h3 h4 h5 h6
  have hput := putRow_rst σ who hw3 (v0) (v1) (v2) (B) ((k : Int) + 1) (v5 - 1) 0 0 rfl
  have HP : Hid _ := hput
  have HO : Hid _ := rst_oneCell (updT σ who (v0) (v1) (v2) (B) ((k : Int) + 1) (v5 - 1) 0)
  clear H h0 h1 h2 h3 h4 h5 h6 hput
  generalize updT σ who (v0) (v1) (v2) (B) ((k : Int) + 1) (v5 - 1) 0 = τ at *
  go_enter Try.func15, Try.ntmps15
  go_wp2_with fail
  go_region
  iterate 140 go_step
  refine st_mid 40 (.tmp 156) (.tmp 154) w.heap.size (who * 7) #[.int .i64 (v0), .int .i64 (v1), .int .i64 (v2), .int .i64 (B), .int .i64 ((k : Int) + 1), .int .i64 (v5 - 1), .int .u8 0] ?_ ?_ ?_ ?_ ?_ ?_
  · rfl
  · rfl
  · exact there4 _ (rst σ) _ _ _ _ _ (by simp [rst_size]; omega)
  · exact info_rthread
  · exact one7 _ _ _ _ _ _ _
  iterate 5 go_step
  refine ld_row 45 (.tmp 4) w.heap.size ?_ (rst τ) ?_ Try.underlying45 rfl ?_ ?_
  · rfl
  · rw [← HP.out]; exact (after4 _ (rst σ) _ _ _ _ _).1
  · exact info_rstate τ
  refine st_row 45 (.tmp 6) (.tmp 157) (w.heap.size + 1) (rst τ) ?_ ?_ (rst (fun _ => 0)) ?_ ?_ ?_ ?_ ?_
  · rfl
  · rfl
  · exact (after4 _ (rst σ) _ _ _ _ _).2.1
  · exact info_rstate τ
  · rw [rst_size, rst_size]
  · exact HO.out
  go_wp2_with fail
  refine bodyPost_ret (v := .agg (rst τ)) (results_cell_row Try.results15 _ _ (w.heap.size + 1) 45 _ (0, 0) _ rfl (setRow_heap _ _ _ _ 45 (0, 0) (after4 _ (rst σ) _ _ _ _ _).2.1) Try.underlying45 rfl (info_rstate τ)) rfl ⟨rfl, ?_⟩
  exact rgrown_setRow (after4 _ (rst σ) _ _ _ _ _).2.2 (by omega) _
end Go.Proofs.Ytifidfgihpkgcaa

