import Derived.Test.YtimgindeiekpmaaCodeA
import Derived.Test.YtimgindeiekpmaaSpecC
import Derived.Test.YtimgindeiekpmaaOwn
set_option linter.unusedSimpArgs false
set_option linter.unusedVariables false
namespace Go.Proofs.Ytimgindeiekpmaa
open Go.RowKit Wv

def JumpPost (s : ByteArray) (len : Nat) (l : List Nat) (e : Ending) : Prop :=
  match jump1 s len l with
  | some p => e = .panicked (refusal 3 (p : Int))
  | none => e = .returned (.tuple #[])

theorem ccells_len (s : ByteArray) (i : Nat) : (ccells s i).length = 7 := rfl

/-- The cells of step k of a row. -/
theorem step_cells {w wr : World} {base g n cap : Nat} {s : ByteArray} {l : List Nat} (hown : w.ownsRow base 143 7 (.slice (some ⟨g, 0, none⟩) n cap) l.length (l.flatMap (ccells s))) (hgr : w.grownBy wr none) (k : Nat) (hk : k < l.length) :
    wr.cell? ⟨g, k * 7, none⟩ = some (.int .u8 (pk s l[k])) ∧ wr.cell? ⟨g, k * 7 + 1, none⟩ = some (.int .u8 (cNum s l[k])) ∧ wr.cell? ⟨g, k * 7 + 2, none⟩ = some (.int .u8 (cSec s l[k])) ∧
    wr.cell? ⟨g, k * 7 + 3, none⟩ = some (.int .u8 (cCell s l[k])) ∧ wr.cell? ⟨g, k * 7 + 4, none⟩ = some (.int .u8 (cLock s l[k])) ∧ wr.cell? ⟨g, k * 7 + 5, none⟩ = some (.int .u8 (cDig s l[k])) ∧ wr.cell? ⟨g, k * 7 + 6, none⟩ = some (.int .i64 (cPl s l[k])) := by
  have key : ∀ j u, j < 7 → (ccells s l[k])[j]? = some u → wr.cell? ⟨g, k * 7 + j, none⟩ = some u := by
    intro j u hj hu
    have h1 := hown.cells (g := g) rfl (k * 7 + j) u (by rw [flatMap_get (ccells_len s) l k hk j hj]; exact hu)
    have hadd : (⟨g, 0, none⟩ : Addr).add (k * 7 + j) = ⟨g, k * 7 + j, none⟩ := by unfold Addr.add; split <;> simp_all
    rw [hadd] at h1
    exact hgr.cell h1 (by simp)
  exact ⟨key 0 _ (by omega) rfl, key 1 _ (by omega) rfl, key 2 _ (by omega) rfl, key 3 _ (by omega) rfl, key 4 _ (by omega) rfl, key 5 _ (by omega) rfl, key 6 _ (by omega) rfl⟩

theorem jumpBad_eq (s : ByteArray) (len i : Nat) : jumpBad s len i = ((pk s i == 122 || pk s i == 106) && decide ((len : Int) < cDig s i)) := by
  unfold jumpBad cDig
  by_cases h1 : pk s i = 122
  · simp [h1]
  · by_cases h2 : pk s i = 106
    · simp [h2]
    · have a1 : (pk s i == 122) = false := by simpa using h1
      have a2 : (pk s i == 106) = false := by simpa using h2
      rw [a1, a2]; simp
theorem grownBy_alloc2 {w w1 : World} {r : Option Nat} (h : w.grownBy w1 r) (o : Obj) : w.grownBy (w1.alloc o) r := grownBy_trans h (World.grownBy_alloc w1 o r)
theorem jump_hit {s : ByteArray} {len k : Nat} {l : List Nat} (hk : k < l.length) (h : jumpBad s len l[k] = true) : jump1 s len (l.drop k) = some (stepAt s l[k]) := by
  rw [List.drop_eq_getElem_cons hk, jump1, if_pos h]
theorem jump_miss {s : ByteArray} {len k : Nat} {l : List Nat} (hk : k < l.length) (h : jumpBad s len l[k] = false) : jump1 s len (l.drop k) = jump1 s len (l.drop (k + 1)) := by
  rw [List.drop_eq_getElem_cons hk, jump1, h]; rfl

set_option maxHeartbeats 2000000 in
set_option maxRecDepth 100000 in
theorem checkJumps_any (s : ByteArray) (base : Nat) (v : Value) (l : List Nat) (w : World) (hown : w.ownsRow base 143 7 v l.length (l.flatMap (ccells s))) (h8 : l.length ≤ 8) (hgood : ∀ x ∈ l, stepBad s x = none) :
    Calls Try.prog 60 #[v] w fun e w' => JumpPost s l.length l e ∧ w.grownBy w' none := by
  obtain ⟨ao, cap, rfl⟩ := ownsRow_slice hown
  have HO : Hid _ := hown
  have HG : Hid _ := hgood
  clear hown hgood
  go_enter Try.func60, Try.ntmps60
  go_wp2
  go_loopw [6] (fun i wr => ∃ k : Nat, k ≤ l.length ∧ i = .int .i64 k ∧ w.grownBy wr none ∧ Hid (jump1 s l.length (l.drop k) = jump1 s l.length l)) (fun i _ => l.length - (intOf i).toNat)
  case atStart => exact ⟨0, Nat.zero_le _, rfl, grownBy_refl _ _, rfl⟩
  case round =>
    obtain ⟨k, hk, rfl, hgr, hj⟩ := hrel
    by_cases hlt : k < l.length
    · obtain ⟨g, hao⟩ : ∃ g, ao = some ⟨g, 0, none⟩ := by
        rcases (HO.out).2 with ⟨_, h0⟩ | ⟨g, cp, cur, hv, _⟩
        · omega
        · simp at hv
          exact ⟨g, hv.1⟩
      subst hao
      obtain ⟨d0, d1, d2, d3, d4, d5, d6⟩ := step_cells HO.out hgr k hlt
      have hdig := good_dig (HG.out l[k] (List.getElem_mem hlt))
      have hpk := pk_range s l[k]
      have HE : Hid _ := jumpBad_eq s l.length l[k]
      have HPL : Hid (pk s l[k] = 122 ∨ pk s l[k] = 106 → cPl s l[k] = (stepAt s l[k] : Int)) := by
        intro h; unfold cPl; rw [if_pos (by rcases h with h | h <;> simp [h])]
      have HJh : Hid (jumpBad s l.length l[k] = true → jump1 s l.length l = some (stepAt s l[k])) := fun h => by rw [← hj.out]; exact jump_hit hlt h
      have HJm : Hid (jumpBad s l.length l[k] = false → jump1 s l.length (l.drop (k + 1)) = jump1 s l.length l) := fun h => by rw [← hj.out]; exact (jump_miss hlt h).symm
      have HGR : Hid _ := hgr
      clear hj hgr
      generalize jumpBad s l.length l[k] = jb at *
      generalize pk s l[k] = p at *
      generalize cNum s l[k] = x1 at *
      generalize cSec s l[k] = x2 at *
      generalize cCell s l[k] = x3 at *
      generalize cLock s l[k] = x4 at *
      generalize cDig s l[k] = d at *
      generalize cPl s l[k] = x6 at *
      generalize stepAt s l[k] = sa at *
      by_cases h1 : p = 122
      · subst h1
        by_cases hd : (l.length : Int) < d
        · have hb : jb = true := by rw [HE.out]; simp [hd]
          go_wp2_with fail
          refine ⟨rfl, ?_, grownBy_alloc2 HGR.out _⟩
          unfold JumpPost
          rw [HJh.out hb, HPL.out (by simp)]
          rfl
        · have hb : jb = false := by rw [HE.out]; simp; omega
          go_wp2_with fail
          go_roundw
          case rel => exact ⟨k + 1, by omega, by go_num, grownBy_alloc2 HGR.out _, HJm.out hb⟩
          case measure => simp [intOf]; omega
      by_cases h2 : p = 106
      · subst h2
        by_cases hd : (l.length : Int) < d
        · have hb : jb = true := by rw [HE.out]; simp [hd]
          go_wp2_with fail
          refine ⟨rfl, ?_, grownBy_alloc2 HGR.out _⟩
          unfold JumpPost
          rw [HJh.out hb, HPL.out (by simp)]
          rfl
        · have hb : jb = false := by rw [HE.out]; simp; omega
          go_wp2_with fail
          go_roundw
          case rel => exact ⟨k + 1, by omega, by go_num, grownBy_alloc2 HGR.out _, HJm.out hb⟩
          case measure => simp [intOf]; omega
      have q1 : (p == 122) = false := by simpa using h1
      have q2 : (p == 106) = false := by simpa using h2
      have hb : jb = false := by rw [HE.out, q1, q2]; rfl
      clear h1 h2
      go_wp2_with fail
      go_roundw
      case rel => exact ⟨k + 1, by omega, by go_num, grownBy_alloc2 HGR.out _, HJm.out hb⟩
      case measure => simp [intOf]; omega
    · go_wp2_with fail
      go_end0
      refine ⟨?_, hgr⟩
      unfold JumpPost
      rw [← hj.out, List.drop_of_length_le (by omega)]
      rfl

end Go.Proofs.Ytimgindeiekpmaa
